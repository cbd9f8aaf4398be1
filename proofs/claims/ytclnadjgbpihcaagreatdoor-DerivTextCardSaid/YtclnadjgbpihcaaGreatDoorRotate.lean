/- The rotation of two ranges by exchanges. No condition. -/
import Derived.Test.YtclnadjgbpihcaaGreatDoorKeyed
namespace Go.Proofs.YtclnadjgbpihcaaGreatDoor
open Go.RowKit Go.Sort Go.Lib Go.Shelf
set_option linter.unusedVariables false
set_option linter.unusedSimpArgs false

set_option maxHeartbeats 2000000 in
set_option maxRecDepth 100000 in
theorem rotate_any {w0 : World} {blk off : Nat} {d0 : Array KE} (R : RowK KE.enc 7 w0 blk off d0) (hsz : d0.size < 4611686018427387904) (fv : Value) (cap a m b : Nat) (d : Array KE) (w : World) (hS : SW7 w0 blk off d w) (hd : d.size = d0.size)
    (ham : a < m) (hmb : m < b) (hb : b ≤ d.size) :
    Calls Tryz.prog 97 #[.slice (some ⟨blk, off, none⟩) d.size cap, .int .i64 a, .int .i64 m, .int .i64 b, fv] w fun e w' =>
      e = .returned (.tuple #[]) ∧ ∃ d', SW7 w0 blk off d' w' ∧ IsRot a m b d d' ∧ PermIn a b d d' := by
  have HS : Hid (SW7 w0 blk off d w) := hS
  have HR : Hid (RowK KE.enc 7 w0 blk off d0) := R
  have HD : Hid (d.size = d0.size) := hd
  have hz : d.size < 4611686018427387904 := by omega
  clear hS R hd
  have hc1 : ((m : Int) - (a : Int)) = ((m - a : Nat) : Int) := by omega
  have hc2 : ((b : Int) - (m : Int)) = ((b - m : Nat) : Int) := by omega
  go_enter Tryz.func97, Tryz.ntmps97
  go_wp2
  go_loopg [10, 11] (b - a) (fun g vi vj wr => ∃ (i j : Nat) (dk : Array KE), vi = .int .i64 i ∧ vj = .int .i64 j ∧ 0 < i ∧ 0 < j ∧ i ≤ m - a ∧ j ≤ b - m ∧ i + j ≤ g ∧ SW7 w0 blk off dk wr ∧ Hid (RotTo a m b i j d dk) ∧ Hid (PermIn a b d dk) ∧ dk.size = d.size)
  case atStart => exact ⟨m - a, b - m, d, rfl, rfl, by omega, by omega, by omega, by omega, by omega, HS.out, RotTo.start (by omega) (by omega) d, permIn_refl _ _ _, rfl⟩
  case round =>
    obtain ⟨i, j, dk, rfl, rfl, hi0, hj0, hi, hj, hg, hW, HT, HP, hdk⟩ := hrel
    rcases Nat.lt_trichotomy i j with hij | hij | hij
    · have t1 : ((i : Int) == (j : Int)) = false := by simp; omega
      have t0 : ((i : Int) != (j : Int)) = true := by simp; omega
      have t2 : decide ((i : Int) > (j : Int)) = false := by simp; omega
      have t3 : ¬ (j : Int) < (i : Int) := by omega
      have e1 : ((m : Int) - (i : Int)) = ((m - i : Nat) : Int) := by omega
      have e2 : ((m : Int) + (j : Int) - (i : Int)) = ((m + j - i : Nat) : Int) := by omega
      have e3 : ((j : Int) - (i : Int)) = ((j - i : Nat) : Int) := by omega
      have hcon := swaprange_any HR.out hsz fv cap (m - i) (m + j - i) i dk wr hW (by rw [hdk]; exact HD.out) (by omega) (by omega)
      rw [hdk] at hcon
      clear hW
      have HK : Hid (dk.size = d.size) := hdk
      clear hdk
      go_wp2_with fail
      ((with_reducible refine hcon.mono ?_))
      rintro e w1 ⟨rfl, d1, hW1, hI1, hP1⟩
      have HW1 : Hid (SW7 w0 blk off d1 w1) := hW1
      have HI1 : Hid (IsSwp (m - i) (m + j - i) i dk d1) := hI1
      have HP1 : Hid (PermIn a b dk d1) := hP1 a b (by omega) (by omega) (by omega)
      have HZ : Hid (d1.size = d.size) := hI1.1.trans HK.out
      clear hW1 hI1 hP1 hcon
      go_wp2
      go_roundg (i + (j - i))
      case measure => omega
      case rel => exact ⟨i, j - i, d1, rfl, by go_num, by omega, by omega, by omega, by omega, Nat.le_refl _, HW1.out, HT.out.right (by omega) hij HI1.out, permIn_trans _ _ _ _ _ HP.out HP1.out, HZ.out⟩
    · subst hij
      have t1 : ((i : Int) == (i : Int)) = true := by simp
      have e1 : ((m : Int) - (i : Int)) = ((m - i : Nat) : Int) := by omega
      have hcon := swaprange_any HR.out hsz fv cap (m - i) m i dk wr hW (by rw [hdk]; exact HD.out) (by omega) (by omega)
      rw [hdk] at hcon
      clear hW
      have HK : Hid (dk.size = d.size) := hdk
      clear hdk
      go_wp2_with fail
      ((with_reducible refine hcon.mono ?_))
      rintro e w1 ⟨rfl, d1, hW1, hI1, hP1⟩
      go_wp2
      go_end0
      exact ⟨rfl, d1, hW1, HT.out.done (by omega) hI1, permIn_trans _ _ _ _ _ HP.out (hP1 a b (by omega) (by omega) (by omega))⟩
    · have t1 : ((i : Int) == (j : Int)) = false := by simp; omega
      have t0 : ((i : Int) != (j : Int)) = true := by simp; omega
      have t2 : decide ((i : Int) > (j : Int)) = true := by simp; omega
      have t3 : (j : Int) < (i : Int) := by omega
      have e1 : ((m : Int) - (i : Int)) = ((m - i : Nat) : Int) := by omega
      have e3 : ((i : Int) - (j : Int)) = ((i - j : Nat) : Int) := by omega
      have hcon := swaprange_any HR.out hsz fv cap (m - i) m j dk wr hW (by rw [hdk]; exact HD.out) (by omega) (by omega)
      rw [hdk] at hcon
      clear hW
      have HK : Hid (dk.size = d.size) := hdk
      clear hdk
      go_wp2_with fail
      ((with_reducible refine hcon.mono ?_))
      rintro e w1 ⟨rfl, d1, hW1, hI1, hP1⟩
      have HW1 : Hid (SW7 w0 blk off d1 w1) := hW1
      have HI1 : Hid (IsSwp (m - i) m j dk d1) := hI1
      have HP1 : Hid (PermIn a b dk d1) := hP1 a b (by omega) (by omega) (by omega)
      have HZ : Hid (d1.size = d.size) := hI1.1.trans HK.out
      clear hW1 hI1 hP1 hcon
      go_wp2
      go_roundg (i - j + j)
      case measure => omega
      case rel => exact ⟨i - j, j, d1, by go_num, rfl, by omega, by omega, by omega, by omega, Nat.le_refl _, HW1.out, HT.out.left (by omega) hij HI1.out, permIn_trans _ _ _ _ _ HP.out HP1.out, HZ.out⟩

end Go.Proofs.YtclnadjgbpihcaaGreatDoor

