/- What the document's answers for Join, Meet, Without, Turned and Count return: contracts for all sets; memory that was there stays as it was. -/
import Derived.Test.YtclnadjgbpihcaaGreatDoorPick
namespace Go.Proofs.YtclnadjgbpihcaaGreatDoor
open Go.RowKit

set_option maxHeartbeats 1000000 in
theorem refjoin_any (a0 a1 a2 a3 b0 b1 b2 b3 : Int) (f g : Nat → Bool) (w : World) (ha : IsSet a0 a1 a2 a3 f) (hb : IsSet b0 b1 b2 b3 g) :
    Calls Tryz.prog 36 #[.agg #[.int .u64 a0, .int .u64 a1, .int .u64 a2, .int .u64 a3], .agg #[.int .u64 b0, .int .u64 b1, .int .u64 b2, .int .u64 b3]] w (RetSet (fun j => f j || g j) w) := by
  have h3 := Box4.new' ((w.alloc (.cells #[.int .u64 a0, .int .u64 a1, .int .u64 a2, .int .u64 a3] 25)).alloc (.cells #[.int .u64 b0, .int .u64 b1, .int .u64 b2, .int .u64 b3] 25)) (w.heap.size + 1 + 1) 0 0 0 0 (by simp)
  go_enter Tryz.func36, Tryz.ntmps36
  go_wp2_with (go_at_call 50; refine (pick_any _ _ _ _ _ _ _ _ _ _ _ _ _ _ _ ha hb).mono ?_; rintro e w1 ⟨r0, r1, r2, r3, hr1, rfl, hb1⟩; have hR1 := h3.below hb1 h3.lt; have hd0 := hR1.cell0; have hd1 := hR1.cell1; have hd2 := hR1.cell2; have hd3 := hR1.cell3; have hf0 := hR1.frozen 0; have hf1 := hR1.frozen 1; have hf2 := hR1.frozen 2; have hf3 := hR1.frozen 3)
  refine bodyPost_ret (v := .agg #[.int .u64 r0, .int .u64 r1, .int .u64 r2, .int .u64 r3]) ?_ rfl ⟨_, _, _, _, hr1.congr (fun b _ => ?_), rfl, ?_⟩
  · simp [results, Tryz.results36, go_sem, hd0, hd1, hd2, hd3]
  · simp only [pk]; cases f b <;> cases g b <;> rfl
  · have hb2 : Below w.heap.size w w1 := Below.trans (by go_grown) (hb1.mono (by simp; omega))
    go_grown

/-- How many of the bytes ahead of n are in the set. -/
def cnt (f : Nat → Bool) : Nat → Nat
  | 0 => 0
  | n + 1 => cnt f n + (f n).toNat

theorem cnt_le (f : Nat → Bool) : ∀ n, cnt f n ≤ n
  | 0 => Nat.le_refl _
  | n + 1 => by have := cnt_le f n; unfold cnt; cases f n <;> simp <;> omega

theorem cnt_congr {f g : Nat → Bool} : ∀ {n}, (∀ j, j < n → f j = g j) → cnt f n = cnt g n
  | 0, _ => rfl
  | n + 1, h => by unfold cnt; rw [cnt_congr (n := n) (fun j hj => h j (by omega)), h n (by omega)]

/-- The call returns a number, and leaves what was there. -/
def RetNum (n : Int) (w : World) (e : Ending) (w' : World) : Prop := e = .returned (.int .i64 n) ∧ Below w.heap.size w w'

set_option maxRecDepth 20000 in
set_option maxHeartbeats 1000000 in
theorem refcount_any (a0 a1 a2 a3 : Int) (f : Nat → Bool) (w : World) (ha : IsSet a0 a1 a2 a3 f) :
    Calls Tryz.prog 37 #[.agg #[.int .u64 a0, .int .u64 a1, .int .u64 a2, .int .u64 a3]] w (RetNum (cnt f 256) w) := by
  obtain ⟨N, hN⟩ : ∃ N, N = cnt f 256 := ⟨_, rfl⟩
  rw [← hN]
  have HN := Lib.hid hN
  clear hN
  go_enter Tryz.func37, Tryz.ntmps37
  go_wp2
  go_loopw [3, 4] (fun n b wr => ∃ k : Nat, b = .int .i64 k ∧ k ≤ 256 ∧ n = .int .i64 (cnt f k) ∧ Box4 wr w.heap.size a0 a1 a2 a3 ∧ Below w.heap.size w wr)
    (fun _ b _ => (256 - intOf b).toNat)
  case atStart => exact ⟨0, rfl, by omega, rfl, Box4.new _ _ _ _ _, by go_grown⟩
  case round =>
    obtain ⟨k, rfl, hk, rfl, hba, hbel⟩ := hrel
    have hc0 := hba.cell0
    have hc1 := hba.cell1
    have hc2 := hba.cell2
    have hc3 := hba.cell3
    have hl := cnt_le f k
    by_cases ht : k < 256
    · have hs : cnt f (k + 1) = cnt f k + (f k).toNat := rfl
      have hfe := hasB_nat f k ht
      have HS := Lib.hid hs
      clear hs
      cases hfk : f k with
      | true =>
        rw [hfk] at hfe
        have HF := Lib.hid hfk
        clear hfk
        go_wp2_with (go_at_call 35; refine (refhas_any _ _ _ _ _ _ _ ha).mono ?_; rintro e w' ⟨rfl, rfl⟩)
        go_roundw
        case rel => exact ⟨k + 1, by go_num, by omega, by rw [HS.out, HF.out]; go_num, hba.alloc _, below_alloc hbel _⟩
        case measure => simp [intOf]; omega
      | false =>
        rw [hfk] at hfe
        have HF := Lib.hid hfk
        clear hfk
        go_wp2_with (go_at_call 35; refine (refhas_any _ _ _ _ _ _ _ ha).mono ?_; rintro e w' ⟨rfl, rfl⟩)
        go_roundw
        case rel => exact ⟨k + 1, by go_num, by omega, by rw [HS.out, HF.out]; rfl, hba.alloc _, below_alloc hbel _⟩
        case measure => simp [intOf]; omega
    · obtain rfl : k = 256 := by omega
      rw [← HN.out]
      go_wp2
      go_ret
      exact ⟨rfl, hbel⟩

end Go.Proofs.YtclnadjgbpihcaaGreatDoor

