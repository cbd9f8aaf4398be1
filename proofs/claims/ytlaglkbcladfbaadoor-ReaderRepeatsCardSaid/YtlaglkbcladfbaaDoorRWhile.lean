/- A run of bytes of one kind is read by the program as the words say; for every text of at most 50000 bytes. -/
import Derived.Test.YtlaglkbcladfbaaDoorRTake
namespace Go.Proofs.YtlaglkbcladfbaaDoor
open Go.RowKit
set_option linter.unusedVariables false
set_option linter.unusedSimpArgs false

/-- Up to where the text in block R is read. -/
def posOf (R : Nat) (w : World) : Nat := match w.cell? ⟨R, 1, none⟩ with | some (.int _ p) => p.toNat | _ => 0
theorem At.pos {w : World} {R : Nat} {s : ByteArray} {p d : Nat} (h : At w R s p d) : posOf R w = p := by
  unfold posOf
  rw [h.cells.2.1]
  simp

/-- The call returns the bytes of this kind, as many as there are. -/
def GivesRun (P : Int → Bool) (R : Nat) (s : ByteArray) (p d : Nat) (w : World) (e : Ending) (w' : World) : Prop :=
  ∃ q, IsRun P (rd s) p q ∧ q ≤ s.size ∧ Gives R s d (.string (s.extract p q)) q w e w'

/-- Within the loop. -/
def InRun (P : Int → Bool) (R : Nat) (s : ByteArray) (p d : Nat) (w wr : World) (q : Nat) : Prop :=
  At wr R s q d ∧ w.grownBy wr (some R) ∧ p ≤ q ∧ q ≤ s.size ∧ ∀ i, p ≤ i → i < q → P (rd s i) = true

theorem run_lt {P : Int → Bool} {s : ByteArray} {q : Nat} (h0 : P 0 = false) (h : P (nx (rd s) q) = true) : q < s.size := by
  by_cases g : q < s.size
  · exact g
  · rw [nx_out g, h0] at h; cases h
theorem run_yes {P : Int → Bool} {s : ByteArray} {q : Nat} (hlt : q < s.size) (h : P (nx (rd s) q) = true) : P (rd s q) = true := by rwa [nx_in hlt, ← rd_in hlt] at h
theorem run_stop {P : Int → Bool} {s : ByteArray} {q : Nat} (h0 : P 0 = false) (hn : P (-1) = false) (h : P (nx (rd s) q) = false) : P (rd s q) = false := by
  by_cases g : q < s.size
  · rwa [nx_in g, ← rd_in g] at h
  · rw [rd_out g]; exact hn
theorem run_next {P : Int → Bool} {f : Nat → Int} {p q : Nat} (hall : ∀ i, p ≤ i → i < q → P (f i) = true) (h : P (f q) = true) : ∀ i, p ≤ i → i < q + 1 → P (f i) = true := by
  intro i h1 h2
  by_cases g : i = q
  · subst g; exact h
  · exact hall i h1 (by omega)

set_option maxRecDepth 100000 in
theorem while_blank {R p d : Nat} {s : ByteArray} {w : World} (h : At w R s p d) (hs : s.size ≤ 50000) (hp : p ≤ s.size) :
    Calls Tryd.prog 78 #[.pointer (some ⟨R, 0, none⟩), .func (Fn.func 79) #[] #[]] w (GivesRun isBl R s p d w) := by
  obtain ⟨c0, c1, c2, z0, z1, z2⟩ := h.cells
  have H := Lib.hid h
  clear h
  go_enter Tryd.func78, Tryd.ntmps78
  go_wp2_with fail
  clear c0 c1 c2 z0 z1 z2
  go_loopw [] (fun wr => ∃ q : Nat, InRun isBl R s p d w wr q) (fun wr => s.size - posOf R wr)
  case atStart => exact ⟨p, H.out, grown_refl _ _, Nat.le_refl _, hp, fun i h1 h2 => absurd h1 (by omega)⟩
  case round =>
    obtain ⟨q, ha, hg, hpq, hqs, hall⟩ := hrel
    have HA := Lib.hid ha
    have HG := Lib.hid hg
    have HL := Lib.hid hall
    have HM := Lib.hid ha.pos
    obtain ⟨c0, c1, c2, z0, z1, z2⟩ := ha.cells
    have hr := nx_range s q
    clear ha hg hall
    cases hb : isBl (nx (rd s) q)
    · have HB := Lib.hid hb
      have hle : decide ((p : Int) ≤ (q : Int)) = true := by simp; omega
      have hle2 : decide ((q : Int) ≤ (s.size : Int)) = true := by simp; omega
      clear hb
      go_wp2_with fail
      refine (next_any HA.out hs hqs).mono ?_
      rintro e w' ⟨rfl, n, rfl⟩
      go_wp2_with fail
      refine (blank_any _ _).mono ?_
      rw [HB.out]
      rintro e w' ⟨rfl, rfl⟩
      go_wp2_with fail
      go_quiet (fail)
      go_wp2_with fail
      go_ret
      exact ⟨q, ⟨hpq, HL.out, run_stop (by decide) (by decide) HB.out⟩, hqs, rfl, (HA.out.drew _).drew _, grown_drew (grown_drew HG.out _) _⟩
    · have HB := Lib.hid hb
      have hlt := run_lt (by decide) hb
      clear hb
      go_wp2_with fail
      refine (next_any HA.out hs hqs).mono ?_
      rintro e w' ⟨rfl, n, rfl⟩
      go_wp2_with fail
      refine (blank_any _ _).mono ?_
      rw [HB.out]
      rintro e w' ⟨rfl, rfl⟩
      go_wp2_with fail
      go_roundw
      case rel => exact ⟨q + 1, (HA.out.drew n).step, grown_set (grown_drew HG.out n) _ _, by omega, by omega, run_next HL.out (run_yes hlt HB.out)⟩
      case measure =>
        rw [HM.out, (HA.out.drew n).step.pos]
        omega

set_option maxRecDepth 100000 in
theorem while_name {R p d : Nat} {s : ByteArray} {w : World} (h : At w R s p d) (hs : s.size ≤ 50000) (hp : p ≤ s.size) :
    Calls Tryd.prog 78 #[.pointer (some ⟨R, 0, none⟩), .func (Fn.func 107) #[] #[]] w (GivesRun isNm R s p d w) := by
  obtain ⟨c0, c1, c2, z0, z1, z2⟩ := h.cells
  have H := Lib.hid h
  clear h
  go_enter Tryd.func78, Tryd.ntmps78
  go_wp2_with fail
  clear c0 c1 c2 z0 z1 z2
  go_loopw [] (fun wr => ∃ q : Nat, InRun isNm R s p d w wr q) (fun wr => s.size - posOf R wr)
  case atStart => exact ⟨p, H.out, grown_refl _ _, Nat.le_refl _, hp, fun i h1 h2 => absurd h1 (by omega)⟩
  case round =>
    obtain ⟨q, ha, hg, hpq, hqs, hall⟩ := hrel
    have HA := Lib.hid ha
    have HG := Lib.hid hg
    have HL := Lib.hid hall
    have HM := Lib.hid ha.pos
    obtain ⟨c0, c1, c2, z0, z1, z2⟩ := ha.cells
    have hr := nx_range s q
    clear ha hg hall
    cases hb : isNm (nx (rd s) q)
    · have HB := Lib.hid hb
      have hle : decide ((p : Int) ≤ (q : Int)) = true := by simp; omega
      have hle2 : decide ((q : Int) ≤ (s.size : Int)) = true := by simp; omega
      clear hb
      go_wp2_with fail
      refine (next_any HA.out hs hqs).mono ?_
      rintro e w' ⟨rfl, n, rfl⟩
      go_wp2_with fail
      refine (name_any _ hr.1 hr.2 _).mono ?_
      rw [HB.out]
      rintro e w' ⟨rfl, rfl⟩
      go_wp2_with fail
      go_quiet (fail)
      go_wp2_with fail
      go_ret
      exact ⟨q, ⟨hpq, HL.out, run_stop (by decide) (by decide) HB.out⟩, hqs, rfl, (HA.out.drew _).drew _, grown_drew (grown_drew HG.out _) _⟩
    · have HB := Lib.hid hb
      have hlt := run_lt (by decide) hb
      clear hb
      go_wp2_with fail
      refine (next_any HA.out hs hqs).mono ?_
      rintro e w' ⟨rfl, n, rfl⟩
      go_wp2_with fail
      refine (name_any _ hr.1 hr.2 _).mono ?_
      rw [HB.out]
      rintro e w' ⟨rfl, rfl⟩
      go_wp2_with fail
      go_roundw
      case rel => exact ⟨q + 1, (HA.out.drew n).step, grown_set (grown_drew HG.out n) _ _, by omega, by omega, run_next HL.out (run_yes hlt HB.out)⟩
      case measure =>
        rw [HM.out, (HA.out.drew n).step.pos]
        omega

set_option maxRecDepth 100000 in
theorem while_string {R p d : Nat} {s : ByteArray} {w : World} (h : At w R s p d) (hs : s.size ≤ 50000) (hp : p ≤ s.size) :
    Calls Tryd.prog 78 #[.pointer (some ⟨R, 0, none⟩), .func (Fn.func 175) #[] #[]] w (GivesRun isSt R s p d w) := by
  obtain ⟨c0, c1, c2, z0, z1, z2⟩ := h.cells
  have H := Lib.hid h
  clear h
  go_enter Tryd.func78, Tryd.ntmps78
  go_wp2_with fail
  clear c0 c1 c2 z0 z1 z2
  go_loopw [] (fun wr => ∃ q : Nat, InRun isSt R s p d w wr q) (fun wr => s.size - posOf R wr)
  case atStart => exact ⟨p, H.out, grown_refl _ _, Nat.le_refl _, hp, fun i h1 h2 => absurd h1 (by omega)⟩
  case round =>
    obtain ⟨q, ha, hg, hpq, hqs, hall⟩ := hrel
    have HA := Lib.hid ha
    have HG := Lib.hid hg
    have HL := Lib.hid hall
    have HM := Lib.hid ha.pos
    obtain ⟨c0, c1, c2, z0, z1, z2⟩ := ha.cells
    have hr := nx_range s q
    clear ha hg hall
    cases hb : isSt (nx (rd s) q)
    · have HB := Lib.hid hb
      have hle : decide ((p : Int) ≤ (q : Int)) = true := by simp; omega
      have hle2 : decide ((q : Int) ≤ (s.size : Int)) = true := by simp; omega
      clear hb
      go_wp2_with fail
      refine (next_any HA.out hs hqs).mono ?_
      rintro e w' ⟨rfl, n, rfl⟩
      go_wp2_with fail
      refine (string_any _ _).mono ?_
      rw [HB.out]
      rintro e w' ⟨rfl, rfl⟩
      go_wp2_with fail
      go_quiet (fail)
      go_wp2_with fail
      go_ret
      exact ⟨q, ⟨hpq, HL.out, run_stop (by decide) (by decide) HB.out⟩, hqs, rfl, (HA.out.drew _).drew _, grown_drew (grown_drew HG.out _) _⟩
    · have HB := Lib.hid hb
      have hlt := run_lt (by decide) hb
      clear hb
      go_wp2_with fail
      refine (next_any HA.out hs hqs).mono ?_
      rintro e w' ⟨rfl, n, rfl⟩
      go_wp2_with fail
      refine (string_any _ _).mono ?_
      rw [HB.out]
      rintro e w' ⟨rfl, rfl⟩
      go_wp2_with fail
      go_roundw
      case rel => exact ⟨q + 1, (HA.out.drew n).step, grown_set (grown_drew HG.out n) _ _, by omega, by omega, run_next HL.out (run_yes hlt HB.out)⟩
      case measure =>
        rw [HM.out, (HA.out.drew n).step.pos]
        omega

set_option maxRecDepth 100000 in
theorem while_comment {R p d : Nat} {s : ByteArray} {w : World} (h : At w R s p d) (hs : s.size ≤ 50000) (hp : p ≤ s.size) :
    Calls Tryd.prog 78 #[.pointer (some ⟨R, 0, none⟩), .func (Fn.func 123) #[] #[]] w (GivesRun isCm R s p d w) := by
  obtain ⟨c0, c1, c2, z0, z1, z2⟩ := h.cells
  have H := Lib.hid h
  clear h
  go_enter Tryd.func78, Tryd.ntmps78
  go_wp2_with fail
  clear c0 c1 c2 z0 z1 z2
  go_loopw [] (fun wr => ∃ q : Nat, InRun isCm R s p d w wr q) (fun wr => s.size - posOf R wr)
  case atStart => exact ⟨p, H.out, grown_refl _ _, Nat.le_refl _, hp, fun i h1 h2 => absurd h1 (by omega)⟩
  case round =>
    obtain ⟨q, ha, hg, hpq, hqs, hall⟩ := hrel
    have HA := Lib.hid ha
    have HG := Lib.hid hg
    have HL := Lib.hid hall
    have HM := Lib.hid ha.pos
    obtain ⟨c0, c1, c2, z0, z1, z2⟩ := ha.cells
    have hr := nx_range s q
    clear ha hg hall
    cases hb : isCm (nx (rd s) q)
    · have HB := Lib.hid hb
      have hle : decide ((p : Int) ≤ (q : Int)) = true := by simp; omega
      have hle2 : decide ((q : Int) ≤ (s.size : Int)) = true := by simp; omega
      clear hb
      go_wp2_with fail
      refine (next_any HA.out hs hqs).mono ?_
      rintro e w' ⟨rfl, n, rfl⟩
      go_wp2_with fail
      refine (comment_any _ _).mono ?_
      rw [HB.out]
      rintro e w' ⟨rfl, rfl⟩
      go_wp2_with fail
      go_quiet (fail)
      go_wp2_with fail
      go_ret
      exact ⟨q, ⟨hpq, HL.out, run_stop (by decide) (by decide) HB.out⟩, hqs, rfl, (HA.out.drew _).drew _, grown_drew (grown_drew HG.out _) _⟩
    · have HB := Lib.hid hb
      have hlt := run_lt (by decide) hb
      clear hb
      go_wp2_with fail
      refine (next_any HA.out hs hqs).mono ?_
      rintro e w' ⟨rfl, n, rfl⟩
      go_wp2_with fail
      refine (comment_any _ _).mono ?_
      rw [HB.out]
      rintro e w' ⟨rfl, rfl⟩
      go_wp2_with fail
      go_roundw
      case rel => exact ⟨q + 1, (HA.out.drew n).step, grown_set (grown_drew HG.out n) _ _, by omega, by omega, run_next HL.out (run_yes hlt HB.out)⟩
      case measure =>
        rw [HM.out, (HA.out.drew n).step.pos]
        omega

end Go.Proofs.YtlaglkbcladfbaaDoor
