/- What the document's answer for Of returns: the scalar value whose bytes these are, or -1; for all lists of one to four bytes. -/
import Derived.Test.YtdcjlncbchhanaaCnt
namespace Go.Proofs.Ytdcjlncbchhanaa
open Go.RowKit
set_option linter.unusedVariables false

theorem and7 (x : Int) (h0 : 0 ≤ x) (h1 : x < 4294967296) : bits .and .i64 x 7 = x % 8 := and_mask 3 (by omega) x h0 h1
theorem and15 (x : Int) (h0 : 0 ≤ x) (h1 : x < 4294967296) : bits .and .i64 x 15 = x % 16 := and_mask 4 (by omega) x h0 h1
theorem and31 (x : Int) (h0 : 0 ≤ x) (h1 : x < 4294967296) : bits .and .i64 x 31 = x % 32 := and_mask 5 (by omega) x h0 h1

theorem getD_at (l : List Int) {i : Nat} (h : i < l.length) : l.getD i 0 = l[i] := by simp [h]

/-- The number that these bytes would be of, if it is. -/
def ofB (D : Int) (xs : List Int) : Int := if encS D = xs then D else -1

theorem ofB_yes {D : Int} {xs : List Int} (h : encS D = xs) : ofB D xs = D := by unfold ofB; rw [if_pos h]
theorem ofB_no {D : Int} {xs : List Int} (h : encS D ≠ xs) : ofB D xs = -1 := by unfold ofB; rw [if_neg h]

set_option maxRecDepth 100000 in
set_option maxHeartbeats 4000000 in
theorem of_1 (g cap : Nat) (x0 : Int) (w : World) (hg : g < w.heap.size) (c0 : w.cell? ⟨g, 0, none⟩ = some (.int .i64 x0)) (b0 : 0 ≤ x0 ∧ x0 ≤ 255) :
    Calls Try.prog 17 #[.slice (some ⟨g, 0, none⟩) 1 cap] w (GivesNum (ofB (x0) [x0]) w) := by
  obtain ⟨l0, u0⟩ := b0
  obtain ⟨R, hR⟩ : ∃ R, R = ofB (x0) [x0] := ⟨_, rfl⟩
  rw [← hR]
  have HR := Lib.hid hR
  clear hR
  go_enter Try.func17, Try.ntmps17
  go_wp2
  refine wp_loop_rounds 1 ?_
  rw [rounds_succ]
  go_wp2_with fail
  refine (refbytes_any _ _).mono ?_
  rintro e w1 ⟨b, rfl, hv, hb1⟩
  have d0 := (hb1.cell (p := ⟨g, 0, none⟩) hg).trans c0
  have hg1 : g < w1.heap.size := Nat.lt_of_lt_of_le hg hb1.size
  have HW : Below w.heap.size w w1 := hb1
  have hX : ∀ i, i < 1 → w1.cell? ⟨g, i, none⟩ = some (.int .i64 ([x0].getD i 0)) := by
    intro i hi
    have hi' : i = 0 := by omega
    rcases hi' with rfl
    · exact d0
  have HX := Lib.hid hX
  have HB := Lib.hid hb1
  clear hX hb1 d0 c0
  generalize hE : encS (x0) = E at hv
  have HE := Lib.hid hE
  clear hE
  obtain ⟨m, hm⟩ : ∃ m, m = E.length := ⟨_, rfl⟩
  have hvm := hv
  rw [← hm] at hvm
  by_cases hl : m = 1
  · subst hl
    obtain ⟨g2, c2, rfl⟩ := (row_forms hvm).resolve_left (fun h => by omega)
    have hg2 := (row_base hvm).2.2.2
    have hY : ∀ i, i < 1 → w1.cell? ⟨g2, i, none⟩ = some (.int .i64 (E.getD i 0)) := by
      intro i hi
      have hi' : i < E.length := by omega
      rw [row_cell hvm (icells_at E i hi')]
      simp [hi']
    have HY := Lib.hid hY
    have HM := Lib.hid hm
    clear hY hv hvm hm
    go_wp2_with fail
    go_loopw [6] (fun i wr => ∃ k : Nat, i = .int .i64 k ∧ k ≤ 1 ∧ (∀ i, i < k → E.getD i 0 = [x0].getD i 0) ∧ Below w1.heap.size w1 wr) (fun i _ => 1 - (intOf i).toNat)
    case atStart => exact ⟨0, rfl, by omega, fun i h => absurd h (Nat.not_lt_zero i), Below.refl _ _⟩
    case round =>
      obtain ⟨k, rfl, hk, hin, hbel⟩ := hrel
      have HI := Lib.hid hin
      clear hin
      by_cases ht : k < 1
      · have e0 := (hbel.cell (p := ⟨g2, k, none⟩) hg2).trans (HY.out k ht)
        have e1 := (hbel.cell (p := ⟨g, k, none⟩) hg1).trans (HX.out k ht)
        obtain ⟨x, hx⟩ : ∃ x, x = [x0].getD k 0 := ⟨_, rfl⟩
        obtain ⟨y, hy⟩ : ∃ x, x = E.getD k 0 := ⟨_, rfl⟩
        rw [← hx] at e1
        rw [← hy] at e0
        have Hx := Lib.hid hx
        have Hy := Lib.hid hy
        clear hx hy
        by_cases hc : y = x
        · subst hc
          go_wp2
          go_quiet (fail)
          go_wp2
          go_roundw
          case rel =>
            refine ⟨k + 1, by go_num, by omega, fun i h => ?_, below_drawn hbel _⟩
            by_cases hik : i < k
            · exact HI.out i hik
            · obtain rfl : i = k := by omega
              rw [← Hx.out, ← Hy.out]
          case measure => simp [intOf]; omega
        · have q0 : (y == x) = false := by simp; exact hc
          have q1 : (y != x) = true := by simp; exact hc
          have HH := Lib.hid hc
          clear hc
          go_wp2
          go_quiet (fail)
          go_wp2
          go_ret
          refine ⟨?_, below_drawn (below_then HW hbel) _⟩
          rw [HR.out, ofB_no]
          · rfl
          · rw [HE.out]
            rintro rfl
            exact HH.out (by rw [Hx.out, Hy.out])
      · obtain rfl : k = 1 := by omega
        go_wp2
        go_ret
        refine ⟨?_, below_then HW hbel⟩
        rw [HR.out, ofB_yes]
        · rfl
        · rw [HE.out]
          refine List.ext_getElem (by simp [← HM.out]) fun i h1 h2 => ?_
          have hi : i < 1 := by simpa using h2
          have h3 := HI.out i hi
          exact ((getD_at E h1).symm.trans h3).trans (getD_at _ h2)
  · obtain ⟨ab, cb, rfl⟩ : ∃ a c, b = .slice a m c := by
      rcases row_forms hvm with ⟨h, h0⟩ | ⟨g, c, h⟩
      · exact ⟨_, _, by rw [h0]; exact h⟩
      · exact ⟨_, _, h⟩
    have z0 : ((m : Int) == 1) = false := by simp; omega
    have z1 : ((m : Int) != 1) = true := by simp; omega
    have HL := Lib.hid hl
    have HM := Lib.hid hm
    clear hl hm hv hvm
    go_wp2_with fail
    go_ret
    refine ⟨?_, HW⟩
    rw [HR.out, ofB_no]
    · rfl
    · rw [HE.out]
      rintro rfl
      exact HL.out HM.out

set_option maxRecDepth 100000 in
set_option maxHeartbeats 4000000 in
theorem of_2 (g cap : Nat) (x0 x1 : Int) (w : World) (hg : g < w.heap.size) (c0 : w.cell? ⟨g, 0, none⟩ = some (.int .i64 x0)) (c1 : w.cell? ⟨g, 1, none⟩ = some (.int .i64 x1)) (b0 : 0 ≤ x0 ∧ x0 ≤ 255) (b1 : 0 ≤ x1 ∧ x1 ≤ 255) :
    Calls Try.prog 17 #[.slice (some ⟨g, 0, none⟩) 2 cap] w (GivesNum (ofB (x0 % 32 * 64 + x1 % 64) [x0, x1]) w) := by
  obtain ⟨l0, u0⟩ := b0
  obtain ⟨l1, u1⟩ := b1
  have m0 := and31 x0 (by omega) (by omega)
  have m1 := and63 x1 (by omega) (by omega)
  obtain ⟨R, hR⟩ : ∃ R, R = ofB (x0 % 32 * 64 + x1 % 64) [x0, x1] := ⟨_, rfl⟩
  rw [← hR]
  have HR := Lib.hid hR
  clear hR
  go_enter Try.func17, Try.ntmps17
  go_wp2
  go_quiet (fail)
  go_wp2
  refine wp_loop_rounds 2 ?_
  rw [rounds_succ]
  go_wp2
  rw [rounds_succ]
  go_wp2_with fail
  refine (refbytes_any _ _).mono ?_
  rintro e w1 ⟨b, rfl, hv, hb1⟩
  have d0 := (hb1.cell (p := ⟨g, 0, none⟩) hg).trans c0
  have d1 := (hb1.cell (p := ⟨g, 1, none⟩) hg).trans c1
  have hg1 : g < w1.heap.size := Nat.lt_of_lt_of_le hg hb1.size
  have HW : Below w.heap.size w w1 := below_then (below_drawn (Below.refl _ _) _) hb1
  have hX : ∀ i, i < 2 → w1.cell? ⟨g, i, none⟩ = some (.int .i64 ([x0, x1].getD i 0)) := by
    intro i hi
    have hi' : i = 0 ∨ i = 1 := by omega
    rcases hi' with rfl | rfl
    · exact d0
    · exact d1
  have HX := Lib.hid hX
  have HB := Lib.hid hb1
  clear hX hb1 d0 c0 d1 c1
  generalize hE : encS (x0 % 32 * 64 + x1 % 64) = E at hv
  have HE := Lib.hid hE
  clear hE
  obtain ⟨m, hm⟩ : ∃ m, m = E.length := ⟨_, rfl⟩
  have hvm := hv
  rw [← hm] at hvm
  by_cases hl : m = 2
  · subst hl
    obtain ⟨g2, c2, rfl⟩ := (row_forms hvm).resolve_left (fun h => by omega)
    have hg2 := (row_base hvm).2.2.2
    have hY : ∀ i, i < 2 → w1.cell? ⟨g2, i, none⟩ = some (.int .i64 (E.getD i 0)) := by
      intro i hi
      have hi' : i < E.length := by omega
      rw [row_cell hvm (icells_at E i hi')]
      simp [hi']
    have HY := Lib.hid hY
    have HM := Lib.hid hm
    clear hY hv hvm hm
    go_wp2_with fail
    go_loopw [6] (fun i wr => ∃ k : Nat, i = .int .i64 k ∧ k ≤ 2 ∧ (∀ i, i < k → E.getD i 0 = [x0, x1].getD i 0) ∧ Below w1.heap.size w1 wr) (fun i _ => 2 - (intOf i).toNat)
    case atStart => exact ⟨0, rfl, by omega, fun i h => absurd h (Nat.not_lt_zero i), Below.refl _ _⟩
    case round =>
      obtain ⟨k, rfl, hk, hin, hbel⟩ := hrel
      have HI := Lib.hid hin
      clear hin
      by_cases ht : k < 2
      · have e0 := (hbel.cell (p := ⟨g2, k, none⟩) hg2).trans (HY.out k ht)
        have e1 := (hbel.cell (p := ⟨g, k, none⟩) hg1).trans (HX.out k ht)
        obtain ⟨x, hx⟩ : ∃ x, x = [x0, x1].getD k 0 := ⟨_, rfl⟩
        obtain ⟨y, hy⟩ : ∃ x, x = E.getD k 0 := ⟨_, rfl⟩
        rw [← hx] at e1
        rw [← hy] at e0
        have Hx := Lib.hid hx
        have Hy := Lib.hid hy
        clear hx hy
        by_cases hc : y = x
        · subst hc
          go_wp2
          go_quiet (fail)
          go_wp2
          go_roundw
          case rel =>
            refine ⟨k + 1, by go_num, by omega, fun i h => ?_, below_drawn hbel _⟩
            by_cases hik : i < k
            · exact HI.out i hik
            · obtain rfl : i = k := by omega
              rw [← Hx.out, ← Hy.out]
          case measure => simp [intOf]; omega
        · have q0 : (y == x) = false := by simp; exact hc
          have q1 : (y != x) = true := by simp; exact hc
          have HH := Lib.hid hc
          clear hc
          go_wp2
          go_quiet (fail)
          go_wp2
          go_ret
          refine ⟨?_, below_drawn (below_then HW hbel) _⟩
          rw [HR.out, ofB_no]
          · rfl
          · rw [HE.out]
            rintro rfl
            exact HH.out (by rw [Hx.out, Hy.out])
      · obtain rfl : k = 2 := by omega
        go_wp2
        go_ret
        refine ⟨?_, below_then HW hbel⟩
        rw [HR.out, ofB_yes]
        · rfl
        · rw [HE.out]
          refine List.ext_getElem (by simp [← HM.out]) fun i h1 h2 => ?_
          have hi : i < 2 := by simpa using h2
          have h3 := HI.out i hi
          exact ((getD_at E h1).symm.trans h3).trans (getD_at _ h2)
  · obtain ⟨ab, cb, rfl⟩ : ∃ a c, b = .slice a m c := by
      rcases row_forms hvm with ⟨h, h0⟩ | ⟨g, c, h⟩
      · exact ⟨_, _, by rw [h0]; exact h⟩
      · exact ⟨_, _, h⟩
    have z0 : ((m : Int) == 2) = false := by simp; omega
    have z1 : ((m : Int) != 2) = true := by simp; omega
    have HL := Lib.hid hl
    have HM := Lib.hid hm
    clear hl hm hv hvm
    go_wp2_with fail
    go_ret
    refine ⟨?_, HW⟩
    rw [HR.out, ofB_no]
    · rfl
    · rw [HE.out]
      rintro rfl
      exact HL.out HM.out

set_option maxRecDepth 100000 in
set_option maxHeartbeats 4000000 in
theorem of_3 (g cap : Nat) (x0 x1 x2 : Int) (w : World) (hg : g < w.heap.size) (c0 : w.cell? ⟨g, 0, none⟩ = some (.int .i64 x0)) (c1 : w.cell? ⟨g, 1, none⟩ = some (.int .i64 x1)) (c2 : w.cell? ⟨g, 2, none⟩ = some (.int .i64 x2)) (b0 : 0 ≤ x0 ∧ x0 ≤ 255) (b1 : 0 ≤ x1 ∧ x1 ≤ 255) (b2 : 0 ≤ x2 ∧ x2 ≤ 255) :
    Calls Try.prog 17 #[.slice (some ⟨g, 0, none⟩) 3 cap] w (GivesNum (ofB ((x0 % 16 * 64 + x1 % 64) * 64 + x2 % 64) [x0, x1, x2]) w) := by
  obtain ⟨l0, u0⟩ := b0
  obtain ⟨l1, u1⟩ := b1
  obtain ⟨l2, u2⟩ := b2
  have m0 := and15 x0 (by omega) (by omega)
  have m1 := and63 x1 (by omega) (by omega)
  have m2 := and63 x2 (by omega) (by omega)
  obtain ⟨R, hR⟩ : ∃ R, R = ofB ((x0 % 16 * 64 + x1 % 64) * 64 + x2 % 64) [x0, x1, x2] := ⟨_, rfl⟩
  rw [← hR]
  have HR := Lib.hid hR
  clear hR
  go_enter Try.func17, Try.ntmps17
  go_wp2
  go_quiet (fail)
  go_wp2
  refine wp_loop_rounds 3 ?_
  rw [rounds_succ]
  go_wp2
  rw [rounds_succ]
  go_wp2
  rw [rounds_succ]
  go_wp2_with fail
  refine (refbytes_any _ _).mono ?_
  rintro e w1 ⟨b, rfl, hv, hb1⟩
  have d0 := (hb1.cell (p := ⟨g, 0, none⟩) hg).trans c0
  have d1 := (hb1.cell (p := ⟨g, 1, none⟩) hg).trans c1
  have d2 := (hb1.cell (p := ⟨g, 2, none⟩) hg).trans c2
  have hg1 : g < w1.heap.size := Nat.lt_of_lt_of_le hg hb1.size
  have HW : Below w.heap.size w w1 := below_then (below_drawn (Below.refl _ _) _) hb1
  have hX : ∀ i, i < 3 → w1.cell? ⟨g, i, none⟩ = some (.int .i64 ([x0, x1, x2].getD i 0)) := by
    intro i hi
    have hi' : i = 0 ∨ i = 1 ∨ i = 2 := by omega
    rcases hi' with rfl | rfl | rfl
    · exact d0
    · exact d1
    · exact d2
  have HX := Lib.hid hX
  have HB := Lib.hid hb1
  clear hX hb1 d0 c0 d1 c1 d2 c2
  generalize hE : encS ((x0 % 16 * 64 + x1 % 64) * 64 + x2 % 64) = E at hv
  have HE := Lib.hid hE
  clear hE
  obtain ⟨m, hm⟩ : ∃ m, m = E.length := ⟨_, rfl⟩
  have hvm := hv
  rw [← hm] at hvm
  by_cases hl : m = 3
  · subst hl
    obtain ⟨g2, c2, rfl⟩ := (row_forms hvm).resolve_left (fun h => by omega)
    have hg2 := (row_base hvm).2.2.2
    have hY : ∀ i, i < 3 → w1.cell? ⟨g2, i, none⟩ = some (.int .i64 (E.getD i 0)) := by
      intro i hi
      have hi' : i < E.length := by omega
      rw [row_cell hvm (icells_at E i hi')]
      simp [hi']
    have HY := Lib.hid hY
    have HM := Lib.hid hm
    clear hY hv hvm hm
    go_wp2_with fail
    go_loopw [6] (fun i wr => ∃ k : Nat, i = .int .i64 k ∧ k ≤ 3 ∧ (∀ i, i < k → E.getD i 0 = [x0, x1, x2].getD i 0) ∧ Below w1.heap.size w1 wr) (fun i _ => 3 - (intOf i).toNat)
    case atStart => exact ⟨0, rfl, by omega, fun i h => absurd h (Nat.not_lt_zero i), Below.refl _ _⟩
    case round =>
      obtain ⟨k, rfl, hk, hin, hbel⟩ := hrel
      have HI := Lib.hid hin
      clear hin
      by_cases ht : k < 3
      · have e0 := (hbel.cell (p := ⟨g2, k, none⟩) hg2).trans (HY.out k ht)
        have e1 := (hbel.cell (p := ⟨g, k, none⟩) hg1).trans (HX.out k ht)
        obtain ⟨x, hx⟩ : ∃ x, x = [x0, x1, x2].getD k 0 := ⟨_, rfl⟩
        obtain ⟨y, hy⟩ : ∃ x, x = E.getD k 0 := ⟨_, rfl⟩
        rw [← hx] at e1
        rw [← hy] at e0
        have Hx := Lib.hid hx
        have Hy := Lib.hid hy
        clear hx hy
        by_cases hc : y = x
        · subst hc
          go_wp2
          go_quiet (fail)
          go_wp2
          go_roundw
          case rel =>
            refine ⟨k + 1, by go_num, by omega, fun i h => ?_, below_drawn hbel _⟩
            by_cases hik : i < k
            · exact HI.out i hik
            · obtain rfl : i = k := by omega
              rw [← Hx.out, ← Hy.out]
          case measure => simp [intOf]; omega
        · have q0 : (y == x) = false := by simp; exact hc
          have q1 : (y != x) = true := by simp; exact hc
          have HH := Lib.hid hc
          clear hc
          go_wp2
          go_quiet (fail)
          go_wp2
          go_ret
          refine ⟨?_, below_drawn (below_then HW hbel) _⟩
          rw [HR.out, ofB_no]
          · rfl
          · rw [HE.out]
            rintro rfl
            exact HH.out (by rw [Hx.out, Hy.out])
      · obtain rfl : k = 3 := by omega
        go_wp2
        go_ret
        refine ⟨?_, below_then HW hbel⟩
        rw [HR.out, ofB_yes]
        · rfl
        · rw [HE.out]
          refine List.ext_getElem (by simp [← HM.out]) fun i h1 h2 => ?_
          have hi : i < 3 := by simpa using h2
          have h3 := HI.out i hi
          exact ((getD_at E h1).symm.trans h3).trans (getD_at _ h2)
  · obtain ⟨ab, cb, rfl⟩ : ∃ a c, b = .slice a m c := by
      rcases row_forms hvm with ⟨h, h0⟩ | ⟨g, c, h⟩
      · exact ⟨_, _, by rw [h0]; exact h⟩
      · exact ⟨_, _, h⟩
    have z0 : ((m : Int) == 3) = false := by simp; omega
    have z1 : ((m : Int) != 3) = true := by simp; omega
    have HL := Lib.hid hl
    have HM := Lib.hid hm
    clear hl hm hv hvm
    go_wp2_with fail
    go_ret
    refine ⟨?_, HW⟩
    rw [HR.out, ofB_no]
    · rfl
    · rw [HE.out]
      rintro rfl
      exact HL.out HM.out

set_option maxRecDepth 100000 in
set_option maxHeartbeats 4000000 in
theorem of_4 (g cap : Nat) (x0 x1 x2 x3 : Int) (w : World) (hg : g < w.heap.size) (c0 : w.cell? ⟨g, 0, none⟩ = some (.int .i64 x0)) (c1 : w.cell? ⟨g, 1, none⟩ = some (.int .i64 x1)) (c2 : w.cell? ⟨g, 2, none⟩ = some (.int .i64 x2)) (c3 : w.cell? ⟨g, 3, none⟩ = some (.int .i64 x3)) (b0 : 0 ≤ x0 ∧ x0 ≤ 255) (b1 : 0 ≤ x1 ∧ x1 ≤ 255) (b2 : 0 ≤ x2 ∧ x2 ≤ 255) (b3 : 0 ≤ x3 ∧ x3 ≤ 255) :
    Calls Try.prog 17 #[.slice (some ⟨g, 0, none⟩) 4 cap] w (GivesNum (ofB (((x0 % 8 * 64 + x1 % 64) * 64 + x2 % 64) * 64 + x3 % 64) [x0, x1, x2, x3]) w) := by
  obtain ⟨l0, u0⟩ := b0
  obtain ⟨l1, u1⟩ := b1
  obtain ⟨l2, u2⟩ := b2
  obtain ⟨l3, u3⟩ := b3
  have m0 := and7 x0 (by omega) (by omega)
  have m1 := and63 x1 (by omega) (by omega)
  have m2 := and63 x2 (by omega) (by omega)
  have m3 := and63 x3 (by omega) (by omega)
  obtain ⟨R, hR⟩ : ∃ R, R = ofB (((x0 % 8 * 64 + x1 % 64) * 64 + x2 % 64) * 64 + x3 % 64) [x0, x1, x2, x3] := ⟨_, rfl⟩
  rw [← hR]
  have HR := Lib.hid hR
  clear hR
  go_enter Try.func17, Try.ntmps17
  go_wp2
  go_quiet (fail)
  go_wp2
  refine wp_loop_rounds 4 ?_
  rw [rounds_succ]
  go_wp2
  rw [rounds_succ]
  go_wp2
  rw [rounds_succ]
  go_wp2
  rw [rounds_succ]
  go_wp2_with fail
  refine (refbytes_any _ _).mono ?_
  rintro e w1 ⟨b, rfl, hv, hb1⟩
  have d0 := (hb1.cell (p := ⟨g, 0, none⟩) hg).trans c0
  have d1 := (hb1.cell (p := ⟨g, 1, none⟩) hg).trans c1
  have d2 := (hb1.cell (p := ⟨g, 2, none⟩) hg).trans c2
  have d3 := (hb1.cell (p := ⟨g, 3, none⟩) hg).trans c3
  have hg1 : g < w1.heap.size := Nat.lt_of_lt_of_le hg hb1.size
  have HW : Below w.heap.size w w1 := below_then (below_drawn (Below.refl _ _) _) hb1
  have hX : ∀ i, i < 4 → w1.cell? ⟨g, i, none⟩ = some (.int .i64 ([x0, x1, x2, x3].getD i 0)) := by
    intro i hi
    have hi' : i = 0 ∨ i = 1 ∨ i = 2 ∨ i = 3 := by omega
    rcases hi' with rfl | rfl | rfl | rfl
    · exact d0
    · exact d1
    · exact d2
    · exact d3
  have HX := Lib.hid hX
  have HB := Lib.hid hb1
  clear hX hb1 d0 c0 d1 c1 d2 c2 d3 c3
  generalize hE : encS (((x0 % 8 * 64 + x1 % 64) * 64 + x2 % 64) * 64 + x3 % 64) = E at hv
  have HE := Lib.hid hE
  clear hE
  obtain ⟨m, hm⟩ : ∃ m, m = E.length := ⟨_, rfl⟩
  have hvm := hv
  rw [← hm] at hvm
  by_cases hl : m = 4
  · subst hl
    obtain ⟨g2, c2, rfl⟩ := (row_forms hvm).resolve_left (fun h => by omega)
    have hg2 := (row_base hvm).2.2.2
    have hY : ∀ i, i < 4 → w1.cell? ⟨g2, i, none⟩ = some (.int .i64 (E.getD i 0)) := by
      intro i hi
      have hi' : i < E.length := by omega
      rw [row_cell hvm (icells_at E i hi')]
      simp [hi']
    have HY := Lib.hid hY
    have HM := Lib.hid hm
    clear hY hv hvm hm
    go_wp2_with fail
    go_loopw [6] (fun i wr => ∃ k : Nat, i = .int .i64 k ∧ k ≤ 4 ∧ (∀ i, i < k → E.getD i 0 = [x0, x1, x2, x3].getD i 0) ∧ Below w1.heap.size w1 wr) (fun i _ => 4 - (intOf i).toNat)
    case atStart => exact ⟨0, rfl, by omega, fun i h => absurd h (Nat.not_lt_zero i), Below.refl _ _⟩
    case round =>
      obtain ⟨k, rfl, hk, hin, hbel⟩ := hrel
      have HI := Lib.hid hin
      clear hin
      by_cases ht : k < 4
      · have e0 := (hbel.cell (p := ⟨g2, k, none⟩) hg2).trans (HY.out k ht)
        have e1 := (hbel.cell (p := ⟨g, k, none⟩) hg1).trans (HX.out k ht)
        obtain ⟨x, hx⟩ : ∃ x, x = [x0, x1, x2, x3].getD k 0 := ⟨_, rfl⟩
        obtain ⟨y, hy⟩ : ∃ x, x = E.getD k 0 := ⟨_, rfl⟩
        rw [← hx] at e1
        rw [← hy] at e0
        have Hx := Lib.hid hx
        have Hy := Lib.hid hy
        clear hx hy
        by_cases hc : y = x
        · subst hc
          go_wp2
          go_quiet (fail)
          go_wp2
          go_roundw
          case rel =>
            refine ⟨k + 1, by go_num, by omega, fun i h => ?_, below_drawn hbel _⟩
            by_cases hik : i < k
            · exact HI.out i hik
            · obtain rfl : i = k := by omega
              rw [← Hx.out, ← Hy.out]
          case measure => simp [intOf]; omega
        · have q0 : (y == x) = false := by simp; exact hc
          have q1 : (y != x) = true := by simp; exact hc
          have HH := Lib.hid hc
          clear hc
          go_wp2
          go_quiet (fail)
          go_wp2
          go_ret
          refine ⟨?_, below_drawn (below_then HW hbel) _⟩
          rw [HR.out, ofB_no]
          · rfl
          · rw [HE.out]
            rintro rfl
            exact HH.out (by rw [Hx.out, Hy.out])
      · obtain rfl : k = 4 := by omega
        go_wp2
        go_ret
        refine ⟨?_, below_then HW hbel⟩
        rw [HR.out, ofB_yes]
        · rfl
        · rw [HE.out]
          refine List.ext_getElem (by simp [← HM.out]) fun i h1 h2 => ?_
          have hi : i < 4 := by simpa using h2
          have h3 := HI.out i hi
          exact ((getD_at E h1).symm.trans h3).trans (getD_at _ h2)
  · obtain ⟨ab, cb, rfl⟩ : ∃ a c, b = .slice a m c := by
      rcases row_forms hvm with ⟨h, h0⟩ | ⟨g, c, h⟩
      · exact ⟨_, _, by rw [h0]; exact h⟩
      · exact ⟨_, _, h⟩
    have z0 : ((m : Int) == 4) = false := by simp; omega
    have z1 : ((m : Int) != 4) = true := by simp; omega
    have HL := Lib.hid hl
    have HM := Lib.hid hm
    clear hl hm hv hvm
    go_wp2_with fail
    go_ret
    refine ⟨?_, HW⟩
    rw [HR.out, ofB_no]
    · rfl
    · rw [HE.out]
      rintro rfl
      exact HL.out HM.out

/-- R is the scalar value whose bytes these are, or -1. -/
def OfSpec (xs : List Int) (R : Int) : Prop := (Sc R ∧ xs = enc R) ∨ (R = -1 ∧ ∀ c, Sc c → xs ≠ enc c)

theorem ofB_spec {D : Int} {xs : List Int} (hne : xs ≠ []) (hd : ∀ c, Sc c → xs = enc c → D = c) : OfSpec xs (ofB D xs) := by
  by_cases h : encS D = xs
  · rw [ofB_yes h]
    cases hs : isSc D with
    | false => rw [encS_no hs] at h; exact absurd h.symm hne
    | true => rw [encS_sc hs] at h; exact .inl ⟨(isSc_iff D).1 hs, h.symm⟩
  · rw [ofB_no h]
    refine .inr ⟨rfl, fun c hc e => h ?_⟩
    rw [hd c hc e, encS_sc ((isSc_iff c).2 hc), e]

theorem dec_1 {x0 c : Int} (hc : Sc c) (h : [x0] = enc c) : x0 = c := by
  unfold Sc at hc
  unfold enc at h
  repeat' split at h
  all_goals simp at h
  all_goals omega
theorem dec_2 {x0 x1 c : Int} (hc : Sc c) (h : [x0, x1] = enc c) : x0 % 32 * 64 + x1 % 64 = c := by
  unfold Sc at hc
  unfold enc at h
  repeat' split at h
  all_goals simp at h
  all_goals omega
theorem dec_3 {x0 x1 x2 c : Int} (hc : Sc c) (h : [x0, x1, x2] = enc c) : (x0 % 16 * 64 + x1 % 64) * 64 + x2 % 64 = c := by
  unfold Sc at hc
  unfold enc at h
  repeat' split at h
  all_goals simp at h
  all_goals omega
theorem dec_4 {x0 x1 x2 x3 c : Int} (hc : Sc c) (h : [x0, x1, x2, x3] = enc c) : ((x0 % 8 * 64 + x1 % 64) * 64 + x2 % 64) * 64 + x3 % 64 = c := by
  unfold Sc at hc
  unfold enc at h
  repeat' split at h
  all_goals simp at h
  all_goals omega

/-- What Of gives. -/
def GivesOf (xs : List Int) (w : World) (e : Ending) (w' : World) : Prop := ∃ R, OfSpec xs R ∧ e = .returned (.int .i64 R) ∧ Below w.heap.size w w'

theorem of_any (xs : List Int) (g cap : Nat) (w : World) (h1 : 1 ≤ xs.length) (h4 : xs.length ≤ 4) (hg : g < w.heap.size) (hc : ∀ (i : Nat) (h : i < xs.length), w.cell? ⟨g, i, none⟩ = some (.int .i64 xs[i])) (hb : ∀ x ∈ xs, 0 ≤ x ∧ x ≤ 255) :
    Calls Try.prog 17 #[.slice (some ⟨g, 0, none⟩) xs.length cap] w (GivesOf xs w) := by
  match xs, h1, h4, hc, hb with
  | [x0], _, _, hc, hb => exact (of_1 g cap x0 w hg (hc 0 (by simp)) (hb _ (by simp))).mono fun e w' ⟨he, hw⟩ => ⟨_, ofB_spec (by simp) (fun c => dec_1), he, hw⟩
  | [x0, x1], _, _, hc, hb => exact (of_2 g cap x0 x1 w hg (hc 0 (by simp)) (hc 1 (by simp)) (hb _ (by simp)) (hb _ (by simp))).mono fun e w' ⟨he, hw⟩ => ⟨_, ofB_spec (by simp) (fun c => dec_2), he, hw⟩
  | [x0, x1, x2], _, _, hc, hb => exact (of_3 g cap x0 x1 x2 w hg (hc 0 (by simp)) (hc 1 (by simp)) (hc 2 (by simp)) (hb _ (by simp)) (hb _ (by simp)) (hb _ (by simp))).mono fun e w' ⟨he, hw⟩ => ⟨_, ofB_spec (by simp) (fun c => dec_3), he, hw⟩
  | [x0, x1, x2, x3], _, _, hc, hb => exact (of_4 g cap x0 x1 x2 x3 w hg (hc 0 (by simp)) (hc 1 (by simp)) (hc 2 (by simp)) (hc 3 (by simp)) (hb _ (by simp)) (hb _ (by simp)) (hb _ (by simp)) (hb _ (by simp))).mono fun e w' ⟨he, hw⟩ => ⟨_, ofB_spec (by simp) (fun c => dec_4), he, hw⟩

theorem of_cnt {lo hi R : Int} {xs : List Int} (hlo : 0 ≤ lo) (hR : OfSpec xs R) {L : List (Int × Int)} (h : Parts (max lo 0) (min hi 1114111) L) : cntB xs (L.map seqOf) = if lo ≤ R ∧ R ≤ hi then 1 else 0 := by
  rcases hR with ⟨hs, rfl⟩ | ⟨rfl, hn⟩
  · have := seqs_sc h ((isSc_iff R).2 hs)
    rwa [encS_sc ((isSc_iff R).2 hs)] at this
  · rw [if_neg (by omega)]
    exact h.cnt_no (by omega) (by omega) xs hn

theorem of_lo {R : Int} {xs : List Int} (hR : OfSpec xs R) : -1 ≤ R ∧ R ≤ 1114111 := by
  rcases hR with ⟨hs, _⟩ | ⟨rfl, _⟩
  · unfold Sc at hs; omega
  · omega

end Go.Proofs.Ytdcjlncbchhanaa
