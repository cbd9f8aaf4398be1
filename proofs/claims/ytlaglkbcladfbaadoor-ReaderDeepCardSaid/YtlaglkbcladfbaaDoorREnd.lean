/- The end of a line is read by the program as the words say; for every text of at most 50000 bytes. -/
import Derived.Test.YtlaglkbcladfbaaDoorRWhile
namespace Go.Proofs.YtlaglkbcladfbaaDoor
open Go.RowKit
set_option linter.unusedVariables false
set_option linter.unusedSimpArgs false

/-- Where a line's end ends, as the program says it. -/
noncomputable def endNum (f : Nat → Int) (p : Nat) : Int := match lineEnd f p with | some e => e | none => -1

theorem end_a {f : Nat → Int} {p q : Nat} (h : comEnd f p = q) (h1 : f q < 0) : endNum f p = q := by unfold endNum lineEnd; rw [h, if_pos h1]
theorem end_b {f : Nat → Int} {p q : Nat} (h : comEnd f p = q) (h1 : f q = 10) : endNum f p = (q : Int) + 1 := by unfold endNum lineEnd; rw [h, if_neg (by omega), if_pos h1]; simp
theorem end_c {f : Nat → Int} {p q : Nat} (h : comEnd f p = q) (h1 : f q = 13) (h2 : f (q + 1) = 10) : endNum f p = (q : Int) + 2 := by unfold endNum lineEnd; rw [h, if_neg (by omega), if_neg (by omega), if_pos ⟨h1, h2⟩]; simp
theorem end_d {f : Nat → Int} {p q : Nat} (h : comEnd f p = q) (h0 : ¬ f q < 0) (h1 : f q ≠ 10) (h2 : ¬ (f q = 13 ∧ f (q + 1) = 10)) : endNum f p = -1 := by unfold endNum lineEnd; rw [h, if_neg h0, if_neg h1, if_neg h2]

theorem below_grown {B : Nat} {a w w' : World} {R : Nat} (h : Below B a w) (hg : w.grownBy w' (some R)) (hB : B ≤ w.heap.size) (hR : B ≤ R) : Below B a w' := h.grown hg hB (fun k hk => by cases hk; exact hR)

theorem ret_num {a b : Int} (h : a = b) : Ending.returned (.int .i64 a) = .returned (.int .i64 b) := by rw [h]

set_option maxRecDepth 100000 in
theorem behind_any {R p d : Nat} {s : ByteArray} {w : World} (h : At w R s p d) (hs : s.size ≤ 50000) (hp : p ≤ s.size) :
    Calls Tryd.prog 106 #[.pointer (some ⟨R, 0, none⟩)] w (GivesNum (endNum (rd s) p) w) := by
  obtain ⟨c0, c1, c2, z0, z1, z2⟩ := h.cells
  have hR := h.lt
  have hA : At (w.alloc (.cells #[.string s, .int .i64 p, .int .i64 d] 69)) w.heap.size s p d := by
    unfold At
    show (w.heap.push _)[w.heap.size]? = _
    simp
  have hB : Below w.heap.size w (w.alloc (.cells #[.string s, .int .i64 p, .int .i64 d] 69)) := (Below.refl _ _).alloc (Nat.le_refl _) _
  have HA := Lib.hid hA
  have HB := Lib.hid hB
  have H := Lib.hid h
  clear h hA hB
  go_enter Tryd.func106, Tryd.ntmps106
  go_wp2_with fail
  have hcases : (rd s p = 59 ∧ p < s.size) ∨ rd s p ≠ 59 := by
    by_cases g : rd s p = 59
    · exact .inl ⟨g, by by_cases k : p < s.size; exact k; rw [rd_out k] at g; omega⟩
    · exact .inr g
  have hsz : w.heap.size ≤ (w.alloc (.cells #[.string s, .int .i64 p, .int .i64 d] 69)).heap.size := HB.out.size
  rcases hcases with ⟨h59, hlt⟩ | h59
  · have H59 := Lib.hid h59
    clear h59 c0 c1 c2 z0 z1 z2
    refine (taken_yes HA.out hs 59 (by omega) H59.out).mono ?_
    rintro e w1 ⟨rfl, ha, hg⟩
    have HA1 := Lib.hid ha
    have HB1 := Lib.hid (below_grown HB.out hg hsz (Nat.le_refl _))
    clear ha hg HA HB
    go_wp2_with fail
    refine (while_comment HA1.out hs (by omega)).mono ?_
    rintro e w2 ⟨q, hrun, hqs, rfl, ha, hg⟩
    have HA := Lib.hid ha
    have HB := Lib.hid (below_grown HB1.out hg HB1.out.size (Nat.le_refl _))
    have HC : Hid (comEnd (rd s) p = q) := by unfold comEnd; rw [if_pos H59.out]; exact hrun.eq
    obtain ⟨c0, c1, c2, z0, z1, z2⟩ := ha.cells
    clear ha hg hrun HA1 HB1 H59 hlt hsz H
    by_cases hq : q < s.size
    · have q1 : decide (q = s.size) = false := by simp; omega
      by_cases h10 : rd s q = 10
      · have H10 := Lib.hid h10
        clear h10
        go_wp2_with fail
        refine (taken_yes HA.out hs 10 (by omega) H10.out).mono ?_
        rintro e w3 ⟨rfl, ha, hg⟩
        have HB2 := Lib.hid (below_grown HB.out hg HB.out.size (Nat.le_refl _))
        obtain ⟨c0', c1', c2', z0', z1', z2'⟩ := ha.cells
        clear ha hg c0 c1 c2 z0 z1 z2
        go_wp2
        go_ret
        exact ⟨ret_num (by rw [end_b HC.out H10.out]), HB2.out⟩
      · have H10 := Lib.hid h10
        clear h10
        go_wp2_with fail
        refine (taken_no HA.out hs hqs 10 (by omega) H10.out).mono ?_
        rintro e w3 ⟨rfl, ha, hg⟩
        have HA3 := Lib.hid ha
        have HB3 := Lib.hid (below_grown HB.out hg HB.out.size (Nat.le_refl _))
        clear ha hg c0 c1 c2 z0 z1 z2 HA HB
        by_cases h13 : rd s q = 13
        · have H13 := Lib.hid h13
          clear h13
          go_wp2_with fail
          refine (taken_yes HA3.out hs 13 (by omega) H13.out).mono ?_
          rintro e w4 ⟨rfl, ha, hg⟩
          have HA4 := Lib.hid ha
          have HB4 := Lib.hid (below_grown HB3.out hg HB3.out.size (Nat.le_refl _))
          clear ha hg HA3 HB3
          by_cases h11 : rd s (q + 1) = 10
          · have H11 := Lib.hid h11
            clear h11
            go_wp2_with fail
            refine (taken_yes HA4.out hs 10 (by omega) H11.out).mono ?_
            rintro e w5 ⟨rfl, ha, hg⟩
            have HB5 := Lib.hid (below_grown HB4.out hg HB4.out.size (Nat.le_refl _))
            obtain ⟨c0', c1', c2', z0', z1', z2'⟩ := ha.cells
            clear ha hg
            go_wp2
            go_ret
            exact ⟨ret_num (by rw [end_c HC.out H13.out H11.out]; omega), HB5.out⟩
          · have H11 := Lib.hid h11
            clear h11
            go_wp2_with fail
            refine (taken_no HA4.out hs (by omega) 10 (by omega) H11.out).mono ?_
            rintro e w5 ⟨rfl, ha, hg⟩
            have HB5 := Lib.hid (below_grown HB4.out hg HB4.out.size (Nat.le_refl _))
            clear ha hg
            go_wp2
            go_ret
            exact ⟨ret_num (by rw [end_d HC.out (by rw [H13.out]; omega) H10.out (fun g => H11.out g.2)]), HB5.out⟩
        · have H13 := Lib.hid h13
          clear h13
          go_wp2_with fail
          refine (taken_no HA3.out hs hqs 13 (by omega) H13.out).mono ?_
          rintro e w4 ⟨rfl, ha, hg⟩
          have HB4 := Lib.hid (below_grown HB3.out hg HB3.out.size (Nat.le_refl _))
          clear ha hg
          go_wp2
          go_ret
          exact ⟨ret_num (by rw [end_d HC.out (by rw [rd_in hq]; omega) H10.out (fun g => H13.out g.1)]), HB4.out⟩
    · obtain ⟨n, hn⟩ : ∃ n, n = s.size := ⟨_, rfl⟩
      have HN := Lib.hid hn
      obtain rfl : q = n := by omega
      have q1 : decide (q = s.size) = true := by simp; omega
      clear hn
      go_wp2_with fail
      go_ret
      exact ⟨ret_num (by rw [end_a HC.out (by rw [rd_out hq]; omega)]; omega), HB.out⟩
  · have H59 := Lib.hid h59
    clear h59 c0 c1 c2 z0 z1 z2
    refine (taken_no HA.out hs hp 59 (by omega) H59.out).mono ?_
    rintro e w2 ⟨rfl, ha, hg⟩
    have HA1 := Lib.hid ha
    have HB1 := Lib.hid (below_grown HB.out hg hsz (Nat.le_refl _))
    have HC : Hid (comEnd (rd s) p = p) := by unfold comEnd; rw [if_neg H59.out]; exact rfl
    obtain ⟨c0, c1, c2, z0, z1, z2⟩ := ha.cells
    clear ha hg HA HB H59 hsz H
    have HA := HA1
    have HB := HB1
    clear HA1 HB1
    obtain ⟨q, hq⟩ : ∃ q, q = p := ⟨_, rfl⟩
    subst hq
    have hqs := hp
    by_cases hq : q < s.size
    · have q1 : decide (q = s.size) = false := by simp; omega
      by_cases h10 : rd s q = 10
      · have H10 := Lib.hid h10
        clear h10
        go_wp2_with fail
        refine (taken_yes HA.out hs 10 (by omega) H10.out).mono ?_
        rintro e w3 ⟨rfl, ha, hg⟩
        have HB2 := Lib.hid (below_grown HB.out hg HB.out.size (Nat.le_refl _))
        obtain ⟨c0', c1', c2', z0', z1', z2'⟩ := ha.cells
        clear ha hg c0 c1 c2 z0 z1 z2
        go_wp2
        go_ret
        exact ⟨ret_num (by rw [end_b HC.out H10.out]), HB2.out⟩
      · have H10 := Lib.hid h10
        clear h10
        go_wp2_with fail
        refine (taken_no HA.out hs hqs 10 (by omega) H10.out).mono ?_
        rintro e w3 ⟨rfl, ha, hg⟩
        have HA3 := Lib.hid ha
        have HB3 := Lib.hid (below_grown HB.out hg HB.out.size (Nat.le_refl _))
        clear ha hg c0 c1 c2 z0 z1 z2 HA HB
        by_cases h13 : rd s q = 13
        · have H13 := Lib.hid h13
          clear h13
          go_wp2_with fail
          refine (taken_yes HA3.out hs 13 (by omega) H13.out).mono ?_
          rintro e w4 ⟨rfl, ha, hg⟩
          have HA4 := Lib.hid ha
          have HB4 := Lib.hid (below_grown HB3.out hg HB3.out.size (Nat.le_refl _))
          clear ha hg HA3 HB3
          by_cases h11 : rd s (q + 1) = 10
          · have H11 := Lib.hid h11
            clear h11
            go_wp2_with fail
            refine (taken_yes HA4.out hs 10 (by omega) H11.out).mono ?_
            rintro e w5 ⟨rfl, ha, hg⟩
            have HB5 := Lib.hid (below_grown HB4.out hg HB4.out.size (Nat.le_refl _))
            obtain ⟨c0', c1', c2', z0', z1', z2'⟩ := ha.cells
            clear ha hg
            go_wp2
            go_ret
            exact ⟨ret_num (by rw [end_c HC.out H13.out H11.out]; omega), HB5.out⟩
          · have H11 := Lib.hid h11
            clear h11
            go_wp2_with fail
            refine (taken_no HA4.out hs (by omega) 10 (by omega) H11.out).mono ?_
            rintro e w5 ⟨rfl, ha, hg⟩
            have HB5 := Lib.hid (below_grown HB4.out hg HB4.out.size (Nat.le_refl _))
            clear ha hg
            go_wp2
            go_ret
            exact ⟨ret_num (by rw [end_d HC.out (by rw [H13.out]; omega) H10.out (fun g => H11.out g.2)]), HB5.out⟩
        · have H13 := Lib.hid h13
          clear h13
          go_wp2_with fail
          refine (taken_no HA3.out hs hqs 13 (by omega) H13.out).mono ?_
          rintro e w4 ⟨rfl, ha, hg⟩
          have HB4 := Lib.hid (below_grown HB3.out hg HB3.out.size (Nat.le_refl _))
          clear ha hg
          go_wp2
          go_ret
          exact ⟨ret_num (by rw [end_d HC.out (by rw [rd_in hq]; omega) H10.out (fun g => H13.out g.1)]), HB4.out⟩
    · obtain ⟨n, hn⟩ : ∃ n, n = s.size := ⟨_, rfl⟩
      have HN := Lib.hid hn
      obtain rfl : q = n := by omega
      have q1 : decide (q = s.size) = true := by simp; omega
      clear hn
      go_wp2_with fail
      go_ret
      exact ⟨ret_num (by rw [end_a HC.out (by rw [rd_out hq]; omega)]; omega), HB.out⟩

end Go.Proofs.YtlaglkbcladfbaaDoor
