/- The end of a line, as the document's own reader reads it; for every text of at most 50000 bytes. -/
import Derived.Test.YtddbaacibdmnaaaGreatDoorYBase
import Derived.WalkMore
namespace Go.Proofs.YtddbaacibdmnaaaGreatDoor
open Go.RowKit
set_option linter.unusedVariables false
set_option linter.unusedSimpArgs false

theorem yat_eq {R p : Nat} {c : Int} {s : ByteArray} {w : World} (h : AtY w R s p c) (hs : s.size ≤ 50000) (hp : p ≤ 60000) (k : Nat) (hk : k ≤ 60000) (x : Int) (hx : x = k) (X : Int) (hX : rd s (p + k) = X) :
    Calls Tryz.prog 18 #[.pointer (some ⟨R, 0, none⟩), .int .i64 x] w (GivesNum X w) := by
  rw [← hX]
  exact yat_any h hs hp k hk x hx
theorem yat0 {R p : Nat} {c : Int} {s : ByteArray} {w : World} (h : AtY w R s p c) (hs : s.size ≤ 50000) (hp : p ≤ 60000) (X : Int) (hX : rd s p = X) :
    Calls Tryz.prog 18 #[.pointer (some ⟨R, 0, none⟩), .int .i64 0] w (GivesNum X w) := yat_eq h hs hp 0 (by omega) 0 rfl X hX

/-- How long what ends the line is; -1: none does. -/
noncomputable def lenNum (f : Nat → Int) (p : Nat) : Int := match lineEnd f p with | some e => (e : Int) - p | none => -1
theorem lenNum_some {f : Nat → Int} {p e : Nat} (h : lineEnd f p = some e) : lenNum f p = (e : Int) - p := by unfold lenNum; rw [h]
theorem lenNum_none {f : Nat → Int} {p : Nat} (h : lineEnd f p = none) : lenNum f p = -1 := by unfold lenNum; rw [h]
theorem len_a {f : Nat → Int} {p k : Nat} (h : comEnd f p = p + k) (h1 : f (p + k) < 0) : (k : Int) = lenNum f p := by unfold lenNum lineEnd; rw [h, if_pos h1]; simp; omega
theorem len_b {f : Nat → Int} {p k : Nat} (h : comEnd f p = p + k) (h1 : f (p + k) = 10) : (k : Int) + 1 = lenNum f p := by unfold lenNum lineEnd; rw [h, if_neg (by omega), if_pos h1]; simp; omega
theorem len_c {f : Nat → Int} {p k : Nat} (h : comEnd f p = p + k) (h1 : f (p + k) = 13) (h2 : f (p + (k + 1)) = 10) : (k : Int) + 2 = lenNum f p := by unfold lenNum lineEnd; rw [h, if_neg (by omega), if_neg (by omega), if_pos ⟨h1, h2⟩]; simp; omega
theorem len_d {f : Nat → Int} {p k : Nat} (h : comEnd f p = p + k) (h0 : ¬ f (p + k) < 0) (h1 : f (p + k) ≠ 10) (h2 : ¬ (f (p + k) = 13 ∧ f (p + (k + 1)) = 10)) : (-1 : Int) = lenNum f p := by
  unfold lenNum lineEnd; rw [h, if_neg h0, if_neg h1, if_neg (by exact h2)]

/-- Within the loop. -/
def InEnd (s : ByteArray) (p : Nat) (w wr : World) (k : Nat) : Prop := Below w.heap.size w wr ∧ 1 ≤ k ∧ (p + k ≤ s.size) ∧ ∀ i, p + 1 ≤ i → i < p + k → isCm (rd s i) = true


set_option maxRecDepth 100000 in
set_option maxHeartbeats 1000000 in
theorem yends_any {R p : Nat} {c : Int} {s : ByteArray} {w : World} (h : AtY w R s p c) (hs : s.size ≤ 50000) (hp : p ≤ 60000) :
    Calls Tryz.prog 19 #[.pointer (some ⟨R, 0, none⟩)] w (GivesNum (lenNum (rd s) p) w) := by
  have H := Lib.hid h
  clear h
  by_cases h59 : rd s p = 59
  · have H59 := Lib.hid h59
    have hlt : p < s.size := by
      by_cases k : p < s.size
      · exact k
      · rw [rd_out k] at h59; omega
    clear h59
    go_enter Tryz.func19, Tryz.ntmps19
    go_wp2_with fail
    refine (yat0 H.out hs hp _ H59.out).mono ?_
    rintro e w1 ⟨rfl, hb⟩
    have HB1 := Lib.hid hb
    clear hb
    go_wp2_with fail
    go_loopw [3] (fun v wr => ∃ k : Nat, v = .int .i64 k ∧ InEnd s p w wr k) (fun v _ => s.size - (p + (intOf v).toNat))
    case atStart => exact ⟨1, rfl, HB1.out, Nat.le_refl _, by omega, fun i h1 h2 => absurd h1 (by omega)⟩
    case round =>
      obtain ⟨k, rfl, hb, hk1, hk2, hall⟩ := hrel
      have HB := Lib.hid hb
      have HA := Lib.hid (H.out.below hb)
      have HL := Lib.hid hall
      clear hb hall
      obtain ⟨Z, hZ⟩ : ∃ x, rd s (p + k) = x := ⟨_, rfl⟩
      have HZ := Lib.hid hZ
      cases hcm : isCm Z
      · have HC : Hid (comEnd (rd s) p = p + k) := by
          unfold comEnd
          rw [if_pos H59.out]
          exact IsRun.eq ⟨by omega, HL.out, by rw [hZ]; exact hcm⟩
        obtain ⟨g1, g2⟩ : isBl Z = false ∧ ¬ (32 < Z ∧ Z < 127) := by
          unfold isCm at hcm
          simp at hcm
          exact ⟨hcm.1, by omega⟩
        have G1 := Lib.hid g1
        clear hZ hcm g1
        by_cases a : 32 < Z
        · have b : ¬ Z < 127 := fun b => g2 ⟨a, b⟩
          clear g2
          go_wp2_with fail
          refine (yat_eq HA.out hs hp k (by omega) _ (by omega) _ HZ.out).mono ?_
          rintro e w2 ⟨rfl, hb⟩
          have HB2 := Lib.hid (below_then HB.out hb)
          have HA2 := Lib.hid (HA.out.below hb)
          clear hb HB HA
          go_wp2_with fail
          refine (yblank_any _ _).mono ?_
          rw [G1.out]
          rintro e w' ⟨rfl, rfl⟩
          go_wp2_with fail
          refine (yat_eq HA2.out hs hp k (by omega) _ (by omega) _ HZ.out).mono ?_
          rintro e w2b ⟨rfl, hb⟩
          have HB2b := Lib.hid (below_then HB2.out hb)
          have HA2b := Lib.hid (HA2.out.below hb)
          clear hb HB2 HA2
          go_wp2_with fail
          refine (yat_eq HA2b.out hs hp k (by omega) _ (by omega) _ HZ.out).mono ?_
          rintro e w2c ⟨rfl, hb⟩
          have HB := Lib.hid (below_then HB2b.out hb)
          have HA := Lib.hid (HA2b.out.below hb)
          clear hb HB2b HA2b
          obtain ⟨X, hX⟩ : ∃ x, rd s (p + k) = x := ⟨_, rfl⟩
          have HX := Lib.hid hX
          clear hX
          by_cases h10 : X = 10
          · subst h10
            go_wp2_with fail
            refine (yat_eq HA.out hs hp k (by omega) _ (by omega) _ HX.out).mono ?_
            rintro e w3 ⟨rfl, hb⟩
            have HB3 := Lib.hid (below_then HB.out hb)
            clear hb
            go_wp2
            go_ret
            exact ⟨ret_num (by have hlen := len_b HC.out HX.out; omega), HB3.out⟩
          · have q10 : (X == 10) = false := by simpa using h10
            go_wp2_with fail
            refine (yat_eq HA.out hs hp k (by omega) _ (by omega) _ HX.out).mono ?_
            rintro e w3 ⟨rfl, hb⟩
            have HB3 := Lib.hid (below_then HB.out hb)
            have HA3 := Lib.hid (HA.out.below hb)
            clear hb
            by_cases h13 : X = 13
            · subst h13
              clear q10
              by_cases h11 : rd s (p + (k + 1)) = 10
              · have H11 := Lib.hid h11
                clear h11
                go_wp2_with fail
                refine (yat_eq HA3.out hs hp k (by omega) _ (by omega) _ HX.out).mono ?_
                rintro e w4 ⟨rfl, hb⟩
                have HB4 := Lib.hid (below_then HB3.out hb)
                have HA4 := Lib.hid (HA3.out.below hb)
                clear hb
                go_wp2_with fail
                refine (yat_eq HA4.out hs hp (k + 1) (by omega) _ (by omega) _ H11.out).mono ?_
                rintro e w5 ⟨rfl, hb⟩
                have HB5 := Lib.hid (below_then HB4.out hb)
                clear hb
                go_wp2
                go_ret
                exact ⟨ret_num (by have hlen := len_c HC.out HX.out H11.out; omega), HB5.out⟩
              · obtain ⟨Y, hY⟩ : ∃ y, rd s (p + (k + 1)) = y := ⟨_, rfl⟩
                have q11 : (Y == 10) = false := by rw [← hY]; simpa using h11
                have H11 := Lib.hid h11
                have HY := Lib.hid hY
                clear h11 hY
                go_wp2_with fail
                refine (yat_eq HA3.out hs hp k (by omega) _ (by omega) _ HX.out).mono ?_
                rintro e w4 ⟨rfl, hb⟩
                have HB4 := Lib.hid (below_then HB3.out hb)
                have HA4 := Lib.hid (HA3.out.below hb)
                clear hb
                go_wp2_with fail
                refine (yat_eq HA4.out hs hp (k + 1) (by omega) _ (by omega) _ HY.out).mono ?_
                rintro e w5 ⟨rfl, hb⟩
                have HB5 := Lib.hid (below_then HB4.out hb)
                have HA5 := Lib.hid (HA4.out.below hb)
                clear hb
                go_wp2_with fail
                refine (yat_eq HA5.out hs hp k (by omega) _ (by omega) _ HX.out).mono ?_
                rintro e w6 ⟨rfl, hb⟩
                have HB6 := Lib.hid (below_then HB5.out hb)
                clear hb
                go_wp2
                go_ret
                exact ⟨ret_num (by have hlen := len_d HC.out (by rw [HX.out]; omega) (by rw [HX.out]; omega) (fun g => H11.out g.2); omega), HB6.out⟩
            · have q13 : (X == 13) = false := by simpa using h13
              have H13 := Lib.hid h13
              have H10 := Lib.hid h10
              clear h13 h10
              go_wp2_with fail
              refine (yat_eq HA3.out hs hp k (by omega) _ (by omega) _ HX.out).mono ?_
              rintro e w4 ⟨rfl, hb⟩
              have HB4 := Lib.hid (below_then HB3.out hb)
              have HA4 := Lib.hid (HA3.out.below hb)
              clear hb
              by_cases hn : X < 0
              · go_wp2_with fail
                refine (yat_eq HA4.out hs hp k (by omega) _ (by omega) _ HX.out).mono ?_
                rintro e w5 ⟨rfl, hb⟩
                have HB5 := Lib.hid (below_then HB4.out hb)
                clear hb
                go_wp2
                go_ret
                exact ⟨ret_num (by have hlen := len_a HC.out (by rw [HX.out]; omega); omega), HB5.out⟩
              · go_wp2_with fail
                refine (yat_eq HA4.out hs hp k (by omega) _ (by omega) _ HX.out).mono ?_
                rintro e w5 ⟨rfl, hb⟩
                have HB5 := Lib.hid (below_then HB4.out hb)
                clear hb
                go_wp2
                go_ret
                exact ⟨ret_num (by have hlen := len_d HC.out (by rw [HX.out]; omega) (by rw [HX.out]; exact H10.out) (fun g => H13.out (by rw [← HX.out]; exact g.1)); omega), HB5.out⟩
        · clear g2
          go_wp2_with fail
          refine (yat_eq HA.out hs hp k (by omega) _ (by omega) _ HZ.out).mono ?_
          rintro e w2 ⟨rfl, hb⟩
          have HB2 := Lib.hid (below_then HB.out hb)
          have HA2 := Lib.hid (HA.out.below hb)
          clear hb HB HA
          go_wp2_with fail
          refine (yblank_any _ _).mono ?_
          rw [G1.out]
          rintro e w' ⟨rfl, rfl⟩
          go_wp2_with fail
          refine (yat_eq HA2.out hs hp k (by omega) _ (by omega) _ HZ.out).mono ?_
          rintro e w2b ⟨rfl, hb⟩
          have HB := Lib.hid (below_then HB2.out hb)
          have HA := Lib.hid (HA2.out.below hb)
          clear hb HB2 HA2
          obtain ⟨X, hX⟩ : ∃ x, rd s (p + k) = x := ⟨_, rfl⟩
          have HX := Lib.hid hX
          clear hX
          by_cases h10 : X = 10
          · subst h10
            go_wp2_with fail
            refine (yat_eq HA.out hs hp k (by omega) _ (by omega) _ HX.out).mono ?_
            rintro e w3 ⟨rfl, hb⟩
            have HB3 := Lib.hid (below_then HB.out hb)
            clear hb
            go_wp2
            go_ret
            exact ⟨ret_num (by have hlen := len_b HC.out HX.out; omega), HB3.out⟩
          · have q10 : (X == 10) = false := by simpa using h10
            go_wp2_with fail
            refine (yat_eq HA.out hs hp k (by omega) _ (by omega) _ HX.out).mono ?_
            rintro e w3 ⟨rfl, hb⟩
            have HB3 := Lib.hid (below_then HB.out hb)
            have HA3 := Lib.hid (HA.out.below hb)
            clear hb
            by_cases h13 : X = 13
            · subst h13
              clear q10
              by_cases h11 : rd s (p + (k + 1)) = 10
              · have H11 := Lib.hid h11
                clear h11
                go_wp2_with fail
                refine (yat_eq HA3.out hs hp k (by omega) _ (by omega) _ HX.out).mono ?_
                rintro e w4 ⟨rfl, hb⟩
                have HB4 := Lib.hid (below_then HB3.out hb)
                have HA4 := Lib.hid (HA3.out.below hb)
                clear hb
                go_wp2_with fail
                refine (yat_eq HA4.out hs hp (k + 1) (by omega) _ (by omega) _ H11.out).mono ?_
                rintro e w5 ⟨rfl, hb⟩
                have HB5 := Lib.hid (below_then HB4.out hb)
                clear hb
                go_wp2
                go_ret
                exact ⟨ret_num (by have hlen := len_c HC.out HX.out H11.out; omega), HB5.out⟩
              · obtain ⟨Y, hY⟩ : ∃ y, rd s (p + (k + 1)) = y := ⟨_, rfl⟩
                have q11 : (Y == 10) = false := by rw [← hY]; simpa using h11
                have H11 := Lib.hid h11
                have HY := Lib.hid hY
                clear h11 hY
                go_wp2_with fail
                refine (yat_eq HA3.out hs hp k (by omega) _ (by omega) _ HX.out).mono ?_
                rintro e w4 ⟨rfl, hb⟩
                have HB4 := Lib.hid (below_then HB3.out hb)
                have HA4 := Lib.hid (HA3.out.below hb)
                clear hb
                go_wp2_with fail
                refine (yat_eq HA4.out hs hp (k + 1) (by omega) _ (by omega) _ HY.out).mono ?_
                rintro e w5 ⟨rfl, hb⟩
                have HB5 := Lib.hid (below_then HB4.out hb)
                have HA5 := Lib.hid (HA4.out.below hb)
                clear hb
                go_wp2_with fail
                refine (yat_eq HA5.out hs hp k (by omega) _ (by omega) _ HX.out).mono ?_
                rintro e w6 ⟨rfl, hb⟩
                have HB6 := Lib.hid (below_then HB5.out hb)
                clear hb
                go_wp2
                go_ret
                exact ⟨ret_num (by have hlen := len_d HC.out (by rw [HX.out]; omega) (by rw [HX.out]; omega) (fun g => H11.out g.2); omega), HB6.out⟩
            · have q13 : (X == 13) = false := by simpa using h13
              have H13 := Lib.hid h13
              have H10 := Lib.hid h10
              clear h13 h10
              go_wp2_with fail
              refine (yat_eq HA3.out hs hp k (by omega) _ (by omega) _ HX.out).mono ?_
              rintro e w4 ⟨rfl, hb⟩
              have HB4 := Lib.hid (below_then HB3.out hb)
              have HA4 := Lib.hid (HA3.out.below hb)
              clear hb
              by_cases hn : X < 0
              · go_wp2_with fail
                refine (yat_eq HA4.out hs hp k (by omega) _ (by omega) _ HX.out).mono ?_
                rintro e w5 ⟨rfl, hb⟩
                have HB5 := Lib.hid (below_then HB4.out hb)
                clear hb
                go_wp2
                go_ret
                exact ⟨ret_num (by have hlen := len_a HC.out (by rw [HX.out]; omega); omega), HB5.out⟩
              · go_wp2_with fail
                refine (yat_eq HA4.out hs hp k (by omega) _ (by omega) _ HX.out).mono ?_
                rintro e w5 ⟨rfl, hb⟩
                have HB5 := Lib.hid (below_then HB4.out hb)
                clear hb
                go_wp2
                go_ret
                exact ⟨ret_num (by have hlen := len_d HC.out (by rw [HX.out]; omega) (by rw [HX.out]; exact H10.out) (fun g => H13.out (by rw [← HX.out]; exact g.1)); omega), HB5.out⟩
      · have hlt2 : p + k < s.size := by
          by_cases g : p + k < s.size
          · exact g
          · rw [rd_out g] at hZ; subst hZ; simp [isCm, isBl] at hcm
        have HN : Hid (∀ i, p + 1 ≤ i → i < p + (k + 1) → isCm (rd s i) = true) := by
          intro i h1 h2
          by_cases g : i = p + k
          · rw [g, hZ]; exact hcm
          · exact HL.out i h1 (by omega)
        clear hZ
        cases g1 : isBl Z
        · obtain ⟨a, b⟩ : 32 < Z ∧ Z < 127 := by
            unfold isCm at hcm
            rw [g1] at hcm
            simp at hcm
            omega
          have G1 := Lib.hid g1
          clear g1 hcm
          go_wp2_with fail
          refine (yat_eq HA.out hs hp k (by omega) _ (by omega) _ HZ.out).mono ?_
          rintro e w2 ⟨rfl, hb⟩
          have HB2 := Lib.hid (below_then HB.out hb)
          have HA2 := Lib.hid (HA.out.below hb)
          clear hb
          go_wp2_with fail
          refine (yblank_any _ _).mono ?_
          rw [G1.out]
          rintro e w' ⟨rfl, rfl⟩
          go_wp2_with fail
          refine (yat_eq HA2.out hs hp k (by omega) _ (by omega) _ HZ.out).mono ?_
          rintro e w3 ⟨rfl, hb⟩
          have HB3 := Lib.hid (below_then HB2.out hb)
          have HA3 := Lib.hid (HA2.out.below hb)
          clear hb
          go_wp2_with fail
          refine (yat_eq HA3.out hs hp k (by omega) _ (by omega) _ HZ.out).mono ?_
          rintro e w4 ⟨rfl, hb⟩
          have HB4 := Lib.hid (below_then HB3.out hb)
          clear hb
          go_wp2_with fail
          go_roundw
          case rel => exact ⟨k + 1, int_eq (by omega), HB4.out, by omega, by omega, HN.out⟩
          case measure => simp [intOf]; omega
        · have G1 := Lib.hid g1
          clear g1 hcm
          go_wp2_with fail
          refine (yat_eq HA.out hs hp k (by omega) _ (by omega) _ HZ.out).mono ?_
          rintro e w2 ⟨rfl, hb⟩
          have HB2 := Lib.hid (below_then HB.out hb)
          clear hb
          go_wp2_with fail
          refine (yblank_any _ _).mono ?_
          rw [G1.out]
          rintro e w' ⟨rfl, rfl⟩
          go_wp2_with fail
          go_roundw
          case rel => exact ⟨k + 1, int_eq (by omega), HB2.out, by omega, by omega, HN.out⟩
          case measure => simp [intOf]; omega
  · obtain ⟨X0, hX0⟩ : ∃ x, rd s p = x := ⟨_, rfl⟩
    have q59 : (X0 == 59) = false := by rw [← hX0]; simpa using h59
    have HX0 := Lib.hid hX0
    have HC : Hid (comEnd (rd s) p = p + 0) := by unfold comEnd; rw [if_neg h59]; rfl
    clear hX0 h59
    go_enter Tryz.func19, Tryz.ntmps19
    go_wp2_with fail
    refine (yat0 H.out hs hp _ HX0.out).mono ?_
    rintro e w1 ⟨rfl, hb⟩
    have HB := Lib.hid hb
    have HA := Lib.hid (H.out.below hb)
    clear hb
    obtain ⟨X, hX⟩ : ∃ x, rd s (p + 0) = x := ⟨_, rfl⟩
    have HX := Lib.hid hX
    clear hX
    by_cases h10 : X = 10
    · subst h10
      go_wp2_with fail
      refine (yat_eq HA.out hs hp 0 (by omega) _ (by omega) _ HX.out).mono ?_
      rintro e w3 ⟨rfl, hb⟩
      have HB3 := Lib.hid (below_then HB.out hb)
      clear hb
      go_wp2
      go_ret
      exact ⟨ret_num (by have hlen := len_b HC.out HX.out; omega), HB3.out⟩
    · have q10 : (X == 10) = false := by simpa using h10
      go_wp2_with fail
      refine (yat_eq HA.out hs hp 0 (by omega) _ (by omega) _ HX.out).mono ?_
      rintro e w3 ⟨rfl, hb⟩
      have HB3 := Lib.hid (below_then HB.out hb)
      have HA3 := Lib.hid (HA.out.below hb)
      clear hb
      by_cases h13 : X = 13
      · subst h13
        clear q10
        by_cases h11 : rd s (p + (0 + 1)) = 10
        · have H11 := Lib.hid h11
          clear h11
          go_wp2_with fail
          refine (yat_eq HA3.out hs hp 0 (by omega) _ (by omega) _ HX.out).mono ?_
          rintro e w4 ⟨rfl, hb⟩
          have HB4 := Lib.hid (below_then HB3.out hb)
          have HA4 := Lib.hid (HA3.out.below hb)
          clear hb
          go_wp2_with fail
          refine (yat_eq HA4.out hs hp (0 + 1) (by omega) _ (by omega) _ H11.out).mono ?_
          rintro e w5 ⟨rfl, hb⟩
          have HB5 := Lib.hid (below_then HB4.out hb)
          clear hb
          go_wp2
          go_ret
          exact ⟨ret_num (by have hlen := len_c HC.out HX.out H11.out; omega), HB5.out⟩
        · obtain ⟨Y, hY⟩ : ∃ y, rd s (p + (0 + 1)) = y := ⟨_, rfl⟩
          have q11 : (Y == 10) = false := by rw [← hY]; simpa using h11
          have H11 := Lib.hid h11
          have HY := Lib.hid hY
          clear h11 hY
          go_wp2_with fail
          refine (yat_eq HA3.out hs hp 0 (by omega) _ (by omega) _ HX.out).mono ?_
          rintro e w4 ⟨rfl, hb⟩
          have HB4 := Lib.hid (below_then HB3.out hb)
          have HA4 := Lib.hid (HA3.out.below hb)
          clear hb
          go_wp2_with fail
          refine (yat_eq HA4.out hs hp (0 + 1) (by omega) _ (by omega) _ HY.out).mono ?_
          rintro e w5 ⟨rfl, hb⟩
          have HB5 := Lib.hid (below_then HB4.out hb)
          have HA5 := Lib.hid (HA4.out.below hb)
          clear hb
          go_wp2_with fail
          refine (yat_eq HA5.out hs hp 0 (by omega) _ (by omega) _ HX.out).mono ?_
          rintro e w6 ⟨rfl, hb⟩
          have HB6 := Lib.hid (below_then HB5.out hb)
          clear hb
          go_wp2
          go_ret
          exact ⟨ret_num (by have hlen := len_d HC.out (by rw [HX.out]; omega) (by rw [HX.out]; omega) (fun g => H11.out g.2); omega), HB6.out⟩
      · have q13 : (X == 13) = false := by simpa using h13
        have H13 := Lib.hid h13
        have H10 := Lib.hid h10
        clear h13 h10
        go_wp2_with fail
        refine (yat_eq HA3.out hs hp 0 (by omega) _ (by omega) _ HX.out).mono ?_
        rintro e w4 ⟨rfl, hb⟩
        have HB4 := Lib.hid (below_then HB3.out hb)
        have HA4 := Lib.hid (HA3.out.below hb)
        clear hb
        by_cases hn : X < 0
        · go_wp2_with fail
          refine (yat_eq HA4.out hs hp 0 (by omega) _ (by omega) _ HX.out).mono ?_
          rintro e w5 ⟨rfl, hb⟩
          have HB5 := Lib.hid (below_then HB4.out hb)
          clear hb
          go_wp2
          go_ret
          exact ⟨ret_num (by have hlen := len_a HC.out (by rw [HX.out]; omega); omega), HB5.out⟩
        · go_wp2_with fail
          refine (yat_eq HA4.out hs hp 0 (by omega) _ (by omega) _ HX.out).mono ?_
          rintro e w5 ⟨rfl, hb⟩
          have HB5 := Lib.hid (below_then HB4.out hb)
          clear hb
          go_wp2
          go_ret
          exact ⟨ret_num (by have hlen := len_d HC.out (by rw [HX.out]; omega) (by rw [HX.out]; exact H10.out) (fun g => H13.out (by rw [← HX.out]; exact g.1)); omega), HB5.out⟩

end Go.Proofs.YtddbaacibdmnaaaGreatDoor
