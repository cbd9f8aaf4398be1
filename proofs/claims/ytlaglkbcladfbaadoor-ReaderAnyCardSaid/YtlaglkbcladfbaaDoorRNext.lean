/- The program's own small calls, further: what may stand in strings, comments, and at a repetition's beginning; the next byte, taken or not; for every text of at most 50000 bytes. -/
import Derived.Test.YtlaglkbcladfbaaDoorRLeaf
namespace Go.Proofs.YtlaglkbcladfbaaDoor
open Go.RowKit
set_option linter.unusedVariables false
set_option linter.unusedSimpArgs false

theorem string_any (c : Int) (w : World) : Calls Tryd.prog 175 #[.int .u8 c] w (SaysB (isSt c) w) := by
  have hu : isSt c = (decide (32 ≤ c) && decide (c ≤ 126) && !(c == 34)) := rfl
  rw [hu]
  clear hu
  by_cases h3 : c = 34
  · subst h3
    go_enter Tryd.func175, Tryd.ntmps175
    go_wp2
    go_ret
    exact ⟨rfl, rfl⟩
  · have e3 : (c == 34) = false := by simpa using h3
    have e3' : (c != 34) = true := by simpa using h3
    by_cases h1 : 32 ≤ c <;> by_cases h2 : c ≤ 126
    all_goals try (exfalso; omega)
    all_goals
      rw [e3]
      simp only [h1, h2, decide_true, decide_false, Bool.and_true, Bool.and_false, Bool.and_self, Bool.not_false]
      go_enter Tryd.func175, Tryd.ntmps175
      go_wp2
      go_ret
      exact ⟨rfl, rfl⟩

theorem comment_any (c : Int) (w : World) : Calls Tryd.prog 123 #[.int .u8 c] w (SaysB (isCm c) w) := by
  have hu : isCm c = (isBl c || (decide (33 ≤ c) && decide (c ≤ 126))) := rfl
  rw [hu]
  clear hu
  cases hb : isBl c
  · have HB := Lib.hid hb
    clear hb
    cases q1 : decide (33 ≤ c) <;> cases q2 : decide (c ≤ 126)
    all_goals
      simp only [Bool.and_true, Bool.and_false, Bool.and_self, Bool.false_or, Bool.or_false, Bool.false_and]
      go_enter Tryd.func123, Tryd.ntmps123
      go_wp2_with fail
      refine (blank_any _ _).mono ?_
      rw [HB.out]
      rintro e w' ⟨rfl, rfl⟩
      go_wp2
      go_ret
      exact ⟨rfl, rfl⟩
  · have HB := Lib.hid hb
    clear hb
    go_enter Tryd.func123, Tryd.ntmps123
    go_wp2_with fail
    refine (blank_any _ _).mono ?_
    rw [HB.out]
    rintro e w' ⟨rfl, rfl⟩
    go_wp2
    go_ret
    exact ⟨rfl, rfl⟩

theorem isRp_no {c : Int} (ha : isAl c = false) (hd : isDc c = false) (h1 : c ≠ 34) (h2 : c ≠ 37) (h3 : c ≠ 40) (h4 : c ≠ 42) (h5 : c ≠ 91) : isRp c = false := by
  unfold isRp
  simp [ha, hd, h1, h2, h3, h4, h5]

theorem starts_any (c : Int) (h0 : 0 ≤ c) (h1 : c ≤ 255) (w : World) : Calls Tryd.prog 129 #[.int .u8 c] w (SaysB (isRp c) w) := by
  cases ha : isAl c
  · cases hd : isDc c
    · by_cases hc : c = 34 ∨ c = 37 ∨ c = 40 ∨ c = 42 ∨ c = 91
      · rcases hc with rfl | rfl | rfl | rfl | rfl
        all_goals
          clear ha hd
          go_enter Tryd.func129, Tryd.ntmps129
          go_wp2_with fail
          refine (letter_any _ _).mono ?_
          first | rw [show isAl 34 = false by decide] | rw [show isAl 37 = false by decide] | rw [show isAl 40 = false by decide] | rw [show isAl 42 = false by decide] | rw [show isAl 91 = false by decide]
          rintro e w' ⟨rfl, rfl⟩
          go_wp2_with fail
          refine (decimal_any _ (by omega) (by omega) _).mono ?_
          first | rw [show isDc 34 = false by decide] | rw [show isDc 37 = false by decide] | rw [show isDc 40 = false by decide] | rw [show isDc 42 = false by decide] | rw [show isDc 91 = false by decide]
          rintro e w' ⟨rfl, rfl⟩
          go_wp2
          go_ret
          exact ⟨rfl, rfl⟩
      · have e1 : (c == 34) = false := by simp; omega
        have e2 : (c == 37) = false := by simp; omega
        have e3 : (c == 40) = false := by simp; omega
        have e4 : (c == 42) = false := by simp; omega
        have e5 : (c == 91) = false := by simp; omega
        rw [isRp_no ha hd (by omega) (by omega) (by omega) (by omega) (by omega)]
        have HA := Lib.hid ha
        have HD := Lib.hid hd
        clear ha hd hc
        go_enter Tryd.func129, Tryd.ntmps129
        go_wp2_with fail
        refine (letter_any _ _).mono ?_
        rw [HA.out]
        rintro e w' ⟨rfl, rfl⟩
        go_wp2_with fail
        refine (decimal_any _ h0 h1 _).mono ?_
        rw [HD.out]
        rintro e w' ⟨rfl, rfl⟩
        go_wp2
        go_ret
        exact ⟨rfl, rfl⟩
    · rw [show isRp c = true by unfold isRp; simp [hd]]
      have HA := Lib.hid ha
      have HD := Lib.hid hd
      clear ha hd
      go_enter Tryd.func129, Tryd.ntmps129
      go_wp2_with fail
      refine (letter_any _ _).mono ?_
      rw [HA.out]
      rintro e w' ⟨rfl, rfl⟩
      go_wp2_with fail
      refine (decimal_any _ h0 h1 _).mono ?_
      rw [HD.out]
      rintro e w' ⟨rfl, rfl⟩
      go_wp2
      go_ret
      exact ⟨rfl, rfl⟩
  · rw [show isRp c = true by unfold isRp; simp [ha]]
    have HA := Lib.hid ha
    clear ha
    go_enter Tryd.func129, Tryd.ntmps129
    go_wp2_with fail
    refine (letter_any _ _).mono ?_
    rw [HA.out]
    rintro e w' ⟨rfl, rfl⟩
    go_wp2
    go_ret
    exact ⟨rfl, rfl⟩

theorem fail_any (c : Int) (w : World) : Calls Tryd.prog 62 #[.int .i64 c] w fun e w' => e = .panicked [{ v := .iface 66 (.agg #[.int .i64 c]), recovered := false }] ∧ w = w' := by
  go_enter Tryd.func62, Tryd.ntmps62
  go_wp2
  exact ⟨rfl, rfl, rfl⟩

/-- The call answers this byte; the world is the same but for what was drawn. -/
def SaysC (c : Int) (w : World) (e : Ending) (w' : World) : Prop := e = .returned (.int .u8 c) ∧ ∃ n, w' = w.drewN n

theorem drewN_two (w : World) (a b : Nat) : (w.drewN a).drewN b = w.drewN (a + b) := by
  unfold World.drewN
  simp
  omega
theorem nx_in {s : ByteArray} {p : Nat} (h : p < s.size) : nx (rd s) p = (s[p].toNat : Int) := by
  unfold nx
  rw [rd_in h, if_neg (by omega)]
theorem nx_out {s : ByteArray} {p : Nat} (h : ¬ p < s.size) : nx (rd s) p = 0 := by
  unfold nx
  rw [rd_out h]
  rfl

set_option maxRecDepth 100000 in
theorem next_any {R p d : Nat} {s : ByteArray} {w : World} (h : At w R s p d) (hs : s.size ≤ 50000) (hp : p ≤ s.size) :
    Calls Tryd.prog 59 #[.pointer (some ⟨R, 0, none⟩)] w (SaysC (nx (rd s) p) w) := by
  obtain ⟨c0, c1, c2, z0, z1, z2⟩ := h.cells
  clear h
  by_cases hlt : p < s.size
  · rw [nx_in hlt]
    have q1 : decide (p = s.size) = false := by simp; omega
    go_enter Tryd.func59, Tryd.ntmps59
    go_wp2_with fail
    go_quiet (fail)
    go_wp2_with fail
    go_quiet (fail)
    go_wp2_with fail
    go_ret
    exact ⟨rfl, _, drewN_two _ _ _⟩
  · rw [nx_out hlt]
    obtain rfl : p = s.size := by omega
    have q1 : decide (s.size = s.size) = true := by simp
    go_enter Tryd.func59, Tryd.ntmps59
    go_wp2_with fail
    go_quiet (fail)
    go_wp2_with fail
    go_ret
    exact ⟨rfl, _, rfl⟩

end Go.Proofs.YtlaglkbcladfbaaDoor
