/- The program's own small calls: what kind a byte is; the byte that is next, whether it is taken; for every text of at most 50000 bytes. -/
import Derived.Test.YtlaglkbcladfbaaDoorRBase
namespace Go.Proofs.YtlaglkbcladfbaaDoor
open Go.RowKit
set_option linter.unusedVariables false
set_option linter.unusedSimpArgs false

/-- The call answers this bool and leaves the world alone. -/
def SaysB (b : Bool) (w : World) (e : Ending) (w' : World) : Prop := e = .returned (.bool b) ∧ w = w'
/-- The call answers this int and leaves the world alone. -/
def SaysI (n : Int) (w : World) (e : Ending) (w' : World) : Prop := e = .returned (.int .i64 n) ∧ w = w'

theorem blank_any (c : Int) (w : World) : Calls Tryd.prog 79 #[.int .u8 c] w (SaysB (isBl c) w) := by
  by_cases h1 : c = 32
  · subst h1
    go_enter Tryd.func79, Tryd.ntmps79
    go_wp2
    go_ret
    exact ⟨rfl, rfl⟩
  · have e1 : (c == 32) = false := by simpa using h1
    by_cases h2 : c = 9
    · subst h2
      go_enter Tryd.func79, Tryd.ntmps79
      go_wp2
      go_ret
      exact ⟨rfl, rfl⟩
    · have e2 : (c == 9) = false := by simpa using h2
      have hb : isBl c = false := by unfold isBl; rw [e1, e2]; rfl
      rw [hb]
      clear hb
      go_enter Tryd.func79, Tryd.ntmps79
      go_wp2
      go_ret
      exact ⟨rfl, rfl⟩

theorem isAl_yes {c : Int} (h : 97 ≤ c ∧ c ≤ 122 ∨ 65 ≤ c ∧ c ≤ 90) : isAl c = true := by unfold isAl; simp; omega
theorem isAl_no {c : Int} (h : ¬ (97 ≤ c ∧ c ≤ 122 ∨ 65 ≤ c ∧ c ≤ 90)) : isAl c = false := by unfold isAl; simp; omega
theorem isAl_iff {c : Int} : isAl c = true ↔ (97 ≤ c ∧ c ≤ 122 ∨ 65 ≤ c ∧ c ≤ 90) := by unfold isAl; simp

theorem letter_any (c : Int) (w : World) : Calls Tryd.prog 58 #[.int .u8 c] w (SaysB (isAl c) w) := by
  have hu : isAl c = ((decide (97 ≤ c) && decide (c ≤ 122)) || (decide (65 ≤ c) && decide (c ≤ 90))) := rfl
  by_cases h1 : 97 ≤ c <;> by_cases h2 : c ≤ 122 <;> by_cases h3 : 65 ≤ c <;> by_cases h4 : c ≤ 90
  all_goals try (exfalso; omega)
  all_goals
    simp only [h1, h2, h3, h4, decide_true, decide_false, Bool.and_true, Bool.and_false, Bool.or_true, Bool.or_false, Bool.and_self, Bool.or_self] at hu
    rw [hu]
    clear hu
    go_enter Tryd.func58, Tryd.ntmps58
    go_wp2
    go_ret
    exact ⟨rfl, rfl⟩

theorem dig_range (c : Int) : 0 ≤ dig c ∧ dig c ≤ 16 := by unfold dig; split <;> (try split) <;> (try split) <;> omega

theorem digit_any (c : Int) (h0 : 0 ≤ c) (h1 : c ≤ 255) (w : World) : Calls Tryd.prog 155 #[.int .u8 c] w (SaysI (dig c) w) := by
  by_cases a : 48 ≤ c ∧ c ≤ 57
  · have hd : dig c = c - 48 := by unfold dig; rw [if_pos a]
    obtain ⟨a1, a2⟩ := a
    rw [hd]
    clear hd
    go_enter Tryd.func155, Tryd.ntmps155
    go_wp2
    go_ret
    exact ⟨rfl, rfl⟩
  · by_cases b : 97 ≤ c ∧ c ≤ 102
    · have hd : dig c = c - 97 + 10 := by unfold dig; rw [if_neg a, if_pos b]; omega
      obtain ⟨b1, b2⟩ := b
      rw [hd]
      clear hd
      have a2 : ¬ c ≤ 57 := by omega
      clear a
      go_enter Tryd.func155, Tryd.ntmps155
      go_wp2
      all_goals go_ret
      all_goals exact ⟨rfl, rfl⟩
    · by_cases d : 65 ≤ c ∧ c ≤ 70
      · have hd : dig c = c - 65 + 10 := by unfold dig; rw [if_neg a, if_neg b, if_pos d]; omega
        obtain ⟨d1, d2⟩ := d
        rw [hd]
        clear hd
        have a2 : ¬ c ≤ 57 := by omega
        have b2 : ¬ 97 ≤ c := by omega
        clear a b
        go_enter Tryd.func155, Tryd.ntmps155
        go_wp2
        all_goals go_ret
        all_goals exact ⟨rfl, rfl⟩
      · have hd : dig c = 16 := by unfold dig; rw [if_neg a, if_neg b, if_neg d]
        rw [hd]
        clear hd
        by_cases h1 : 48 ≤ c <;> by_cases h2 : c ≤ 57 <;> by_cases h3 : 97 ≤ c <;> by_cases h4 : c ≤ 102 <;> by_cases h5 : 65 ≤ c <;> by_cases h6 : c ≤ 70
        all_goals try (exfalso; omega)
        all_goals
          clear a b d
          go_enter Tryd.func155, Tryd.ntmps155
          go_wp2
          all_goals go_ret
          all_goals exact ⟨rfl, rfl⟩

theorem isDigit_any (c b : Int) (h0 : 0 ≤ c) (h1 : c ≤ 255) (w : World) : Calls Tryd.prog 139 #[.int .u8 c, .int .i64 b] w (SaysB (isDg b c) w) := by
  go_enter Tryd.func139, Tryd.ntmps139
  go_wp2_with fail
  refine (digit_any c h0 h1 _).mono ?_
  rintro e w' ⟨rfl, rfl⟩
  go_wp2
  go_ret
  exact ⟨rfl, rfl⟩

theorem isDg_ten (c : Int) : isDg 10 c = isDc c := by
  unfold isDg isDc dig
  by_cases a : 48 ≤ c <;> by_cases b : c ≤ 57
  all_goals simp only [a, b, and_true, and_false, if_true, if_false, decide_true, decide_false, Bool.and_true, Bool.and_false, false_and, true_and, decide_eq_true_eq, decide_eq_false_iff_not]
  all_goals (try split) <;> (try split) <;> omega

theorem decimal_any (c : Int) (h0 : 0 ≤ c) (h1 : c ≤ 255) (w : World) : Calls Tryd.prog 124 #[.int .u8 c] w (SaysB (isDc c) w) := by
  rw [← isDg_ten]
  go_enter Tryd.func124, Tryd.ntmps124
  go_wp2_with fail
  refine (isDigit_any c 10 h0 h1 _).mono ?_
  rintro e w' ⟨rfl, rfl⟩
  go_wp2
  go_ret
  exact ⟨rfl, rfl⟩

theorem name_any (c : Int) (h0 : 0 ≤ c) (h1 : c ≤ 255) (w : World) : Calls Tryd.prog 107 #[.int .u8 c] w (SaysB (isNm c) w) := by
  have hu : isNm c = (isAl c || isDc c || c == 45) := rfl
  rw [hu]
  cases ha : isAl c
  · cases hd : isDc c
    · by_cases h45 : c = 45
      · subst h45
        clear ha hd hu
        go_enter Tryd.func107, Tryd.ntmps107
        go_wp2_with fail
        refine (letter_any _ _).mono ?_
        rw [show isAl 45 = false by decide]
        rintro e w' ⟨rfl, rfl⟩
        go_wp2_with fail
        refine (decimal_any _ (by omega) (by omega) _).mono ?_
        rw [show isDc 45 = false by decide]
        rintro e w' ⟨rfl, rfl⟩
        go_wp2
        go_ret
        exact ⟨rfl, rfl⟩
      · have e1 : (c == 45) = false := by simpa using h45
        have HA := Lib.hid ha
        have HD := Lib.hid hd
        clear ha hd hu
        rw [e1]
        go_enter Tryd.func107, Tryd.ntmps107
        go_wp2_with fail
        refine (letter_any _ _).mono ?_
        rw [HA.out]
        rintro e w' ⟨rfl, rfl⟩
        go_wp2_with fail
        refine (decimal_any _ h0 h1 _).mono ?_
        rw [HD.out]
        rintro e w' ⟨rfl, rfl⟩
        go_wp2
        go_ret
        exact ⟨rfl, rfl⟩
    · have HA := Lib.hid ha
      have HD := Lib.hid hd
      clear ha hd hu
      go_enter Tryd.func107, Tryd.ntmps107
      go_wp2_with fail
      refine (letter_any _ _).mono ?_
      rw [HA.out]
      rintro e w' ⟨rfl, rfl⟩
      go_wp2_with fail
      refine (decimal_any _ h0 h1 _).mono ?_
      rw [HD.out]
      rintro e w' ⟨rfl, rfl⟩
      go_wp2
      go_ret
      exact ⟨rfl, rfl⟩
  · have HA := Lib.hid ha
    clear ha hu
    go_enter Tryd.func107, Tryd.ntmps107
    go_wp2_with fail
    refine (letter_any _ _).mono ?_
    rw [HA.out]
    rintro e w' ⟨rfl, rfl⟩
    go_wp2
    go_ret
    exact ⟨rfl, rfl⟩

end Go.Proofs.YtlaglkbcladfbaaDoor
