/- The program's teller: how often. -/
import Derived.Test.YtfoohffeccgkeaaDoorTHex
namespace Go.Proofs.YtfoohffeccgkeaaDoor
open Go.RowKit
set_option linter.unusedVariables false
set_option linter.unusedSimpArgs false

theorem cnt4_any (lo hi : Int) (w : World) : Calls Tryd.prog 49 #[.int .i64 lo, .int .i64 hi] w (SaysB (cntB lo hi) w) := by
  by_cases a : 0 ≤ lo
  · by_cases b : lo ≤ 200
    · by_cases c : hi = -1
      · subst c
        have e : cntB lo (-1) = true := by unfold cntB; simp [a, b]
        rw [e]
        clear e
        go_enter Tryd.func49, Tryd.ntmps49
        go_wp2
        go_ret
        exact ⟨rfl, rfl⟩
      · have qc : (hi == -1) = false := by simpa using c
        by_cases d : lo ≤ hi
        · by_cases f : hi ≤ 200
          · have e : cntB lo hi = true := by unfold cntB; simp [a, b, d, f]
            have qd : decide (lo ≤ hi) = true := decide_eq_true d
            have qf : decide (hi ≤ 200) = true := decide_eq_true f
            rw [e]
            clear e c
            go_enter Tryd.func49, Tryd.ntmps49
            go_wp2
            go_ret
            exact ⟨rfl, rfl⟩
          · have e : cntB lo hi = false := by unfold cntB; simp [a, b, c, d, f]
            have qd : decide (lo ≤ hi) = true := decide_eq_true d
            have qf : decide (hi ≤ 200) = false := decide_eq_false f
            rw [e]
            clear e c
            go_enter Tryd.func49, Tryd.ntmps49
            go_wp2
            go_ret
            exact ⟨rfl, rfl⟩
        · have e : cntB lo hi = false := by unfold cntB; simp [a, b, c, d]
          have qd : decide (lo ≤ hi) = false := decide_eq_false d
          rw [e]
          clear e c
          go_enter Tryd.func49, Tryd.ntmps49
          go_wp2
          go_ret
          exact ⟨rfl, rfl⟩
    · have e : cntB lo hi = false := by unfold cntB; simp [b]
      have qb : decide (lo ≤ 200) = false := decide_eq_false b
      rw [e]
      clear e
      go_enter Tryd.func49, Tryd.ntmps49
      go_wp2
      go_ret
      exact ⟨rfl, rfl⟩
  · have e : cntB lo hi = false := by unfold cntB; simp [a]
    have qa : decide (0 ≤ lo) = false := decide_eq_false a
    rw [e]
    clear e
    go_enter Tryd.func49, Tryd.ntmps49
    go_wp2
    go_ret
    exact ⟨rfl, rfl⟩

end Go.Proofs.YtfoohffeccgkeaaDoor
