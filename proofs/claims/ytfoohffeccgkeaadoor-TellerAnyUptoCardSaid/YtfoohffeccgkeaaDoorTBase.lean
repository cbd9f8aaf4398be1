/- Expressions as they lie in memory, wherever their lists begin; what bytes and numbers are; the small calls of both tellers. -/
import Derived.Test.YtfoohffeccgkeaaDoorTMath
import Derived.Test.YtfoohffeccgkeaaDoorVal
namespace Go.Proofs.YtfoohffeccgkeaaDoor
open Go.RowKit
set_option linter.unusedVariables false
set_option linter.unusedSimpArgs false

/-- A slice that reads as these cells: empty, or from somewhere in a block on. -/
def RowAny (W : World) (v : Value) (n : Nat) (xs : List Value) : Prop :=
  (n = 0 ∧ ∃ a cap, v = .slice a 0 cap) ∨ ∃ g off cap, v = .slice (some ⟨g, off, none⟩) n cap ∧ n ≤ cap ∧ cap ≤ maxLen ∧ g < W.heap.size ∧ ∀ (j : Nat) (u : Value), xs[j]? = some u → W.cell? ⟨g, off + j, none⟩ = some u
theorem RowAny.below {W W' : World} {v : Value} {n : Nat} {xs : List Value} (h : RowAny W v n xs) (hb : Below W.heap.size W W') : RowAny W' v n xs := by
  rcases h with h | ⟨g, off, cap, hv, h1, h2, h3, h4⟩
  · exact .inl h
  · exact .inr ⟨g, off, cap, hv, h1, h2, Nat.lt_of_lt_of_le h3 hb.size, fun j u hj => (hb.cell (p := ⟨g, off + j, none⟩) h3).trans (h4 j u hj)⟩

/-- These fields are this expression. -/
inductive ETree (W : World) : XV → Tree → Prop
  | mk {k lo hi : Int} {ns ks : Value} {x nums : List Int} {kids : List Tree} (vs : List XV) :
      (∀ c ∈ x, 0 ≤ c ∧ c ≤ 255) → x.length ≤ 9223372036854775807 → RowAny W ns nums.length (icells nums) → RowAny W ks kids.length (vs.flatMap XV.cells) → vs.length = kids.length →
      (∀ (i : Nat) (y : XV) (t : Tree), vs[i]? = some y → kids[i]? = some t → ETree W y t) → ETree W ⟨k, strOf x, ns, lo, hi, ks⟩ (.mk k x nums lo hi kids)
theorem ETree.under {W W' : World} {x : XV} {t : Tree} (h : ETree W x t) (hb : Below W.heap.size W W') : ETree W' x t := by
  induction h with
  | mk vs h0 hl h1 h2 h3 _ ih => exact .mk vs h0 hl (h1.below hb) (h2.below hb) h3 ih

theorem letter4_any (c : Int) (h0 : 0 ≤ c) (h1 : c ≤ 255) (w : World) : Calls Tryd.prog 23 #[.int .u8 c] w (SaysB (smB c) w) := by
  have hu : smB c = (decide (97 ≤ c) && decide (c ≤ 122)) := rfl
  by_cases a : 97 ≤ c <;> by_cases b : c ≤ 122
  all_goals try (exfalso; omega)
  all_goals
    simp only [a, b, decide_true, decide_false, Bool.and_true, Bool.and_false, Bool.and_self] at hu
    rw [hu]
    clear hu
    go_enter Tryd.func23, Tryd.ntmps23
    go_wp2
    go_ret
    exact ⟨rfl, rfl⟩
theorem digit4_any (c : Int) (h0 : 0 ≤ c) (h1 : c ≤ 255) (w : World) : Calls Tryd.prog 24 #[.int .u8 c] w (SaysB (isDc c) w) := by
  have hu : isDc c = (decide (48 ≤ c) && decide (c ≤ 57)) := rfl
  by_cases a : 48 ≤ c <;> by_cases b : c ≤ 57
  all_goals try (exfalso; omega)
  all_goals
    simp only [a, b, decide_true, decide_false, Bool.and_true, Bool.and_false, Bool.and_self] at hu
    rw [hu]
    clear hu
    go_enter Tryd.func24, Tryd.ntmps24
    go_wp2
    go_ret
    exact ⟨rfl, rfl⟩
theorem small_any (c : Int) (h0 : 0 ≤ c) (h1 : c ≤ 255) (w : World) : Calls Tryd.prog 19 #[.int .u8 c] w (SaysB (smB c) w) := by
  have hu : smB c = (decide (97 ≤ c) && decide (c ≤ 122)) := rfl
  by_cases a : 97 ≤ c <;> by_cases b : c ≤ 122
  all_goals try (exfalso; omega)
  all_goals
    simp only [a, b, decide_true, decide_false, Bool.and_true, Bool.and_false, Bool.and_self] at hu
    rw [hu]
    clear hu
    go_enter Tryd.func19, Tryd.ntmps19
    go_wp2
    go_ret
    exact ⟨rfl, rfl⟩
theorem num4_any (n : Int) (w : World) : Calls Tryd.prog 52 #[.int .i64 n] w (SaysB (numB n) w) := by
  have hu : numB n = (decide (0 ≤ n) && decide (n ≤ 1114111)) := rfl
  by_cases a : 0 ≤ n <;> by_cases b : n ≤ 1114111
  all_goals try (exfalso; omega)
  all_goals
    simp only [a, b, decide_true, decide_false, Bool.and_true, Bool.and_false, Bool.and_self] at hu
    rw [hu]
    clear hu
    go_enter Tryd.func52, Tryd.ntmps52
    go_wp2
    go_ret
    exact ⟨rfl, rfl⟩

theorem inName_any (c : Int) (h0 : 0 ≤ c) (h1 : c ≤ 255) (w : World) : Calls Tryd.prog 21 #[.int .u8 c] w (SaysB (nlB c) w) := by
  have HS := Lib.hid (fun W => small_any c h0 h1 W)
  cases hs : smB c
  · rw [hs] at HS
    cases hd : isDc c
    · have hd' : ¬ (48 ≤ c ∧ c ≤ 57) := by unfold isDc at hd; simp at hd; omega
      by_cases e : c = 45
      · subst e
        rw [show nlB 45 = true by decide]
        clear hs hd hd'
        go_enter Tryd.func21, Tryd.ntmps21
        go_wp2_with fail
        refine (HS.out _).mono ?_
        rintro e w' ⟨rfl, rfl⟩
        go_wp2_with fail
        go_ret
        exact ⟨rfl, rfl⟩
      · have q : (c == 45) = false := by simpa using e
        rw [show nlB c = false by unfold nlB; rw [hs, hd, q]; rfl]
        clear hs hd
        by_cases a : 48 ≤ c
        · have b : decide (c ≤ 57) = false := decide_eq_false (by omega)
          go_enter Tryd.func21, Tryd.ntmps21
          go_wp2_with fail
          refine (HS.out _).mono ?_
          rintro e w' ⟨rfl, rfl⟩
          go_wp2_with fail
          go_ret
          exact ⟨rfl, rfl⟩
        · go_enter Tryd.func21, Tryd.ntmps21
          go_wp2_with fail
          refine (HS.out _).mono ?_
          rintro e w' ⟨rfl, rfl⟩
          go_wp2_with fail
          go_ret
          exact ⟨rfl, rfl⟩
    · obtain ⟨a, b⟩ : 48 ≤ c ∧ c ≤ 57 := by unfold isDc at hd; simpa using hd
      rw [show nlB c = true by unfold nlB; rw [hd]; simp]
      clear hs hd
      go_enter Tryd.func21, Tryd.ntmps21
      go_wp2_with fail
      refine (HS.out _).mono ?_
      rintro e w' ⟨rfl, rfl⟩
      go_wp2_with fail
      go_ret
      exact ⟨rfl, rfl⟩
  · rw [hs] at HS
    rw [show nlB c = true by unfold nlB; rw [hs]; rfl]
    clear hs
    go_enter Tryd.func21, Tryd.ntmps21
    go_wp2_with fail
    refine (HS.out _).mono ?_
    rintro e w' ⟨rfl, rfl⟩
    go_wp2_with fail
    go_ret
    exact ⟨rfl, rfl⟩

end Go.Proofs.YtfoohffeccgkeaaDoor
