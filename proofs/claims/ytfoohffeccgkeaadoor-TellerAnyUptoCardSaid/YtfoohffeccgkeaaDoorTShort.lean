/- Rules that are few and small have short texts. No condition. -/
import Derived.Test.YtfoohffeccgkeaaDoorTSame
import Derived.Test.YtfoohffeccgkeaaDoorTLen
namespace Go.Proofs.YtfoohffeccgkeaaDoor
open Go.RowKit
set_option linter.unusedVariables false
set_option linter.unusedSimpArgs false

theorem line_len {r : Rule} (h : rlB r = true) : (lineT r).length ≤ r.name.length + 20 * r.expr.tw + 5 := by
  unfold rlB at h
  rw [Bool.and_eq_true] at h
  have := text_len 50 r.expr h.2
  unfold lineT
  simp only [List.length_append]
  have h4 : (if r.more = true then ([32, 61, 47, 32] : List Int) else [32, 61, 32]).length ≤ 4 := by split <;> simp
  have e10 : ([10] : List Int).length = 1 := rfl
  omega
theorem short_all {l : List Rule} (h : ∀ r ∈ l, r.name.length + 20 * r.expr.tw ≤ 10000000) (hl : l.length ≤ 1000) : ShortL l := by
  intro i hi
  have key : ∀ (m : List Rule), (∀ r ∈ m, r ∈ l) → m.all rlB = true → ((m.map lineT).flatten).length ≤ m.length * 10000005 := by
    intro m
    induction m with
    | nil => intro _ _; simp
    | cons r m ih =>
      intro hm ha
      rw [List.all_cons, Bool.and_eq_true] at ha
      have h1 := line_len ha.1
      have h2 := h r (hm r (by simp))
      have h3 := ih (fun u hu => hm u (by simp [hu])) ha.2
      simp only [List.map_cons, List.flatten_cons, List.length_append, List.length_cons, Nat.add_mul]
      omega
  have h1 := key (l.take i) (fun r hr => List.mem_of_mem_take hr) hi
  have h2 : (l.take i).length ≤ 1000 := by rw [List.length_take]; omega
  have h3 : (l.take i).length * 10000005 ≤ 1000 * 10000005 := Nat.mul_le_mul_right _ h2
  omega

end Go.Proofs.YtfoohffeccgkeaaDoor
