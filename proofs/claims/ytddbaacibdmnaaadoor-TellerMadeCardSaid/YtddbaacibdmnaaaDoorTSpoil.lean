/- The law's rules by numbers, as both tellers read them; with one thing spoilt. No condition. -/
import Derived.Test.YtddbaacibdmnaaaDoorTMade
import Derived.Test.YtddbaacibdmnaaaDoorTOne
import Derived.Test.YtddbaacibdmnaaaDoorTOwn
namespace Go.Proofs.YtddbaacibdmnaaaDoor
open Go.RowKit
set_option linter.unusedVariables false
set_option linter.unusedSimpArgs false

def mkTw : Nat → Nat
  | 0 => 5
  | d + 1 => 5 + 3 * mkTw d
theorem word_ok {x : List Int} (h : x ∈ mkWords) : (∀ c ∈ x, 0 ≤ c ∧ c ≤ 255) ∧ x.length ≤ 4 := by
  simp [mkWords] at h
  rcases h with rfl | rfl | rfl | rfl | rfl <;> simp
theorem fold_ok {x : List Int} (h : x ∈ mkFolds) : (∀ c ∈ x, 0 ≤ c ∧ c ≤ 255) ∧ x.length ≤ 4 := by
  simp [mkFolds] at h
  rcases h with rfl | rfl | rfl | rfl | rfl <;> simp
theorem sum_tw {B : Nat} : ∀ (l : List Tree), (∀ t ∈ l, t.tw ≤ B) → (l.map Tree.tw).sum ≤ l.length * B
  | [], _ => by simp
  | t :: l, h => by
    have h1 := h t (by simp)
    have h2 := sum_tw l (fun u hu => h u (by simp [hu]))
    simp [Nat.add_mul]
    omega
theorem mk_ok {d : Nat} {t : Tree} (h : Mk d t) : TreeOk t ∧ t.tw ≤ mkTw d := by
  induction h with
  | @ref d x hx =>
    have := word_ok hx
    refine ⟨.mk this.1 (by omega) (fun u hu => by simp at hu), ?_⟩
    have : 5 ≤ mkTw d := by cases d <;> simp [mkTw]
    simp [Tree.tw]
    omega
  | @fold d x hx =>
    have := fold_ok hx
    refine ⟨.mk this.1 (by omega) (fun u hu => by simp at hu), ?_⟩
    have : 5 ≤ mkTw d := by cases d <;> simp [mkTw]
    simp [Tree.tw]
    omega
  | @nums d n l hn hl hm =>
    refine ⟨.mk (by simp) (by simp) (fun u hu => by simp at hu), ?_⟩
    have : 5 ≤ mkTw d := by cases d <;> simp [mkTw]
    simp [Tree.tw]
    omega
  | @span d n m _ _ _ =>
    refine ⟨.mk (by simp) (by simp) (fun u hu => by simp at hu), ?_⟩
    have : 5 ≤ mkTw d := by cases d <;> simp [mkTw]
    simp [Tree.tw]
    omega
  | rep _ _ _ _ _ _ ih =>
    refine ⟨wrap1_ok ih.1, ?_⟩
    rw [wrap1_tw]
    have := ih.2
    simp only [mkTw]
    omega
  | @many d k l hk h2 h3 _ ih =>
    refine ⟨.mk (by simp) (by simp) (fun u hu => (ih u hu).1), ?_⟩
    have hs := sum_tw l (fun t ht => (ih t ht).2)
    have h4 : l.length * mkTw d ≤ 3 * mkTw d := Nat.mul_le_mul_right _ h3
    simp only [Tree.tw, mkTw]
    simp
    omega
theorem mk3_tw {t : Tree} (h : Mk 3 t) : t.tw ≤ 1000 := Nat.le_trans (mk_ok h).2 (by decide)

theorem line_len {r : Rule} (h : rlB r = true) : (lineT r).length ≤ r.name.length + 20 * r.expr.tw + 5 := by
  unfold rlB at h
  rw [Bool.and_eq_true] at h
  have := text_len 50 r.expr h.2
  unfold lineT
  simp only [List.length_append]
  have h4 : (if r.more = true then ([32, 61, 47, 32] : List Int) else [32, 61, 32]).length ≤ 4 := by split <;> simp
  have e10 : ([10] : List Int).length = 1 := rfl
  omega
theorem short_all {l : List Rule} (h : ∀ r ∈ l, r.name.length + 20 * r.expr.tw ≤ 10000000) (hl : l.length ≤ 1000) : ShortL l := by
  intro i hi
  have key : ∀ (m : List Rule), (∀ r ∈ m, r ∈ l) → m.all rlB = true → ((m.map lineT).flatten).length ≤ m.length * 10000005 := by
    intro m
    induction m with
    | nil => intro _ _; simp
    | cons r m ih =>
      intro hm ha
      rw [List.all_cons, Bool.and_eq_true] at ha
      have h1 := line_len ha.1
      have h2 := h r (hm r (by simp))
      have h3 := ih (fun u hu => hm u (by simp [hu])) ha.2
      simp only [List.map_cons, List.flatten_cons, List.length_append, List.length_cons, Nat.add_mul]
      omega
  have h1 := key (l.take i) (fun r hr => List.mem_of_mem_take hr) hi
  have h2 : (l.take i).length ≤ 1000 := by rw [List.length_take]; omega
  have h3 : (l.take i).length * 10000005 ≤ 1000 * 10000005 := Nat.mul_le_mul_right _ h2
  omega

/-- What the law makes is as the tellers ask. -/
theorem LT.lines {W : World} {base : Nat} {v : Value} {l : List Rule} {ys : List LV} (h : LT W base v l ys) (hm : MadeL l) : LinesE W v ys l := by
  obtain ⟨h1, h2, h3, _⟩ := h
  refine ⟨(RowIn.of_row h2 (P := fun _ => True) (fun _ _ => trivial)).any, h1, fun i y r hy hr => ?_⟩
  obtain ⟨g1, g2, g3⟩ := h3 i y r hy hr
  obtain ⟨m1, m2⟩ := hm r (List.mem_of_getElem? hr)
  have hw := word_ok m1
  exact ⟨g1, hw.1, by omega, g2, g3.tree (mk_ok m2).1⟩
theorem made_short {l : List Rule} (h : MadeL l) (hl : l.length ≤ 5) : ShortL l :=
  short_all (fun r hr => by
    have h1 := (word_ok (h r hr).1).2
    have h2 := mk3_tw (h r hr).2
    omega) (by omega)

/-- The first rule is another one now; the row and the rest are as they were. -/
theorem LT.spoil {W W' : World} {base n g cap : Nat} {v : Value} {r0 r0' : Rule} {rs : List Rule} {y0 y0' : LV} {yr : List LV} (h : LT W base v (r0 :: rs) (y0 :: yr)) (hm : MadeL (r0 :: rs)) (hv : v = .slice (some ⟨g, 0, none⟩) n cap)
    (hc : ∀ (j : Nat) (u : Value), y0'.cells[j]? = some u → W'.cell? ⟨g, j, none⟩ = some u) (hrest : ∀ j, 8 ≤ j → W'.cell? ⟨g, j, none⟩ = W.cell? ⟨g, j, none⟩) (hs : W.heap.size ≤ W'.heap.size)
    (hkeep : ∀ b, base ≤ b → some b ≠ v.ownBlock → some b ≠ y0.expr.ns.ownBlock → some b ≠ y0.expr.ks.ownBlock → b < W.heap.size → W'.heap[b]? = W.heap[b]?) (h0 : LineE W' y0' r0') : LinesE W' v (y0' :: yr) (r0' :: rs) := by
  obtain ⟨h1, h2, h3, h4⟩ := h
  obtain ⟨_, g2⟩ := h4 y0 r0 rfl rfl
  subst hv
  have hn : n = (r0 :: rs).length := by
    rcases h2.2 with ⟨e, _⟩ | ⟨k, c, cur, e, _⟩
    · cases e
    · simp at e; simp; omega
  obtain ⟨q1, q2, q3, q4⟩ := row_base (by rw [hn]; rw [hn] at h2; exact h2 : W.ownsRow base _ 8 (.slice (some ⟨g, 0, none⟩) n cap) n _)
  refine ⟨.inr ⟨g, 0, cap, by simp [hn], by simpa [hn] using q2, q3, Nat.lt_of_lt_of_le q4 hs, fun j u hj => ?_⟩, by simpa using h1, fun i y r hy hr => ?_⟩
  · rw [Nat.zero_add]
    by_cases hj8 : j < 8
    · refine hc j u ?_
      rw [List.flatMap_cons, List.getElem?_append_left (by simp [LV.cells]; omega)] at hj
      exact hj
    · rw [hrest j (by omega)]
      refine row_cell (n := n) (by rw [hn]; rw [hn] at h2; exact h2) ?_
      rw [List.flatMap_cons, List.getElem?_append_right (by simp [LV.cells]; omega)] at hj ⊢
      simpa [LV.cells] using hj
  · match i, hy, hr with
    | 0, hy, hr => cases hy; cases hr; exact h0
    | i + 1, hy, hr =>
      obtain ⟨e1, e2, _⟩ := h3 (i + 1) y r hy hr
      have hr' : (r0 :: rs)[i + 1]? = some r := hr
      obtain ⟨m1, m2⟩ := hm r (List.mem_of_getElem? hr')
      have hw := word_ok m1
      have ht := (g2 (i + 1) y r (by omega) hy hr).kept (W' := W') (P' := fun _ => True) (fun b hP hl => ⟨hkeep b hP.1.1 hP.1.2 hP.2.1 hP.2.2 hl, trivial⟩) hs
      exact ⟨e1, hw.1, by omega, e2, ht.tree (mk_ok m2).1⟩

end Go.Proofs.YtddbaacibdmnaaaDoor
