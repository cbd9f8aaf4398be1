/- An expression laid behind a row, cell by cell. No condition. -/
import Derived.Test.YtddbaacibdmnaaaDoorTSpoilC
namespace Go.Proofs.YtddbaacibdmnaaaDoor
open Go.RowKit
set_option linter.unusedVariables false
set_option linter.unusedSimpArgs false

def sixSet (W : World) (g o : Nat) (c0 c1 c2 c3 c4 c5 : Value) : World :=
  (((((W.setCell ⟨g, o, none⟩ c0).setCell ⟨g, o + 1, none⟩ c1).setCell ⟨g, o + 2, none⟩ c2).setCell ⟨g, o + 3, none⟩ c3).setCell ⟨g, o + 4, none⟩ c4).setCell ⟨g, o + 5, none⟩ c5

def Roomy (W : World) (g n : Nat) : Prop := ∃ (cur : Array Value) (t : TypeId), W.heap[g]? = some (.cells cur t (0, 0)) ∧ n ≤ cur.size
theorem Roomy.set {W : World} {g n : Nat} (h : Roomy W g n) (i : Nat) (v : Value) : Roomy (W.setCell ⟨g, i, none⟩ v) g n := by
  obtain ⟨cur, t, h1, h2⟩ := h
  refine ⟨cur.setIfInBounds i v, t, ?_, by simpa using h2⟩
  rw [setCell_eq_setRow W g i cur t (0, 0) v h1]
  exact setRow_heap _ _ _ _ _ _ h1
theorem Roomy.cell {W : World} {g n : Nat} (h : Roomy W g n) {i : Nat} (hi : i < n) (v : Value) (j : Nat) : (W.setCell ⟨g, i, none⟩ v).cell? ⟨g, j, none⟩ = if j = i then some v else W.cell? ⟨g, j, none⟩ := by
  obtain ⟨cur, t, h1, h2⟩ := h
  exact cell_set h1 (by omega) v j
theorem six_cell {W : World} {g o : Nat} (h : Roomy W g (o + 6)) (c0 c1 c2 c3 c4 c5 : Value) (j : Nat) :
    (sixSet W g o c0 c1 c2 c3 c4 c5).cell? ⟨g, j, none⟩ = if j = o + 5 then some c5 else if j = o + 4 then some c4 else if j = o + 3 then some c3 else if j = o + 2 then some c2 else if j = o + 1 then some c1 else if j = o then some c0 else W.cell? ⟨g, j, none⟩ := by
  unfold sixSet
  have h0 := h.set o c0
  have h1 := h0.set (o + 1) c1
  have h2 := h1.set (o + 2) c2
  have h3 := h2.set (o + 3) c3
  have h4 := h3.set (o + 4) c4
  rw [h4.cell (by omega), h3.cell (by omega), h2.cell (by omega), h1.cell (by omega), h0.cell (by omega), h.cell (by omega)]
theorem six_other {W : World} {g o b : Nat} (hb : b ≠ g) (c0 c1 c2 c3 c4 c5 : Value) : (sixSet W g o c0 c1 c2 c3 c4 c5).heap[b]? = W.heap[b]? := by
  unfold sixSet
  rw [Below.heap_setCell _ _ _ _ hb, Below.heap_setCell _ _ _ _ hb, Below.heap_setCell _ _ _ _ hb, Below.heap_setCell _ _ _ _ hb, Below.heap_setCell _ _ _ _ hb, Below.heap_setCell _ _ _ _ hb]
theorem six_size (W : World) (g o : Nat) (c0 c1 c2 c3 c4 c5 : Value) : (sixSet W g o c0 c1 c2 c3 c4 c5).heap.size = W.heap.size := by simp [sixSet, World.setCell]
theorem set_comm {W : World} {p q : Addr} (h : p.block ≠ q.block) (a b : Value) : (W.setCell p a).setCell q b = (W.setCell q b).setCell p a := by
  unfold World.setCell
  congr 1
  apply Array.ext_getElem?
  intro k
  simp only [Array.getElem?_modify]
  by_cases e1 : q.block = k
  · have e2 : ¬ p.block = k := fun e => h (e.trans e1.symm)
    simp [e1, e2]
  · by_cases e2 : p.block = k
    · simp [e1, e2]
    · simp [e1, e2]
theorem six_comm {W : World} {g gg o i : Nat} (h : g ≠ gg) (v c0 c1 c2 c3 c4 c5 : Value) : sixSet (W.setCell ⟨g, i, none⟩ v) gg o c0 c1 c2 c3 c4 c5 = (sixSet W gg o c0 c1 c2 c3 c4 c5).setCell ⟨g, i, none⟩ v := by
  unfold sixSet
  have k : ∀ (X : World) (j : Nat) (c : Value), (X.setCell ⟨g, i, none⟩ v).setCell ⟨gg, j, none⟩ c = (X.setCell ⟨gg, j, none⟩ c).setCell ⟨g, i, none⟩ v := fun X j c => set_comm h v c
  rw [k, k, k, k, k, k]

/-- The row with one more expression. -/
theorem kid_row {W : World} {gg g kn cq : Nat} {fl : List Value} {z0 z1 z2 z3 z4 z5 c0 c1 c2 c3 c4 c5 : Value} (h : W.ownsRow 0 32 6 (.slice (some ⟨gg, 0, none⟩) (kn + 1) cq) (kn + 1) (fl ++ [z0, z1, z2, z3, z4, z5])) (hne : gg ≠ g) (val : Value) :
    RowAny ((sixSet W gg (kn * 6) c0 c1 c2 c3 c4 c5).setCell ⟨g, 7, none⟩ val) (.slice (some ⟨gg, 0, none⟩) (kn + 1) cq) (kn + 1) (fl ++ [c0, c1, c2, c3, c4, c5]) := by
  have hl : fl.length = kn * 6 := by have := h.1; simp at this; omega
  obtain ⟨q1, q2, q3, q4⟩ := row_base h
  have hr : Roomy W gg (kn * 6 + 6) := by
    rcases h.2 with ⟨e, _⟩ | ⟨k, c, cur, e, _, e2, e3, _, e5, _⟩
    · cases e
    · obtain ⟨rfl, _⟩ : gg = k ∧ cq = c := by simp at e; exact e
      exact ⟨cur, _, e2, by omega⟩
  refine .inr ⟨gg, 0, cq, rfl, q2, q3, by simp [World.setCell, six_size]; exact q4, fun j u hj => ?_⟩
  rw [Nat.zero_add, World.cell?_of_block (w := sixSet W gg (kn * 6) c0 c1 c2 c3 c4 c5) (a := ⟨gg, j, none⟩) (Below.heap_setCell _ _ _ _ hne), six_cell hr]
  by_cases hj6 : j < kn * 6
  · rw [if_neg (by omega), if_neg (by omega), if_neg (by omega), if_neg (by omega), if_neg (by omega), if_neg (by omega)]
    refine row_cell h ?_
    rw [List.getElem?_append_left (by omega)] at hj ⊢
    exact hj
  · rw [List.getElem?_append_right (by omega), hl] at hj
    obtain ⟨i, hi⟩ : ∃ i, j = kn * 6 + i := ⟨j - kn * 6, by omega⟩
    subst hi
    rw [Nat.add_sub_cancel_left] at hj
    match i, hj with
    | 0, hj => simp at hj; subst hj; simp
    | 1, hj => simp at hj; subst hj; simp
    | 2, hj => simp at hj; subst hj; simp
    | 3, hj => simp at hj; subst hj; simp
    | 4, hj => simp at hj; subst hj; simp
    | 5, hj => simp at hj; subst hj; simp
    | i + 6, hj => simp at hj

end Go.Proofs.YtddbaacibdmnaaaDoor
