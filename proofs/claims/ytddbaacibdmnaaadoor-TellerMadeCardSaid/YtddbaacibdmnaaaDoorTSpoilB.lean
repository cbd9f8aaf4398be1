/- One thing of the first rule spoilt: what lies there then. No condition. -/
import Derived.Test.YtddbaacibdmnaaaDoorTSpoil
namespace Go.Proofs.YtddbaacibdmnaaaDoor
open Go.RowKit
set_option linter.unusedVariables false
set_option linter.unusedSimpArgs false

theorem LT.first {W : World} {base n g cap : Nat} {v : Value} {r0 : Rule} {rs : List Rule} {y0 : LV} {yr : List LV} (h : LT W base v (r0 :: rs) (y0 :: yr)) (hv : v = .slice (some ⟨g, 0, none⟩) n cap) :
    n = (r0 :: rs).length ∧ base ≤ g ∧ g < W.heap.size ∧ (∀ (j : Nat) (u : Value), y0.cells[j]? = some u → W.cell? ⟨g, j, none⟩ = some u) ∧ ∃ cur : Array Value, W.heap[g]? = some (.cells cur 34 (0, 0)) ∧ 8 ≤ cur.size := by
  obtain ⟨h1, h2, h3, h4⟩ := h
  subst hv
  have hn : n = (r0 :: rs).length := by
    rcases h2.2 with ⟨e, _⟩ | ⟨k, c, cur, e, _⟩
    · cases e
    · simp at e; simp; omega
  rw [← hn] at h2
  obtain ⟨q1, q2, q3, q4⟩ := row_base h2
  refine ⟨hn, q1, q4, fun j u hj => ?_, ?_⟩
  · refine row_cell h2 ?_
    have := (List.getElem?_eq_some_iff.1 hj).1
    rw [List.flatMap_cons, List.getElem?_append_left this]
    exact hj
  · rcases h2.2 with ⟨e, _⟩ | ⟨k, c, cur, e, _, e2, e3, _, e4, _⟩
    · cases e
    · obtain ⟨rfl, _⟩ : g = k ∧ cap = c := by simp at e; exact e
      have : 1 ≤ n := by rw [hn]; simp
      exact ⟨cur, e2, by omega⟩

theorem cell_set {W : World} {g i : Nat} {cur : Array Value} {t : TypeId} (h : W.heap[g]? = some (.cells cur t (0, 0))) (hi : i < cur.size) (val : Value) (j : Nat) :
    (W.setCell ⟨g, i, none⟩ val).cell? ⟨g, j, none⟩ = if j = i then some val else W.cell? ⟨g, j, none⟩ := by
  rw [setCell_eq_setRow W g i cur t (0, 0) val h]
  have h2 := setRow_heap W g cur (cur.setIfInBounds i val) t (0, 0) h
  simp only [World.cell?, h2, h]
  rw [Array.getElem?_setIfInBounds]
  by_cases e : i = j
  · subst e; simp [hi]
  · rw [if_neg e, if_neg (fun h' : j = i => e h'.symm)]

/-- One cell of the first rule is stored; nothing else of what was there. -/
theorem LT.cell {W W0 : World} {base n g cap i : Nat} {v val : Value} {r0 r0' : Rule} {rs : List Rule} {y0 y0' : LV} {yr : List LV} (h : LT W base v (r0 :: rs) (y0 :: yr)) (hm : MadeL (r0 :: rs)) (hv : v = .slice (some ⟨g, 0, none⟩) n cap)
    (hk : ∀ b, base ≤ b → b < W.heap.size → some b ≠ y0.expr.ns.ownBlock → some b ≠ y0.expr.ks.ownBlock → W0.heap[b]? = W.heap[b]?) (hgk : W0.heap[g]? = W.heap[g]?) (hs : W.heap.size ≤ W0.heap.size) (hi : i < 8) (hy : y0'.cells = y0.cells.set i val)
    (h0 : LineE (W0.setCell ⟨g, i, none⟩ val) y0' r0') : LinesE (W0.setCell ⟨g, i, none⟩ val) v (y0' :: yr) (r0' :: rs) := by
  obtain ⟨f1, f2, f3, f4, cur, f5, f6⟩ := h.first hv
  have hg0 : W0.heap[g]? = some (.cells cur 34 (0, 0)) := hgk.trans f5
  refine h.spoil hm hv (fun j u hj => ?_) (fun j hj => ?_) (by simpa [World.setCell] using hs) (fun b hb h1 h2 h3 hl => ?_) h0
  · rw [cell_set hg0 (by omega)]
    rw [hy] at hj
    by_cases e : j = i
    · subst e
      rw [if_pos rfl]
      rw [List.getElem?_set_self (by simp [LV.cells]; omega)] at hj
      exact hj
    · rw [if_neg e, World.cell?_of_block (w := W) hgk]
      rw [List.getElem?_set_ne (fun h => e h.symm)] at hj
      exact f4 j u hj
  · rw [cell_set hg0 (by omega), if_neg (by omega), World.cell?_of_block (w := W) hgk]
  · rw [Below.heap_setCell _ _ _ _ (by show b ≠ g; intro e; subst e; rw [hv] at h1; exact h1 rfl)]
    exact hk b hb hl h2 h3

/-- The fields of the first expression may be others; its lists stay. -/
theorem TopP.etree {W W' : World} {P : Nat → Prop} {k lo hi : Int} {s : ByteArray} {ns ks : Value} {x nums : List Int} {kids : List Tree} (h : TopP W P ⟨k, s, ns, lo, hi, ks⟩ (.mk k x nums lo hi kids)) (hok : TreeOk (.mk k x nums lo hi kids))
    (hk : ∀ b, P b → b < W.heap.size → W'.heap[b]? = W.heap[b]?) (hs : W.heap.size ≤ W'.heap.size) (k' lo' hi' : Int) {x' : List Int} (hx : ∀ c ∈ x', 0 ≤ c ∧ c ≤ 255) (hl : x'.length ≤ 1000) :
    ETree W' ⟨k', strOf x', ns, lo', hi', ks⟩ (.mk k' x' nums lo' hi' kids) ∧ ETree W' ⟨k', strOf x', ns, lo', hi', .slice none 0 0⟩ (.mk k' x' nums lo' hi' []) := by
  have ht := (h.tree.kept (W' := W') (P' := fun _ => True) (fun b hP hb => ⟨hk b hP hb, trivial⟩) hs)
  cases hok with
  | mk o1 o2 o3 =>
    cases ht with
    | mk vs h1 h2 h3 h4 =>
      exact ⟨.mk vs hx (by omega) h1.any h2.any h3 (fun i y t hy ht => (h4 i y t hy ht).tree (o3 t (List.mem_of_getElem? ht))), .mk (kids := []) [] hx (by omega) h1.any (RowAny.nil _ _ _ _) rfl (fun i y t hy ht => by simp at hy)⟩

/-- What a law's walk goes on with. -/
def Spoilt (w W : World) (v : Value) : Prop := ∃ (ys : List LV) (l : List Rule), LinesE W v ys l ∧ ShortL l ∧ Below w.heap.size w W
theorem spoilt_short {r0' : Rule} {r0 : Rule} {rs : List Rule} (hm : MadeL (r0 :: rs)) (hl : (r0 :: rs).length ≤ 5) (hn : r0'.name.length ≤ 10) (ht : r0'.expr.tw ≤ 2000) : ShortL (r0' :: rs) :=
  short_all (fun r hr => by
    rcases List.mem_cons.1 hr with rfl | hr
    · omega
    · have h := hm r (by simp [hr])
      have h1 := (word_ok h.1).2
      have h2 := mk3_tw h.2
      omega) (by simp at hl ⊢; omega)

end Go.Proofs.YtddbaacibdmnaaaDoor
