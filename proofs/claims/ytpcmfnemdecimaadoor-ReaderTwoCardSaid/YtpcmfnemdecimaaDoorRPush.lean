/- Two lists of rules appended to none: the list of both. No condition. -/
import Derived.Test.YtpcmfnemdecimaaDoorRPieces
import Derived.Test.YtpcmfnemdecimaaDoorRAround
import Derived.Laws.AppendOwnNone
namespace Go.Proofs.YtpcmfnemdecimaaDoor
open Go.RowKit
set_option linter.unusedVariables false
set_option linter.unusedSimpArgs false

/-- Appending rules, nil or not, to a row of the call's own. -/
theorem append_rows {ops : Array Oper} {rest : List Oper} {o : Oper} {a : Act} {w : World} {Q : Exit → Act → World → Prop} (hgd : o.guard = none) (sx xx : Operand)
    (ho : o.op = .call { callee := .builtin .append, args := #[sx, xx], argTypes := #[31, 31] }) (base : Nat) (v u : Value) (n m : Nat) (xs news : List Value) (P : Nat → Prop)
    (hs : a.eval sx = v) (hx : a.eval xx = u) (hown : w.ownsRow base 47 8 v n xs) (hu : RowIn w P u m news) (hl : news.length = m * 8) (h1 : ∀ x ∈ news, x.oneCell' = true) (hnm : n + m ≤ 100000) (hbase : base ≤ w.heap.size)
    (h : ∀ v' w', w'.ownsRow base 47 8 v' (n + m) (xs ++ news) → w.grownBy w' v.ownBlock → (v'.ownBlock = v.ownBlock ∨ v'.ownBlock = some w.heap.size) → wpList Tryd.prog ops Q rest (a.put o.dst v') w') : wpList Tryd.prog ops Q (o :: rest) a w := by
  obtain ⟨i0, hi0, hi1⟩ := Option.map_eq_some_iff.1 infoL
  obtain ⟨hz0, hz1, hz2⟩ : i0.zero = some _ ∧ i0.size = 8 ∧ i0.bytes = _ := by simpa using hi1
  rcases hu with ⟨rfl, rfl⟩ | ⟨g, cap, rfl, hc, hm, _, hg, hcell⟩
  · obtain rfl : news = [] := List.length_eq_zero_iff.1 (by omega)
    exact wpList_append_own_none hgd sx xx 31 ho base 47 i0 8 Tryd.underlying31 hi0 v n xs hs hown hx (h v w (by simpa using hown) (grown_refl _ _) (.inl rfl))
  · refine wpList_append_own_at _ hgd sx xx 31 ho base 47 i0 _ 8 112 Tryd.underlying31 hi0 hz0 hz1 hz2 rfl (by decide) v n xs hs hown ⟨g, 0, none⟩ m cap news hx hl ?_ h1 (by unfold maxLen; omega) (by omega) hbase ?_
    · intro j x hj
      have e : (⟨g, 0, none⟩ : Addr).add j = ⟨g, j, none⟩ := by cases j <;> simp [Addr.add]
      rw [e]
      exact hcell j x hj
    · intro v' w' hown' hgrow _ hat
      exact h v' w' hown' hgrow hat

theorem flatL_len (ys : List LV) : (ys.flatMap LV.cells).length = ys.length * 8 := by
  induction ys with
  | nil => rfl
  | cons x vs ih => simp [LV.cells] at ih ⊢; omega

theorem lines_one {W : World} {P : Nat → Prop} {l : List Rule} {ys : List LV} (hl : ys.length = l.length) (h : ∀ (i : Nat) (y : LV) (r : Rule), ys[i]? = some y → l[i]? = some r → LineAt W P y r) : ∀ x ∈ ys.flatMap LV.cells, x.oneCell' = true := by
  intro x hx
  obtain ⟨y, hy, hxy⟩ := List.mem_flatMap.1 hx
  obtain ⟨i, hi⟩ := List.getElem?_of_mem hy
  obtain ⟨r, hr⟩ : ∃ r, l[i]? = some r := ⟨_, List.getElem?_eq_getElem (by have := (List.getElem?_eq_some_iff.1 hi).1; omega)⟩
  have ht := (h i y r hi hr).2.2
  have o2 := one_cell_ns ht
  have o5 := one_cell_ks ht
  simp [LV.cells] at hxy
  rcases hxy with rfl | rfl | rfl | rfl | rfl | rfl | rfl | rfl
  all_goals first | rfl | assumption

/-- The list of both. -/
theorem both_lines {w w1 w2 : World} {P P' : Nat → Prop} {v' v'' : Value} {base : Nat} {A B : List Rule} {ys us : List LV} (hy : ys.length = A.length) (hu : us.length = B.length)
    (hA : ∀ (i : Nat) (y : LV) (r : Rule), ys[i]? = some y → A[i]? = some r → LineAt w P y r) (hB : ∀ (i : Nat) (y : LV) (r : Rule), us[i]? = some y → B[i]? = some r → LineAt w P' y r)
    (g1 : w.grownBy w1 none) (hat : v'.ownBlock = none ∨ v'.ownBlock = some w.heap.size) (g2 : w1.grownBy w2 v'.ownBlock)
    (hown : w2.ownsRow base 47 8 v'' (A.length + B.length) (ys.flatMap LV.cells ++ us.flatMap LV.cells)) : LinesIn w2 (fun b => True) v'' (A ++ B) := by
  have keep : ∀ (Q : Nat → Prop) (y : LV) (r : Rule), LineAt w Q y r → LineAt w2 (fun b => True) y r := by
    intro Q y r h
    refine h.kept (fun b _ hl => ⟨?_, trivial⟩) (Nat.le_trans g1.size g2.size)
    rw [g2.block b (Nat.lt_of_lt_of_le hl g1.size) (fun e => by rcases hat with h | h <;> rw [h] at e <;> simp at e; omega), g1.block b hl (by simp)]
  refine ⟨ys ++ us, by simp [hy, hu], ?_, fun i y r h1 h2 => ?_⟩
  · have := RowIn.of_row (P := fun b => True) hown (fun b _ => trivial)
    simpa using this
  · by_cases hi : i < A.length
    · rw [List.getElem?_append_left (by omega)] at h1
      rw [List.getElem?_append_left hi] at h2
      exact keep P y r (hA i y r h1 h2)
    · rw [List.getElem?_append_right (by omega), hy] at h1
      rw [List.getElem?_append_right (by omega)] at h2
      exact keep P' y r (hB _ y r h1 h2)

end Go.Proofs.YtpcmfnemdecimaaDoor
