/- The law's rules by numbers, as they lie in memory: the first one's own lists apart from all else. No condition. -/
import Derived.Test.YtddbaacibdmnaaaGreatDoorTMkS
namespace Go.Proofs.YtddbaacibdmnaaaGreatDoor
open Go.RowKit
set_option linter.unusedVariables false
set_option linter.unusedSimpArgs false

theorem owns_block {W W' : World} {base size n : Nat} {e : TypeId} {v : Value} {xs : List Value} (h : W.ownsRow base e size v n xs) (hk : ∀ g, v.ownBlock = some g → g < W.heap.size → W'.heap[g]? = W.heap[g]?) : W'.ownsRow base e size v n xs := by
  refine ⟨h.1, ?_⟩
  rcases h.2 with hn | ⟨g, cap, cur, rfl, hb, hg, rest⟩
  · exact .inl hn
  · exact .inr ⟨g, cap, cur, rfl, hb, (hk g rfl (Array.getElem?_eq_some_iff.1 hg).1).trans hg, rest⟩
theorem owns_base {W : World} {base size n : Nat} {e : TypeId} {v : Value} {xs : List Value} (h : W.ownsRow base e size v n xs) {base' : Nat} (hb : base' ≤ base) : W.ownsRow base' e size v n xs := by
  refine ⟨h.1, ?_⟩
  rcases h.2 with hn | ⟨g, cap, cur, hv, hg, rest⟩
  · exact .inl hn
  · exact .inr ⟨g, cap, cur, hv, by omega, rest⟩
theorem owns_lt {W : World} {base size n : Nat} {e : TypeId} {v : Value} {xs : List Value} (h : W.ownsRow base e size v n xs) {g : Nat} (hg : v.ownBlock = some g) : base ≤ g ∧ g < W.heap.size := by
  rcases row_forms h with ⟨rfl, _⟩ | ⟨k, cap, rfl⟩
  · simp [Value.ownBlock] at hg
  · have := row_base h
    simp [Value.ownBlock] at hg
    omega
theorem owns_in {W : World} {P : Nat → Prop} {base size n : Nat} {e : TypeId} {v : Value} {xs : List Value} (h : W.ownsRow base e size v n xs) (hP : ∀ g, v.ownBlock = some g → P g) : RowIn W P v n xs := by
  rcases row_forms h with h0 | ⟨g, cap, rfl⟩
  · exact .inl h0
  · obtain ⟨hb, hc, hm, hg⟩ := row_base h
    exact .inr ⟨g, cap, rfl, hc, hm, hP g rfl, hg, fun j u hj => row_cell h hj⟩

/-- An expression with its own two lists in blocks of this kind, all that is in it apart from them. -/
inductive TopP (W : World) (P : Nat → Prop) : XV → Tree → Prop
  | mk {k lo hi : Int} {x nums : List Int} {kids : List Tree} {ns ks : Value} (vs : List XV) : W.ownsRow 0 3 1 ns nums.length (icells nums) → (∀ g, ns.ownBlock = some g → P g) → vs.length = kids.length →
      W.ownsRow 0 36 6 ks kids.length (vs.flatMap XV.cells) → (∀ g, ks.ownBlock = some g → P g) → (∀ (i : Nat) (y : XV) (t : Tree), vs[i]? = some y → kids[i]? = some t → TreeAt W (fun b => P b ∧ some b ≠ ks.ownBlock) y t) →
      (ns = .slice none 0 0 ∨ ks = .slice none 0 0) → TopP W P ⟨k, strOf x, ns, lo, hi, ks⟩ (.mk k x nums lo hi kids)

theorem TopP.kept {W W' : World} {P P' : Nat → Prop} {X : XV} {t : Tree} (h : TopP W P X t) (hk : ∀ b, P b → b < W.heap.size → W'.heap[b]? = W.heap[b]? ∧ P' b) (hs : W.heap.size ≤ W'.heap.size) : TopP W' P' X t := by
  cases h with
  | mk vs h1 h2 h3 h4 h5 h6 h7 =>
    exact .mk vs (owns_block h1 (fun g hg hl => (hk g (h2 g hg) hl).1)) (fun g hg => (hk g (h2 g hg) (owns_lt h1 hg).2).2) h3 (owns_block h4 (fun g hg hl => (hk g (h5 g hg) hl).1)) (fun g hg => (hk g (h5 g hg) (owns_lt h4 hg).2).2)
      (fun i y t hy ht => (h6 i y t hy ht).kept (fun b hP hl => ⟨(hk b hP.1 hl).1, (hk b hP.1 hl).2, hP.2⟩) hs) h7
theorem TopP.tree {W : World} {P : Nat → Prop} {X : XV} {t : Tree} (h : TopP W P X t) : TreeAt W P X t := by
  cases h with
  | mk vs h1 h2 h3 h4 h5 h6 h7 => exact .mk vs (owns_in h1 h2) (owns_in h4 h5) h3 (fun i y t hy ht => (h6 i y t hy ht).weak (fun b hP _ => hP.1))
theorem TopAt.top {W : World} {m : Nat} {X : XV} {t : Tree} (h : TopAt W m X t) : TopP W (fun b => m ≤ b) X t := by
  cases h with
  | mk h1 h2 h3 =>
    obtain ⟨vs, g1, g2, g3⟩ := h2
    exact .mk vs (owns_base h1 (Nat.zero_le _)) (fun g hg => (owns_lt h1 hg).1) g1 (owns_base g2 (Nat.zero_le _)) (fun g hg => (owns_lt g2 hg).1) g3 h3

/-- The rules in a row of the call's own. -/
def LT (W : World) (base : Nat) (v : Value) (l : List Rule) (ys : List LV) : Prop :=
  ys.length = l.length ∧ W.ownsRow base 38 8 v l.length (ys.flatMap LV.cells) ∧
    (∀ (i : Nat) (y : LV) (r : Rule), ys[i]? = some y → l[i]? = some r → LineAt W (fun b => base ≤ b ∧ some b ≠ v.ownBlock) y r) ∧
    (∀ (y : LV) (r : Rule), ys[0]? = some y → l[0]? = some r → TopP W (fun b => base ≤ b ∧ some b ≠ v.ownBlock) y.expr r.expr ∧
      ∀ (i : Nat) (y' : LV) (r' : Rule), 0 < i → ys[i]? = some y' → l[i]? = some r' → TreeAt W (fun b => (base ≤ b ∧ some b ≠ v.ownBlock) ∧ some b ≠ y.expr.ns.ownBlock ∧ some b ≠ y.expr.ks.ownBlock) y'.expr r'.expr)

theorem LT.nil (W : World) (base : Nat) : LT W base (.slice none 0 0) [] [] := ⟨rfl, World.ownsRow_nil _ _ _ _, fun i y r h => by simp at h, fun y r h => by simp at h⟩
theorem LT.kept {W W' : World} {base : Nat} {v : Value} {l : List Rule} {ys : List LV} (h : LT W base v l ys) (hk : ∀ b, base ≤ b → b < W.heap.size → W'.heap[b]? = W.heap[b]?) (hs : W.heap.size ≤ W'.heap.size) : LT W' base v l ys := by
  obtain ⟨h1, h2, h3, h4⟩ := h
  exact ⟨h1, owns_row_kept h2 hk, fun i y r hy hr => (h3 i y r hy hr).kept (fun b hP hl => ⟨hk b hP.1 hl, hP⟩) hs,
    fun y r hy hr => ⟨(h4 y r hy hr).1.kept (fun b hP hl => ⟨hk b hP.1 hl, hP⟩) hs, fun i y' r' hi hy' hr' => ((h4 y r hy hr).2 i y' r' hi hy' hr').kept (fun b hP hl => ⟨hk b hP.1.1 hl, hP⟩) hs⟩⟩
theorem LT.at {W : World} {base : Nat} {v : Value} {l : List Rule} {ys : List LV} (h : LT W base v l ys) : LinesAt W base v l := ⟨ys, h.1, h.2.1, h.2.2.1⟩

/-- One rule more. -/
theorem LT.push {wr W W' : World} {base m : Nat} {v v' : Value} {l : List Rule} {ys : List LV} {x : LV} {t : Rule} (h : LT wr base v l ys)
    (hk : ∀ b, base ≤ b → b < wr.heap.size → W.heap[b]? = wr.heap[b]?) (hs : wr.heap.size ≤ W.heap.size) (hx : TopAt W m x.expr t.expr) (hm : wr.heap.size ≤ m) (hb : base ≤ m) (hn : x.name = strOf t.name ∧ x.more = t.more)
    (hown : W'.ownsRow base 38 8 v' (l.length + 1) (ys.flatMap LV.cells ++ x.cells)) (hg : W.grownBy W' v.ownBlock) (hat : v'.ownBlock = v.ownBlock ∨ ∃ k, v'.ownBlock = some k ∧ W.heap.size ≤ k) : LT W' base v' (l ++ [t]) (ys ++ [x]) := by
  have hvl : ∀ g, v.ownBlock = some g → g < wr.heap.size := fun g hv => (owns_lt h.2.1 hv).2
  obtain ⟨h1, h2, h3, h4⟩ := h.kept hk hs
  -- what lies apart from the row stays apart
  have hP : ∀ b, (base ≤ b ∧ some b ≠ v.ownBlock) → b < W.heap.size → W'.heap[b]? = W.heap[b]? ∧ (base ≤ b ∧ some b ≠ v'.ownBlock) := fun b hb hl => by
    refine ⟨hg.block b hl hb.2, hb.1, ?_⟩
    rcases hat with e | ⟨k, e, hk⟩
    · rw [e]; exact hb.2
    · rw [e]; intro e'; have := Option.some.inj e'; omega
  have hxP : TopP W (fun b => base ≤ b ∧ some b ≠ v.ownBlock) x.expr t.expr := hx.top.kept (fun b hb' _ => ⟨rfl, by omega, fun e => by have := hvl b e.symm; omega⟩) (Nat.le_refl _)
  refine ⟨by simp [h1], by simpa using hown, fun i y r hy hr => ?_, fun y r hy hr => ?_⟩
  · by_cases hi : i < l.length
    · rw [List.getElem?_append_left (by omega)] at hy
      rw [List.getElem?_append_left hi] at hr
      exact (h3 i y r hy hr).kept hP hg.size
    · have hi0 : i = l.length := by
        have := (List.getElem?_eq_some_iff.1 hr).1
        simp at this; omega
      subst hi0
      rw [List.getElem?_append_right (by omega), h1] at hy
      rw [List.getElem?_append_right (by omega)] at hr
      simp at hy hr
      subst hy hr
      exact ⟨hn.1, hn.2, hxP.tree.kept hP hg.size⟩
  · by_cases hl0 : l.length = 0
    · have hy0 : ys = [] := List.length_eq_zero_iff.1 (by omega)
      have hr0 : l = [] := List.length_eq_zero_iff.1 hl0
      subst hy0 hr0
      simp at hy hr
      subst hy hr
      refine ⟨hxP.kept hP hg.size, fun i y' r' hi hy' hr' => ?_⟩
      have := (List.getElem?_eq_some_iff.1 hr').1
      simp at this
      omega
    · rw [List.getElem?_append_left (by omega)] at hy
      rw [List.getElem?_append_left (by omega)] at hr
      obtain ⟨g1, g2⟩ := h4 y r hy hr
      refine ⟨g1.kept hP hg.size, fun i y' r' hi hy' hr' => ?_⟩
      have hPP : ∀ b, ((base ≤ b ∧ some b ≠ v.ownBlock) ∧ some b ≠ y.expr.ns.ownBlock ∧ some b ≠ y.expr.ks.ownBlock) → b < W.heap.size → W'.heap[b]? = W.heap[b]? ∧ ((base ≤ b ∧ some b ≠ v'.ownBlock) ∧ some b ≠ y.expr.ns.ownBlock ∧ some b ≠ y.expr.ks.ownBlock) := fun b hb hl => ⟨(hP b hb.1 hl).1, (hP b hb.1 hl).2, hb.2⟩
      by_cases hi2 : i < l.length
      · rw [List.getElem?_append_left (by omega)] at hy'
        rw [List.getElem?_append_left hi2] at hr'
        exact (g2 i y' r' hi hy' hr').kept hPP hg.size
      · have hi0 : i = l.length := by
          have := (List.getElem?_eq_some_iff.1 hr').1
          simp at this; omega
        subst hi0
        rw [List.getElem?_append_right (by omega), h1] at hy'
        rw [List.getElem?_append_right (by omega)] at hr'
        simp at hy' hr'
        subst hy' hr'
        obtain ⟨f1, f2, f3, f4⟩ := h
        obtain ⟨g5, _⟩ := f4 y r hy hr
        -- the first one's own blocks are older than the call
        have hold : (∀ g, y.expr.ns.ownBlock = some g → g < wr.heap.size) ∧ ∀ g, y.expr.ks.ownBlock = some g → g < wr.heap.size := by
          revert g5
          generalize y.expr = Y
          generalize r.expr = T
          intro g5
          cases g5 with
          | mk vs k1 k2 k3 k4 k5 k6 k7 => exact ⟨fun g hg => (owns_lt k1 hg).2, fun g hg => (owns_lt k4 hg).2⟩
        refine (hx.tree.kept (P' := fun b => (base ≤ b ∧ some b ≠ v.ownBlock) ∧ some b ≠ y.expr.ns.ownBlock ∧ some b ≠ y.expr.ks.ownBlock) (fun b hb' _ => ⟨rfl, ⟨by omega, fun e => by have := hvl b e.symm; omega⟩, fun e => by have := hold.1 b e.symm; omega, fun e => by have := hold.2 b e.symm; omega⟩) (Nat.le_refl _)).kept hPP hg.size

end Go.Proofs.YtddbaacibdmnaaaGreatDoor
