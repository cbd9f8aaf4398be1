/- Regular expressions as they lie in memory; what keeps them; one memory holds one tree. No condition. -/
import Derived.Test.YtclnadjgbpihcaaGreatDoorReMath
import Derived.Test.YtclnadjgbpihcaaGreatDoorKeyed
import Derived.Test.YtclnadjgbpihcaaGreatDoorBase
import Derived.LaidEqlPtr
import Derived.WalkSmall
namespace Go.Proofs.YtclnadjgbpihcaaGreatDoor
open Go.RowKit Go.Lib
set_option linter.unusedVariables false
set_option linter.unusedSimpArgs false

def ReV.val (x : ReV) : Value := .agg #[.int .i64 x.kind, .int .u64 x.a, .int .u64 x.b, .int .u64 x.c, .int .u64 x.d, .slice x.p x.n x.cap]
def ReV.w4 (x : ReV) : W4 := ⟨x.a, x.b, x.c, x.d⟩
theorem ReV.cells_len (x : ReV) : x.cells.length = 6 := rfl
/-- A block of cells that may be written, and is no row of bytes. -/
def Cells0 (W : World) (g : Nat) : Prop := ∃ (c : Array Value) (t : TypeId), t ≠ 5 ∧ W.heap[g]? = some (.cells c t (0, 0))
theorem Cells0.lt {W : World} {g : Nat} (h : Cells0 W g) : g < W.heap.size := by
  obtain ⟨c, t, _, h⟩ := h
  exact (Array.getElem?_eq_some_iff.1 h).1
theorem Cells0.of {W W' : World} {g : Nat} (h : Cells0 W g) (e : W'.heap[g]? = W.heap[g]?) : Cells0 W' g := by
  obtain ⟨c, t, ht, h⟩ := h
  exact ⟨c, t, ht, e.trans h⟩
/-- A slice that reads so, in a block of a kind. -/
def RowR (W : World) (P : Nat → Prop) (p : Option Addr) (n cap : Nat) (xs : List Value) : Prop :=
  (n = 0 ∧ (p = none → cap = 0)) ∨ ∃ g off, p = some ⟨g, off, none⟩ ∧ n ≤ cap ∧ cap ≤ maxLen ∧ P g ∧ Cells0 W g ∧ ∀ (j : Nat) (u : Value), xs[j]? = some u → W.cell? ⟨g, off + j, none⟩ = some u
/-- Blocks of a kind stay as they are, and are of another kind then. -/
structure Keeps (W W' : World) (P P' : Nat → Prop) : Prop where
  size : W.heap.size ≤ W'.heap.size
  blk : ∀ (b : Nat) (c : Array Value) (t : TypeId), P b → t ≠ 5 → W.heap[b]? = some (.cells c t (0, 0)) → W'.heap[b]? = some (.cells c t (0, 0)) ∧ P' b
theorem Keeps.same {W W' : World} {P P' : Nat → Prop} (h : Keeps W W' P P') {b : Nat} (hp : P b) (hc : Cells0 W b) : W'.heap[b]? = W.heap[b]? ∧ P' b := by
  obtain ⟨c, t, ht, hb⟩ := hc
  obtain ⟨h1, h2⟩ := h.blk b c t hp ht hb
  exact ⟨h1.trans hb.symm, h2⟩
theorem Keeps.of {W W' : World} {P P' : Nat → Prop} (hs : W.heap.size ≤ W'.heap.size) (h : ∀ b, P b → b < W.heap.size → W'.heap[b]? = W.heap[b]? ∧ P' b) : Keeps W W' P P' :=
  ⟨hs, fun b c t hp _ hb => by
    obtain ⟨h1, h2⟩ := h b hp (Array.getElem?_eq_some_iff.1 hb).1
    exact ⟨h1.trans hb, h2⟩⟩
theorem RowR.kept {W W' : World} {P P' : Nat → Prop} {p : Option Addr} {n cap : Nat} {xs : List Value} (h : RowR W P p n cap xs) (hk : Keeps W W' P P') : RowR W' P' p n cap xs := by
  rcases h with h | ⟨g, off, h1, h2, h3, h4, h5, h6⟩
  · exact .inl h
  · have e := hk.same h4 h5
    exact .inr ⟨g, off, h1, h2, h3, e.2, h5.of e.1, fun j u hj => (World.cell?_of_block (a := ⟨g, off + j, none⟩) e.1).trans (h6 j u hj)⟩
/-- These fields are this expression. -/
inductive RAt (W : World) (P : Nat → Prop) : ReV → RT → Prop
  | mk {k a b c d : Int} {p : Option Addr} {n cap : Nat} {kids : List RT} (vs : List ReV) : (⟨a, b, c, d⟩ : W4).Ok → RowR W P p n cap (vs.flatMap ReV.cells) → n = kids.length → vs.length = kids.length →
      (∀ (i : Nat) (y : ReV) (t : RT), vs[i]? = some y → kids[i]? = some t → RAt W P y t) → RAt W P ⟨k, a, b, c, d, p, n, cap⟩ (.mk k ⟨a, b, c, d⟩ kids)
theorem RAt.kept {W W' : World} {P P' : Nat → Prop} {x : ReV} {t : RT} (h : RAt W P x t) (hk : Keeps W W' P P') : RAt W' P' x t := by
  induction h with
  | mk vs h0 h1 h2 h3 _ ih => exact .mk vs h0 (h1.kept hk) h2 h3 ih
theorem Keeps.below {W W' : World} {P : Nat → Prop} (h : Below W.heap.size W W') : Keeps W W' P P := Keeps.of h.size fun b hp hl => ⟨h.block b hl, hp⟩
theorem RAt.under {W W' : World} {P : Nat → Prop} {x : ReV} {t : RT} (h : RAt W P x t) (hb : Below W.heap.size W W') : RAt W' P x t := h.kept (Keeps.below hb)
theorem RAt.weak {W : World} {P P' : Nat → Prop} {x : ReV} {t : RT} (h : RAt W P x t) (hk : ∀ b, P b → b < W.heap.size → P' b) : RAt W P' x t := h.kept (Keeps.of (Nat.le_refl _) fun b hp hl => ⟨rfl, hk b hp hl⟩)
/-- A slice of expressions. -/
structure KidsR (W : World) (P : Nat → Prop) (p : Option Addr) (n cap : Nat) (vs : List ReV) (l : List RT) : Prop where
  row : RowR W P p n cap (vs.flatMap ReV.cells)
  num : n = l.length
  len : vs.length = l.length
  each : ∀ (i : Nat) (y : ReV) (t : RT), vs[i]? = some y → l[i]? = some t → RAt W P y t
theorem KidsR.kept {W W' : World} {P P' : Nat → Prop} {p : Option Addr} {n cap : Nat} {vs : List ReV} {l : List RT} (h : KidsR W P p n cap vs l) (hk : Keeps W W' P P') : KidsR W' P' p n cap vs l :=
  ⟨h.row.kept hk, h.num, h.len, fun i y t hy ht => (h.each i y t hy ht).kept hk⟩
theorem KidsR.under {W W' : World} {P : Nat → Prop} {p : Option Addr} {n cap : Nat} {vs : List ReV} {l : List RT} (h : KidsR W P p n cap vs l) (hb : Below W.heap.size W W') : KidsR W' P p n cap vs l := h.kept (Keeps.below hb)
theorem RAt.kids {W : World} {P : Nat → Prop} {x : ReV} {t : RT} (h : RAt W P x t) : ∃ vs, t = .mk x.kind x.w4 t.kids ∧ x.w4.Ok ∧ KidsR W P x.p x.n x.cap vs t.kids := by
  cases h with
  | mk vs h0 h1 h2 h3 h4 => exact ⟨vs, rfl, h0, h1, h2, h3, h4⟩
theorem KidsR.tree {W : World} {P : Nat → Prop} {p : Option Addr} {n cap : Nat} {vs : List ReV} {l : List RT} (h : KidsR W P p n cap vs l) (k : Int) (s : W4) (hs : s.Ok) : RAt W P ⟨k, s.a, s.b, s.c, s.d, p, n, cap⟩ (.mk k s l) :=
  .mk vs hs h.row h.num h.len h.each
theorem RAt.ok {W : World} {P : Nat → Prop} {x : ReV} {t : RT} (h : RAt W P x t) : t.ok := by
  induction h with
  | @mk k a b c d p n cap kids vs h0 h1 h2 h3 h4 ih =>
    refine ok_mk.2 ⟨h0, fun t ht => ?_⟩
    obtain ⟨i, hi⟩ := List.getElem?_of_mem ht
    have hl := (List.getElem?_eq_some_iff.1 hi).1
    exact ih i vs[i] t (List.getElem?_eq_getElem (by omega)) hi
/-- Where the fields of an expression lie. -/
structure PlaceR (W : World) (b o : Nat) (x : ReV) : Prop where
  blk : Cells0 W b
  cell : ∀ (j : Nat) (u : Value), x.cells[j]? = some u → W.cell? ⟨b, o + j, none⟩ = some u
theorem PlaceR.under {W W' : World} {b o : Nat} {x : ReV} (h : PlaceR W b o x) (hb : Below W.heap.size W W') : PlaceR W' b o x :=
  ⟨h.blk.of (hb.block b h.blk.lt), fun j u hj => (hb.cell (p := ⟨b, o + j, none⟩) h.blk.lt).trans (h.cell j u hj)⟩
theorem PlaceR.kept {W W' : World} {P P' : Nat → Prop} {b o : Nat} {x : ReV} (h : PlaceR W b o x) (hk : Keeps W W' P P') (hp : P b) : PlaceR W' b o x :=
  ⟨h.blk.of (hk.same hp h.blk).1, fun j u hj => (World.cell?_of_block (a := ⟨b, o + j, none⟩) (hk.same hp h.blk).1).trans (h.cell j u hj)⟩
theorem flat6_len (vs : List ReV) : (vs.flatMap ReV.cells).length = vs.length * 6 := by
  induction vs with
  | nil => rfl
  | cons x vs ih => simp [ReV.cells] at ih ⊢; omega
theorem flat6_at (vs : List ReV) (i j : Nat) (x : ReV) (h : vs[i]? = some x) (hj : j < 6) : (vs.flatMap ReV.cells)[i * 6 + j]? = x.cells[j]? := by
  induction vs generalizing i with
  | nil => simp at h
  | cons y vs ih =>
    cases i with
    | zero =>
      simp at h
      subst h
      simp only [List.flatMap_cons, Nat.zero_mul, Nat.zero_add]
      rw [List.getElem?_append_left (by simp [ReV.cells]; exact hj)]
    | succ i =>
      simp at h
      have := ih i h
      simp only [List.flatMap_cons]
      rw [List.getElem?_append_right (by simp [ReV.cells]; omega), show (i + 1) * 6 + j - (ReV.cells y).length = i * 6 + j by simp [ReV.cells]; omega]
      exact this
theorem KidsR.place {W : World} {P : Nat → Prop} {g off n cap : Nat} {vs : List ReV} {l : List RT} (h : KidsR W P (some ⟨g, off, none⟩) n cap vs l) {i : Nat} {y : ReV} (hy : vs[i]? = some y) : PlaceR W g (off + i * 6) y := by
  have hi := (List.getElem?_eq_some_iff.1 hy).1
  rcases h.row with ⟨h0, _⟩ | ⟨g', off', e, _, _, _, h5, h6⟩
  · have := h.num; have := h.len; omega
  · simp at e
    obtain ⟨rfl, rfl⟩ := e
    refine ⟨h5, fun j u hj => ?_⟩
    rw [Nat.add_assoc]
    refine h6 _ u ?_
    rw [flat6_at vs i j y hy (List.getElem?_eq_some_iff.1 hj).1]
    exact hj
/-- The six cells, one by one. -/
theorem PlaceR.six {W : World} {b o : Nat} {x : ReV} (h : PlaceR W b o x) : W.cell? ⟨b, o, none⟩ = some (.int .i64 x.kind) ∧ W.cell? ⟨b, o + 1, none⟩ = some (.int .u64 x.a) ∧ W.cell? ⟨b, o + 2, none⟩ = some (.int .u64 x.b) ∧
    W.cell? ⟨b, o + 3, none⟩ = some (.int .u64 x.c) ∧ W.cell? ⟨b, o + 4, none⟩ = some (.int .u64 x.d) ∧ W.cell? ⟨b, o + 5, none⟩ = some (.slice x.p x.n x.cap) :=
  ⟨h.cell 0 _ rfl, h.cell 1 _ rfl, h.cell 2 _ rfl, h.cell 3 _ rfl, h.cell 4 _ rfl, h.cell 5 _ rfl⟩
theorem ReV.eq_of {x y : ReV} (h : ∀ j, j < 6 → x.cells[j]? = y.cells[j]?) : x = y := by
  have c0 := h 0 (by omega)
  have c1 := h 1 (by omega)
  have c2 := h 2 (by omega)
  have c3 := h 3 (by omega)
  have c4 := h 4 (by omega)
  have c5 := h 5 (by omega)
  obtain ⟨_, _, _, _, _, _, _, _⟩ := x
  obtain ⟨_, _, _, _, _, _, _, _⟩ := y
  simp [ReV.cells] at c0 c1 c2 c3 c4 c5
  simp [c0, c1, c2, c3, c4, c5]
theorem PlaceR.one {W : World} {b o : Nat} {x y : ReV} (h : PlaceR W b o x) (k : PlaceR W b o y) : x = y := by
  refine ReV.eq_of fun j hj => ?_
  have hx : ∃ u, x.cells[j]? = some u := ⟨_, List.getElem?_eq_getElem (show j < x.cells.length from hj)⟩
  have hy : ∃ u, y.cells[j]? = some u := ⟨_, List.getElem?_eq_getElem (show j < y.cells.length from hj)⟩
  obtain ⟨u, hu⟩ := hx
  obtain ⟨v, hv⟩ := hy
  rw [hu, hv]
  exact (h.cell j u hu).symm.trans (k.cell j v hv)
/-- One memory holds one tree. -/
theorem RAt.one {W : World} {P : Nat → Prop} {x : ReV} {t : RT} (h : RAt W P x t) : ∀ {P' : Nat → Prop} {t' : RT}, RAt W P' x t' → t = t' := by
  induction h with
  | @mk k a b c d p n cap kids vs h0 h1 h2 h3 h4 ih =>
    intro P' t' h'
    obtain ⟨vs', e, _, hk⟩ := h'.kids
    rw [e]
    obtain ⟨r', n', l', e'⟩ := hk
    simp only at r' n'
    have hlen : kids.length = t'.kids.length := by omega
    have : kids = t'.kids := by
      apply List.ext_getElem?
      intro i
      by_cases hi : i < kids.length
      · have a1 : vs[i]? = some vs[i] := List.getElem?_eq_getElem (by omega)
        have a2 : vs'[i]? = some vs'[i] := List.getElem?_eq_getElem (by omega)
        have a3 : kids[i]? = some kids[i] := List.getElem?_eq_getElem hi
        have a4 : t'.kids[i]? = some t'.kids[i] := List.getElem?_eq_getElem (by omega)
        have p1 : ∃ g off, p = some ⟨g, off, none⟩ := by
          rcases h1 with q | ⟨g, off, q, _⟩
          · omega
          · exact ⟨g, off, q⟩
        obtain ⟨g, off, rfl⟩ := p1
        have k1 : KidsR W P (some ⟨g, off, none⟩) n cap vs kids := ⟨h1, h2, h3, h4⟩
        have k2 : KidsR W P' (some ⟨g, off, none⟩) n cap vs' t'.kids := ⟨r', n', l', e'⟩
        have ev := (k1.place a1).one (k2.place a2)
        have := ih i _ _ a1 a3 (ev ▸ e' i _ _ a2 a4)
        rw [a3, a4, this]
      · rw [List.getElem?_eq_none (by omega), List.getElem?_eq_none (by omega)]
    rw [this]
    rfl

end Go.Proofs.YtclnadjgbpihcaaGreatDoor

