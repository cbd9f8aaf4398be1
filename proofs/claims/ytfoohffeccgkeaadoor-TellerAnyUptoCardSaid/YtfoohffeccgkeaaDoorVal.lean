/- Texts, expressions and rules as they lie in memory; what keeps them. No condition. -/
import Derived.Test.YtfoohffeccgkeaaDoorRows
import Derived.Test.YtfoohffeccgkeaaDoorBase
import Derived.Test.YtfoohffeccgkeaaDoorRMath
import Derived.Maps.AppendAt
import Derived.BigQuiet
import Derived.Deep.QuietTactic
namespace Go.Proofs.YtfoohffeccgkeaaDoor
open Go.RowKit
set_option linter.unusedVariables false
set_option linter.unusedSimpArgs false

/-- The call answers this bool and leaves the world alone. -/
def SaysB (b : Bool) (w : World) (e : Ending) (w' : World) : Prop := e = .returned (.bool b) ∧ w = w'
/-- The call answers this int and leaves the world alone. -/
def SaysI (n : Int) (w : World) (e : Ending) (w' : World) : Prop := e = .returned (.int .i64 n) ∧ w = w'

/-- The bytes of a list of numbers. -/
def byt (c : Int) : UInt8 := UInt8.ofNat c.toNat
def strOf (x : List Int) : ByteArray := ⟨(x.map byt).toArray⟩

theorem strOf_data (x : List Int) : (strOf x).data.toList = x.map byt := by unfold strOf; simp
theorem strOf_size (x : List Int) : (strOf x).size = x.length := by unfold strOf; show (List.toArray _).size = _; simp

/-- The six fields of an expression. -/
structure XV where
  kind : Int
  text : ByteArray
  ns : Value
  lo : Int
  hi : Int
  ks : Value
def XV.cells (x : XV) : List Value := [.int .i64 x.kind, .string x.text, x.ns, .int .i64 x.lo, .int .i64 x.hi, x.ks]
def XV.val (x : XV) : Value := .agg #[.int .i64 x.kind, .string x.text, x.ns, .int .i64 x.lo, .int .i64 x.hi, x.ks]

/-- A slice that reads as these cells, in a block of this kind: nil, or from a block's head on. -/
def RowIn (W : World) (P : Nat → Prop) (v : Value) (n : Nat) (xs : List Value) : Prop :=
  (v = .slice none 0 0 ∧ n = 0) ∨ ∃ g cap, v = .slice (some ⟨g, 0, none⟩) n cap ∧ n ≤ cap ∧ cap ≤ maxLen ∧ P g ∧ g < W.heap.size ∧ ∀ (j : Nat) (u : Value), xs[j]? = some u → W.cell? ⟨g, j, none⟩ = some u

/-- These fields are this expression; all its slices lie in blocks of this kind. -/
inductive TreeAt (W : World) (P : Nat → Prop) : XV → Tree → Prop
  | mk {k lo hi : Int} {ns ks : Value} {x nums : List Int} {kids : List Tree} (vs : List XV) :
      RowIn W P ns nums.length (icells nums) → RowIn W P ks kids.length (vs.flatMap XV.cells) → vs.length = kids.length →
      (∀ (i : Nat) (y : XV) (t : Tree), vs[i]? = some y → kids[i]? = some t → TreeAt W P y t) → TreeAt W P ⟨k, strOf x, ns, lo, hi, ks⟩ (.mk k x nums lo hi kids)

theorem RowIn.kept {W W' : World} {P P' : Nat → Prop} {v : Value} {n : Nat} {xs : List Value} (h : RowIn W P v n xs) (hk : ∀ b, P b → b < W.heap.size → W'.heap[b]? = W.heap[b]? ∧ P' b) (hs : W.heap.size ≤ W'.heap.size) : RowIn W' P' v n xs := by
  rcases h with h | ⟨g, cap, hv, hc, hm, hP, hg, h⟩
  · exact .inl h
  · refine .inr ⟨g, cap, hv, hc, hm, (hk g hP hg).2, Nat.lt_of_lt_of_le hg hs, fun j u hj => ?_⟩
    rw [World.cell?_of_block (w := W) (hk g hP hg).1]
    exact h j u hj

theorem TreeAt.kept {W W' : World} {P P' : Nat → Prop} {x : XV} {t : Tree} (h : TreeAt W P x t) (hk : ∀ b, P b → b < W.heap.size → W'.heap[b]? = W.heap[b]? ∧ P' b) (hs : W.heap.size ≤ W'.heap.size) : TreeAt W' P' x t := by
  induction h with
  | mk vs h1 h2 h3 _ ih => exact .mk vs (h1.kept hk hs) (h2.kept hk hs) h3 ih

theorem TreeAt.under {W W' : World} {P : Nat → Prop} {x : XV} {t : Tree} (h : TreeAt W P x t) (hb : Below W.heap.size W W') : TreeAt W' P x t := h.kept (fun b hP hl => ⟨hb.block b hl, hP⟩) hb.size
theorem TreeAt.weak {W : World} {P P' : Nat → Prop} {x : XV} {t : Tree} (h : TreeAt W P x t) (hk : ∀ b, P b → b < W.heap.size → P' b) : TreeAt W P' x t := h.kept (fun b hP hl => ⟨rfl, hk b hP hl⟩) (Nat.le_refl _)

theorem RowIn.nil (W : World) (P : Nat → Prop) (xs : List Value) : RowIn W P (.slice none 0 0) 0 xs := .inl ⟨rfl, rfl⟩
theorem RowIn.of_row {W : World} {P : Nat → Prop} {base size n : Nat} {e : TypeId} {v : Value} {xs : List Value} (h : W.ownsRow base e size v n xs) (hP : ∀ b, base ≤ b → P b) : RowIn W P v n xs := by
  rcases row_forms h with h0 | ⟨g, cap, rfl⟩
  · exact .inl h0
  · obtain ⟨hb, hc, hm, hg⟩ := row_base h
    exact .inr ⟨g, cap, rfl, hc, hm, hP g hb, hg, fun j u hj => row_cell h hj⟩

/-- Without numbers and kids. -/
theorem tree_leaf (W : World) (P : Nat → Prop) (k lo hi : Int) (x : List Int) : TreeAt W P ⟨k, strOf x, .slice none 0 0, lo, hi, .slice none 0 0⟩ (.mk k x [] lo hi []) :=
  .mk [] (RowIn.nil _ _ _) (RowIn.nil _ _ _) rfl (fun i y t h => by simp at h)

theorem strOf_nil : strOf [] = ⟨#[]⟩ := rfl

/-- Only numbers. -/
theorem tree_nums {W : World} {P : Nat → Prop} {base : Nat} {v : Value} (k : Int) {nums : List Int} (h : W.ownsRow base 3 1 v nums.length (icells nums)) (hP : ∀ b, base ≤ b → P b) :
    TreeAt W P ⟨k, ⟨#[]⟩, v, 0, 0, .slice none 0 0⟩ (.mk k [] nums 0 0 []) :=
  TreeAt.mk (x := []) (kids := []) [] (RowIn.of_row h hP) (RowIn.nil _ _ _) rfl (fun i y t h => by simp at h)

/-- A row of expressions that the call itself has made: the row from block base on, what it holds as well, but apart from it. -/
def KidsAt (W : World) (base : Nat) (v : Value) (l : List Tree) : Prop :=
  ∃ vs : List XV, vs.length = l.length ∧ W.ownsRow base 29 6 v l.length (vs.flatMap XV.cells) ∧ ∀ (i : Nat) (y : XV) (t : Tree), vs[i]? = some y → l[i]? = some t → TreeAt W (fun b => base ≤ b ∧ some b ≠ v.ownBlock) y t

theorem KidsAt.kept {W W' : World} {base : Nat} {v : Value} {l : List Tree} (h : KidsAt W base v l) (hk : ∀ b, base ≤ b → b < W.heap.size → W'.heap[b]? = W.heap[b]?) (hs : W.heap.size ≤ W'.heap.size) : KidsAt W' base v l := by
  obtain ⟨vs, h1, h2, h3⟩ := h
  refine ⟨vs, h1, ?_, fun i y t hy ht => (h3 i y t hy ht).kept (fun b hP hl => ⟨hk b hP.1 hl, hP⟩) hs⟩
  refine ⟨h2.1, ?_⟩
  rcases h2.2 with hn | ⟨g, cap, cur, hv, hb, hg, rest⟩
  · exact .inl hn
  · exact .inr ⟨g, cap, cur, hv, hb, (hk g hb (Array.getElem?_eq_some_iff.1 hg).1).trans hg, rest⟩

theorem KidsAt.grown {W W' : World} {base R : Nat} {v : Value} {l : List Tree} (h : KidsAt W base v l) (hg : W.grownBy W' (some R)) (hR : R < base) : KidsAt W' base v l :=
  h.kept (fun b hb hl => hg.block b hl (fun e => by cases e; omega)) hg.size
theorem KidsAt.below {W W' : World} {base : Nat} {v : Value} {l : List Tree} (h : KidsAt W base v l) (hb : Below W.heap.size W W') : KidsAt W' base v l := h.kept (fun b _ hl => hb.block b hl) hb.size

theorem flat_len (vs : List XV) : (vs.flatMap XV.cells).length = vs.length * 6 := by
  induction vs with
  | nil => rfl
  | cons x vs ih => simp [XV.cells] at ih ⊢; omega
theorem flat_at (vs : List XV) (i j : Nat) (x : XV) (h : vs[i]? = some x) (hj : j < 6) : (vs.flatMap XV.cells)[i * 6 + j]? = x.cells[j]? := by
  induction vs generalizing i with
  | nil => simp at h
  | cons y vs ih =>
    cases i with
    | zero =>
      simp at h
      subst h
      simp only [List.flatMap_cons, Nat.zero_mul, Nat.zero_add]
      rw [List.getElem?_append_left (by simp [XV.cells]; exact hj)]
    | succ i =>
      simp at h
      have := ih i h
      simp only [List.flatMap_cons]
      rw [List.getElem?_append_right (by simp [XV.cells]; omega), show (i + 1) * 6 + j - (XV.cells y).length = i * 6 + j by simp [XV.cells]; omega]
      exact this

/-- One expression more. -/
theorem KidsAt.push {W W' : World} {base : Nat} {v v' : Value} {l : List Tree} {t : Tree} {x : XV} {vs : List XV} (h1 : vs.length = l.length) (h2 : W.ownsRow base 29 6 v l.length (vs.flatMap XV.cells))
    (h3 : ∀ (i : Nat) (y : XV) (t : Tree), vs[i]? = some y → l[i]? = some t → TreeAt W (fun b => base ≤ b ∧ some b ≠ v.ownBlock) y t) (hx : TreeAt W (fun b => base ≤ b ∧ some b ≠ v.ownBlock) x t)
    (hown : W'.ownsRow base 29 6 v' (l.length + 1) (vs.flatMap XV.cells ++ x.cells)) (hg : W.grownBy W' v.ownBlock) (hat : v'.ownBlock = v.ownBlock ∨ ∃ k, v'.ownBlock = some k ∧ W.heap.size ≤ k) : KidsAt W' base v' (l ++ [t]) := by
  have key : ∀ (y : XV) (u : Tree), TreeAt W (fun b => base ≤ b ∧ some b ≠ v.ownBlock) y u → TreeAt W' (fun b => base ≤ b ∧ some b ≠ v'.ownBlock) y u := by
    intro y u hy
    refine hy.kept (fun b hP hl => ⟨hg.block b hl hP.2, hP.1, ?_⟩) hg.size
    rcases hat with e | ⟨k, e, hk⟩
    · rw [e]; exact hP.2
    · rw [e]; intro g; cases g; omega
  refine ⟨vs ++ [x], by simp [h1], by simpa using hown, fun i y u hy hu => ?_⟩
  by_cases hi : i < l.length
  · rw [List.getElem?_append_left (by omega)] at hy
    rw [List.getElem?_append_left hi] at hu
    exact key y u (h3 i y u hy hu)
  · have hi0 : i = l.length := by
      have := (List.getElem?_eq_some_iff.1 hu).1
      simp at this; omega
    subst hi0
    rw [List.getElem?_append_right (by omega), h1] at hy
    rw [List.getElem?_append_right (by omega)] at hu
    simp at hy hu
    subst hy hu
    exact key x t hx

/-- The only one. -/
theorem KidsAt.one {W W' : World} {base g : Nat} {t : Tree} {x : XV} (hx : TreeAt W (fun b => base ≤ b) x t) (hg : W.heap.size ≤ g) (hb : base ≤ g) (hblk : W'.heap[g]? = some (.cells #[.int .i64 x.kind, .string x.text, x.ns, .int .i64 x.lo, .int .i64 x.hi, x.ks] 29 (0, 0)))
    (hk : ∀ b, base ≤ b → b < W.heap.size → W'.heap[b]? = W.heap[b]?) (hs : W.heap.size ≤ W'.heap.size) : KidsAt W' base (.slice (some ⟨g, 0, none⟩) 1 1) [t] := by
  refine ⟨[x], rfl, row_of_block hb hblk (by unfold maxLen; omega) rfl, fun i y u hy hu => ?_⟩
  have hi : i = 0 := by
    have := (List.getElem?_eq_some_iff.1 hu).1
    simp at this; omega
  subst hi
  simp at hy hu
  subst hy hu
  exact hx.kept (fun b hP hl => ⟨hk b hP hl, hP, fun e => by simp [Value.ownBlock] at e; omega⟩) hs

/-- What a row of expressions is the kids of. -/
theorem KidsAt.tree {W : World} {base : Nat} {v : Value} {l : List Tree} (h : KidsAt W base v l) (k lo hi : Int) : TreeAt W (fun b => base ≤ b) ⟨k, ⟨#[]⟩, .slice none 0 0, lo, hi, v⟩ (.mk k [] [] lo hi l) := by
  obtain ⟨vs, h1, h2, h3⟩ := h
  exact TreeAt.mk (x := []) (nums := []) vs (RowIn.nil _ _ _) (RowIn.of_row h2 (fun b hb => hb)) h1 (fun i y t hy ht => (h3 i y t hy ht).weak (fun b hP _ => hP.1))

/-- The call returns this expression, of its own. -/
def MakesTree (base : Nat) (t : Tree) (w : World) (e : Ending) (w' : World) : Prop :=
  ∃ x : XV, TreeAt w' (fun b => base ≤ b) x t ∧ e = .returned x.val ∧ Below w.heap.size w w'

/-- The fields of a rule. -/
structure LV where
  name : ByteArray
  more : Bool
  expr : XV
def LV.arr (y : LV) : Array Value := #[.string y.name, .bool y.more, .int .i64 y.expr.kind, .string y.expr.text, y.expr.ns, .int .i64 y.expr.lo, .int .i64 y.expr.hi, y.expr.ks]
def LV.val (y : LV) : Value := .agg y.arr
def LineAt (W : World) (P : Nat → Prop) (y : LV) (r : Rule) : Prop := y.name = strOf r.name ∧ y.more = r.more ∧ TreeAt W P y.expr r.expr

def LV.cells (y : LV) : List Value := [.string y.name, .bool y.more, .int .i64 y.expr.kind, .string y.expr.text, y.expr.ns, .int .i64 y.expr.lo, .int .i64 y.expr.hi, y.expr.ks]

/-- A row of rules that the call itself has made. -/
def LinesAt (W : World) (base : Nat) (v : Value) (l : List Rule) : Prop :=
  ∃ ys : List LV, ys.length = l.length ∧ W.ownsRow base 34 8 v l.length (ys.flatMap LV.cells) ∧ ∀ (i : Nat) (y : LV) (r : Rule), ys[i]? = some y → l[i]? = some r → LineAt W (fun b => base ≤ b ∧ some b ≠ v.ownBlock) y r

theorem LineAt.kept {W W' : World} {P P' : Nat → Prop} {y : LV} {r : Rule} (h : LineAt W P y r) (hk : ∀ b, P b → b < W.heap.size → W'.heap[b]? = W.heap[b]? ∧ P' b) (hs : W.heap.size ≤ W'.heap.size) : LineAt W' P' y r := ⟨h.1, h.2.1, h.2.2.kept hk hs⟩

theorem LinesAt.kept {W W' : World} {base : Nat} {v : Value} {l : List Rule} (h : LinesAt W base v l) (hk : ∀ b, base ≤ b → b < W.heap.size → W'.heap[b]? = W.heap[b]?) (hs : W.heap.size ≤ W'.heap.size) : LinesAt W' base v l := by
  obtain ⟨vs, h1, h2, h3⟩ := h
  refine ⟨vs, h1, ?_, fun i y t hy ht => (h3 i y t hy ht).kept (fun b hP hl => ⟨hk b hP.1 hl, hP⟩) hs⟩
  refine ⟨h2.1, ?_⟩
  rcases h2.2 with hn | ⟨g, cap, cur, hv, hb, hg, rest⟩
  · exact .inl hn
  · exact .inr ⟨g, cap, cur, hv, hb, (hk g hb (Array.getElem?_eq_some_iff.1 hg).1).trans hg, rest⟩
theorem LinesAt.grown {W W' : World} {base R : Nat} {v : Value} {l : List Rule} (h : LinesAt W base v l) (hg : W.grownBy W' (some R)) (hR : R < base) : LinesAt W' base v l :=
  h.kept (fun b hb hl => hg.block b hl (fun e => by have := Option.some.inj e; omega)) hg.size
theorem LinesAt.below {W W' : World} {base : Nat} {v : Value} {l : List Rule} (h : LinesAt W base v l) (hb : Below W.heap.size W W') : LinesAt W' base v l := h.kept (fun b _ hl => hb.block b hl) hb.size
theorem LinesAt.nil (W : World) (base : Nat) : LinesAt W base (.slice none 0 0) [] := ⟨[], rfl, World.ownsRow_nil _ _ _ _, fun i y r h => by simp at h⟩

theorem LinesAt.push {W W' : World} {base : Nat} {v v' : Value} {l : List Rule} {t : Rule} {x : LV} {vs : List LV} (h1 : vs.length = l.length) (h2 : W.ownsRow base 34 8 v l.length (vs.flatMap LV.cells))
    (h3 : ∀ (i : Nat) (y : LV) (t : Rule), vs[i]? = some y → l[i]? = some t → LineAt W (fun b => base ≤ b ∧ some b ≠ v.ownBlock) y t) (hx : LineAt W (fun b => base ≤ b ∧ some b ≠ v.ownBlock) x t)
    (hown : W'.ownsRow base 34 8 v' (l.length + 1) (vs.flatMap LV.cells ++ x.cells)) (hg : W.grownBy W' v.ownBlock) (hat : v'.ownBlock = v.ownBlock ∨ ∃ k, v'.ownBlock = some k ∧ W.heap.size ≤ k) : LinesAt W' base v' (l ++ [t]) := by
  have key : ∀ (y : LV) (u : Rule), LineAt W (fun b => base ≤ b ∧ some b ≠ v.ownBlock) y u → LineAt W' (fun b => base ≤ b ∧ some b ≠ v'.ownBlock) y u := by
    intro y u hy
    refine hy.kept (fun b hP hl => ⟨hg.block b hl hP.2, hP.1, ?_⟩) hg.size
    rcases hat with e | ⟨k, e, hk⟩
    · rw [e]; exact hP.2
    · rw [e]; intro g; cases g; omega
  refine ⟨vs ++ [x], by simp [h1], by simpa using hown, fun i y u hy hu => ?_⟩
  by_cases hi : i < l.length
  · rw [List.getElem?_append_left (by omega)] at hy
    rw [List.getElem?_append_left hi] at hu
    exact key y u (h3 i y u hy hu)
  · have hi0 : i = l.length := by
      have := (List.getElem?_eq_some_iff.1 hu).1
      simp at this; omega
    subst hi0
    rw [List.getElem?_append_right (by omega), h1] at hy
    rw [List.getElem?_append_right (by omega)] at hu
    simp at hy hu
    subst hy hu
    exact key x t hx

/-- A slice that reads as these cells, its head open. -/
def RowOf (W : World) (a : Option Addr) (n : Nat) (xs : List Value) : Prop := 0 < n → ∃ g, a = some ⟨g, 0, none⟩ ∧ g < W.heap.size ∧ ∀ (j : Nat) (u : Value), xs[j]? = some u → W.cell? ⟨g, j, none⟩ = some u
theorem RowIn.open {W : World} {P : Nat → Prop} {v : Value} {n : Nat} {xs : List Value} (h : RowIn W P v n xs) : ∃ a cap, v = .slice a n cap ∧ n ≤ cap ∧ n ≤ 9223372036854775807 ∧ RowOf W a n xs := by
  rcases h with ⟨rfl, rfl⟩ | ⟨g, cap, rfl, hc, hm, _, hg, h⟩
  · exact ⟨none, 0, rfl, Nat.le_refl _, by omega, fun h => absurd h (by omega)⟩
  · unfold maxLen at hm
    exact ⟨some ⟨g, 0, none⟩, cap, rfl, hc, by omega, fun _ => ⟨g, rfl, hg, h⟩⟩
theorem RowOf.below {W W' : World} {a : Option Addr} {n : Nat} {xs : List Value} (h : RowOf W a n xs) (hb : Below W.heap.size W W') : RowOf W' a n xs := by
  intro hn
  obtain ⟨g, ha, hg, hc⟩ := h hn
  exact ⟨g, ha, Nat.lt_of_lt_of_le hg hb.size, fun j u hj => (hb.cell (p := ⟨g, j, none⟩) hg).trans (hc j u hj)⟩

/-- A slice that reads as these rules. -/
def LinesIn (W : World) (P : Nat → Prop) (v : Value) (l : List Rule) : Prop :=
  ∃ ys : List LV, ys.length = l.length ∧ RowIn W P v l.length (ys.flatMap LV.cells) ∧ ∀ (i : Nat) (y : LV) (r : Rule), ys[i]? = some y → l[i]? = some r → LineAt W P y r
theorem LinesAt.reads {W : World} {base : Nat} {v : Value} {l : List Rule} (h : LinesAt W base v l) : LinesIn W (fun b => base ≤ b) v l := by
  obtain ⟨ys, h1, h2, h3⟩ := h
  exact ⟨ys, h1, RowIn.of_row h2 (fun b hb => hb), fun i y r hy hr => (h3 i y r hy hr).kept (fun b hP _ => ⟨rfl, hP.1⟩) (Nat.le_refl _)⟩
theorem LinesIn.under {W W' : World} {P : Nat → Prop} {v : Value} {l : List Rule} (h : LinesIn W P v l) (hb : Below W.heap.size W W') : LinesIn W' P v l := by
  obtain ⟨ys, h1, h2, h3⟩ := h
  exact ⟨ys, h1, h2.kept (fun b hP hl => ⟨hb.block b hl, hP⟩) hb.size, fun i y r hy hr => (h3 i y r hy hr).kept (fun b hP hl => ⟨hb.block b hl, hP⟩) hb.size⟩

theorem flatL_at (vs : List LV) (i j : Nat) (x : LV) (h : vs[i]? = some x) (hj : j < 8) : (vs.flatMap LV.cells)[i * 8 + j]? = x.cells[j]? := by
  induction vs generalizing i with
  | nil => simp at h
  | cons y vs ih =>
    cases i with
    | zero =>
      simp at h
      subst h
      simp only [List.flatMap_cons, Nat.zero_mul, Nat.zero_add]
      rw [List.getElem?_append_left (by simp [LV.cells]; exact hj)]
    | succ i =>
      simp at h
      have := ih i h
      simp only [List.flatMap_cons]
      rw [List.getElem?_append_right (by simp [LV.cells]; omega), show (i + 1) * 8 + j - (LV.cells y).length = i * 8 + j by simp [LV.cells]; omega]
      exact this

end Go.Proofs.YtfoohffeccgkeaaDoor
