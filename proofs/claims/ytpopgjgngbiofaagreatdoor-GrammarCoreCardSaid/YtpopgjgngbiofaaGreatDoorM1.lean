/- What the laws of the grammar rest on, part 1: made by tools/merge5.py out of Val TBase TNames TAll TName TRef TCount. No condition but those that each says. -/
import Derived.Test.YtpopgjgngbiofaaGreatDoorM0
import Derived.Test.YtpopgjgngbiofaaGreatDoorRows
import Derived.Maps.AppendAt
import Derived.BigQuiet
import Derived.Deep.QuietTactic
import Derived.Lib.Strings
import Derived.Laws.IdiomStrings
set_option linter.unusedVariables false
set_option linter.unusedSimpArgs false
set_option maxRecDepth 100000
set_option maxHeartbeats 8000000
namespace Go.Proofs.YtpopgjgngbiofaaGreatDoor
open Go.RowKit
def SaysB (b : Bool) (w : World) (e : Ending) (w' : World) : Prop := e = .returned (.bool b) /\ w = w'
def SaysI (n : Int) (w : World) (e : Ending) (w' : World) : Prop := e = .returned (.int .i64 n) /\ w = w'
def byt (c : Int) : UInt8 := UInt8.ofNat c.toNat
def strOf (x : List Int) : ByteArray := ⟨(x.map byt).toArray⟩
theorem strOf_data (x : List Int) : (strOf x).data.toList = x.map byt := by unfold strOf; simp
theorem strOf_size (x : List Int) : (strOf x).size = x.length := by unfold strOf; show (List.toArray _).size = _; simp
structure XV where
 kind : Int
 text : ByteArray
 ns : Value
 lo : Int
 hi : Int
 ks : Value
def XV.cells (x : XV) : List Value := [.int .i64 x.kind, .string x.text, x.ns, .int .i64 x.lo, .int .i64 x.hi, x.ks]
def XV.val (x : XV) : Value := .agg #[.int .i64 x.kind, .string x.text, x.ns, .int .i64 x.lo, .int .i64 x.hi, x.ks]
def KV (t : TypeId) : Prop := t = 27 \/ t = 3 \/ t = 44
def BlkV (W : World) (g : Nat) : Prop := ∃ (c : Array Value) (t : TypeId), KV t /\ W.heap[g]? = some (.cells c t (0, 0))
def RowIn (W : World) (P : Nat -> Prop) (v : Value) (n : Nat) (xs : List Value) : Prop :=
 (v = .slice none 0 0 /\ n = 0) \/ ∃ g cap, v = .slice (some ⟨g, 0, none⟩) n cap /\ n <= cap /\ cap <= maxLen /\ P g /\ g < W.heap.size /\ BlkV W g /\ ∀ (j : Nat) (u : Value), xs[j]? = some u -> W.cell? ⟨g, j, none⟩ = some u
inductive TreeAt (W : World) (P : Nat -> Prop) : XV -> Tree -> Prop
 | mk {k lo hi : Int} {ns ks : Value} {x nums : List Int} {kids : List Tree} (vs : List XV) :
   RowIn W P ns nums.length (icells nums) -> RowIn W P ks kids.length (vs.flatMap XV.cells) -> vs.length = kids.length ->
   (∀ (i : Nat) (y : XV) (t : Tree), vs[i]? = some y -> kids[i]? = some t -> TreeAt W P y t) -> TreeAt W P ⟨k, strOf x, ns, lo, hi, ks⟩ (.mk k x nums lo hi kids)
theorem RowIn.kept {W W' : World} {P P' : Nat -> Prop} {v : Value} {n : Nat} {xs : List Value} (h : RowIn W P v n xs) (hk : ∀ b, P b -> b < W.heap.size -> W'.heap[b]? = W.heap[b]? /\ P' b) (hs : W.heap.size <= W'.heap.size) : RowIn W' P' v n xs := by
 rcases h with h | ⟨g, cap, hv, hc, hm, hP, hg, hb, h⟩
 ·exact .inl h
 ·refine .inr ⟨g, cap, hv, hc, hm, (hk g hP hg).2, Nat.lt_of_lt_of_le hg hs, ?_, fun j u hj => ?_⟩
  ·obtain ⟨c, t, ht, hb⟩ := hb
   exact ⟨c, t, ht, (hk g hP hg).1.trans hb⟩
  ·rw [World.cell?_of_block (w := W) (hk g hP hg).1]
   exact h j u hj
theorem TreeAt.kept {W W' : World} {P P' : Nat -> Prop} {x : XV} {t : Tree} (h : TreeAt W P x t) (hk : ∀ b, P b -> b < W.heap.size -> W'.heap[b]? = W.heap[b]? /\ P' b) (hs : W.heap.size <= W'.heap.size) : TreeAt W' P' x t := by
 induction h with
 | mk vs h1 h2 h3 _ ih => exact .mk vs (h1.kept hk hs) (h2.kept hk hs) h3 ih
theorem TreeAt.under {W W' : World} {P : Nat -> Prop} {x : XV} {t : Tree} (h : TreeAt W P x t) (hb : Below W.heap.size W W') : TreeAt W' P x t := h.kept (fun b hP hl => ⟨hb.block b hl, hP⟩) hb.size
theorem TreeAt.weak {W : World} {P P' : Nat -> Prop} {x : XV} {t : Tree} (h : TreeAt W P x t) (hk : ∀ b, P b -> b < W.heap.size -> P' b) : TreeAt W P' x t := h.kept (fun b hP hl => ⟨rfl, hk b hP hl⟩) (Nat.le_refl _)
theorem RowIn.nil (W : World) (P : Nat -> Prop) (xs : List Value) : RowIn W P (.slice none 0 0) 0 xs := .inl ⟨rfl, rfl⟩
theorem RowIn.of_row {W : World} {P : Nat -> Prop} {base size n : Nat} {e : TypeId} {v : Value} {xs : List Value} (h : W.ownsRow base e size v n xs) (hP : ∀ b, base <= b -> P b) (he : KV e := by unfold KV; decide) : RowIn W P v n xs := by
 have h0 := h
 rcases row_forms h with h0 | ⟨g, cap, rfl⟩
 ·exact .inl h0
 ·obtain ⟨hb, hc, hm, hg⟩ := row_base h
  refine .inr ⟨g, cap, rfl, hc, hm, hP g hb, hg, ?_, fun j u hj => row_cell h hj⟩
  rcases h.2 with ⟨hn, _⟩ | ⟨g', cap', cur, hv, _, hblk, _⟩
  ·cases hn
  ·simp at hv
   obtain ⟨rfl, _⟩ := hv
   exact ⟨_, _, he, hblk⟩
theorem tree_leaf (W : World) (P : Nat -> Prop) (k lo hi : Int) (x : List Int) : TreeAt W P ⟨k, strOf x, .slice none 0 0, lo, hi, .slice none 0 0⟩ (.mk k x [] lo hi []) :=
 .mk [] (RowIn.nil _ _ _) (RowIn.nil _ _ _) rfl (fun i y t h => by simp at h)
theorem strOf_nil : strOf [] = ⟨#[]⟩ := rfl
theorem tree_nums {W : World} {P : Nat -> Prop} {base : Nat} {v : Value} (k : Int) {nums : List Int} (h : W.ownsRow base 3 1 v nums.length (icells nums)) (hP : ∀ b, base <= b -> P b) :
  TreeAt W P ⟨k, ⟨#[]⟩, v, 0, 0, .slice none 0 0⟩ (.mk k [] nums 0 0 []) :=
 TreeAt.mk (x := []) (kids := []) [] (RowIn.of_row h hP) (RowIn.nil _ _ _) rfl (fun i y t h => by simp at h)
def KidsAt (W : World) (base : Nat) (v : Value) (l : List Tree) : Prop :=
 ∃ vs : List XV, vs.length = l.length /\ W.ownsRow base 27 6 v l.length (vs.flatMap XV.cells) /\ ∀ (i : Nat) (y : XV) (t : Tree), vs[i]? = some y -> l[i]? = some t -> TreeAt W (fun b => base <= b /\ some b ≠ v.ownBlock) y t
theorem KidsAt.kept {W W' : World} {base : Nat} {v : Value} {l : List Tree} (h : KidsAt W base v l) (hk : ∀ b, base <= b -> b < W.heap.size -> W'.heap[b]? = W.heap[b]?) (hs : W.heap.size <= W'.heap.size) : KidsAt W' base v l := by
 obtain ⟨vs, h1, h2, h3⟩ := h
 refine ⟨vs, h1, ?_, fun i y t hy ht => (h3 i y t hy ht).kept (fun b hP hl => ⟨hk b hP.1 hl, hP⟩) hs⟩
 refine ⟨h2.1, ?_⟩
 rcases h2.2 with hn | ⟨g, cap, cur, hv, hb, hg, rest⟩
 ·exact .inl hn
 ·exact .inr ⟨g, cap, cur, hv, hb, (hk g hb (Array.getElem?_eq_some_iff.1 hg).1).trans hg, rest⟩
theorem KidsAt.grown {W W' : World} {base R : Nat} {v : Value} {l : List Tree} (h : KidsAt W base v l) (hg : W.grownBy W' (some R)) (hR : R < base) : KidsAt W' base v l :=
 h.kept (fun b hb hl => hg.block b hl (fun e => by cases e; omega)) hg.size
theorem KidsAt.below {W W' : World} {base : Nat} {v : Value} {l : List Tree} (h : KidsAt W base v l) (hb : Below W.heap.size W W') : KidsAt W' base v l := h.kept (fun b _ hl => hb.block b hl) hb.size
theorem flat_len (vs : List XV) : (vs.flatMap XV.cells).length = vs.length * 6 := by
 induction vs with
 | nil => rfl
 | cons x vs ih => simp [XV.cells] at ih ⊢; omega
theorem flat_at (vs : List XV) (i j : Nat) (x : XV) (h : vs[i]? = some x) (hj : j < 6) : (vs.flatMap XV.cells)[i * 6 + j]? = x.cells[j]? := by
 induction vs generalizing i with
 | nil => simp at h
 | cons y vs ih =>
  cases i with
  | zero =>
   simp at h
   subst h
   simp only [List.flatMap_cons, Nat.zero_mul, Nat.zero_add]
   rw [List.getElem?_append_left (by simp [XV.cells]; exact hj)]
  | succ i =>
   simp at h
   have := ih i h
   simp only [List.flatMap_cons]
   rw [List.getElem?_append_right (by simp [XV.cells]; omega), show (i + 1) * 6 + j - (XV.cells y).length = i * 6 + j by simp [XV.cells]; omega]
   exact this
theorem KidsAt.push {W W' : World} {base : Nat} {v v' : Value} {l : List Tree} {t : Tree} {x : XV} {vs : List XV} (h1 : vs.length = l.length) (h2 : W.ownsRow base 27 6 v l.length (vs.flatMap XV.cells))
  (h3 : ∀ (i : Nat) (y : XV) (t : Tree), vs[i]? = some y -> l[i]? = some t -> TreeAt W (fun b => base <= b /\ some b ≠ v.ownBlock) y t) (hx : TreeAt W (fun b => base <= b /\ some b ≠ v.ownBlock) x t)
  (hown : W'.ownsRow base 27 6 v' (l.length + 1) (vs.flatMap XV.cells ++ x.cells)) (hg : W.grownBy W' v.ownBlock) (hat : v'.ownBlock = v.ownBlock \/ ∃ k, v'.ownBlock = some k /\ W.heap.size <= k) : KidsAt W' base v' (l ++ [t]) := by
 have key : ∀ (y : XV) (u : Tree), TreeAt W (fun b => base <= b /\ some b ≠ v.ownBlock) y u -> TreeAt W' (fun b => base <= b /\ some b ≠ v'.ownBlock) y u := by
  intro y u hy
  refine hy.kept (fun b hP hl => ⟨hg.block b hl hP.2, hP.1, ?_⟩) hg.size
  rcases hat with e | ⟨k, e, hk⟩
  ·rw [e]; exact hP.2
  ·rw [e]; intro g; cases g; omega
 refine ⟨vs ++ [x], by simp [h1], by simpa using hown, fun i y u hy hu => ?_⟩
 by_cases hi : i < l.length
 ·rw [List.getElem?_append_left (by omega)] at hy
  rw [List.getElem?_append_left hi] at hu
  exact key y u (h3 i y u hy hu)
 ·have hi0 : i = l.length := by
   have := (List.getElem?_eq_some_iff.1 hu).1
   simp at this; omega
  subst hi0
  rw [List.getElem?_append_right (by omega), h1] at hy
  rw [List.getElem?_append_right (by omega)] at hu
  simp at hy hu
  subst hy hu
  exact key x t hx
theorem KidsAt.one {W W' : World} {base g : Nat} {t : Tree} {x : XV} (hx : TreeAt W (fun b => base <= b) x t) (hg : W.heap.size <= g) (hb : base <= g) (hblk : W'.heap[g]? = some (.cells #[.int .i64 x.kind, .string x.text, x.ns, .int .i64 x.lo, .int .i64 x.hi, x.ks] 27 (0, 0)))
  (hk : ∀ b, base <= b -> b < W.heap.size -> W'.heap[b]? = W.heap[b]?) (hs : W.heap.size <= W'.heap.size) : KidsAt W' base (.slice (some ⟨g, 0, none⟩) 1 1) [t] := by
 refine ⟨[x], rfl, row_of_block hb hblk (by unfold maxLen; omega) rfl, fun i y u hy hu => ?_⟩
 have hi : i = 0 := by
  have := (List.getElem?_eq_some_iff.1 hu).1
  simp at this; omega
 subst hi
 simp at hy hu
 subst hy hu
 exact hx.kept (fun b hP hl => ⟨hk b hP hl, hP, fun e => by simp [Value.ownBlock] at e; omega⟩) hs
theorem KidsAt.tree {W : World} {base : Nat} {v : Value} {l : List Tree} (h : KidsAt W base v l) (k lo hi : Int) : TreeAt W (fun b => base <= b) ⟨k, ⟨#[]⟩, .slice none 0 0, lo, hi, v⟩ (.mk k [] [] lo hi l) := by
 obtain ⟨vs, h1, h2, h3⟩ := h
 exact TreeAt.mk (x := []) (nums := []) vs (RowIn.nil _ _ _) (RowIn.of_row h2 (fun b hb => hb)) h1 (fun i y t hy ht => (h3 i y t hy ht).weak (fun b hP _ => hP.1))
def MakesTree (base : Nat) (t : Tree) (w : World) (e : Ending) (w' : World) : Prop :=
 ∃ x : XV, TreeAt w' (fun b => base <= b) x t /\ e = .returned x.val /\ Below w.heap.size w w'
structure LV where
 name : ByteArray
 more : Bool
 expr : XV
def LV.arr (y : LV) : Array Value := #[.string y.name, .bool y.more, .int .i64 y.expr.kind, .string y.expr.text, y.expr.ns, .int .i64 y.expr.lo, .int .i64 y.expr.hi, y.expr.ks]
def LV.val (y : LV) : Value := .agg y.arr
def LineAt (W : World) (P : Nat -> Prop) (y : LV) (r : Rule) : Prop := y.name = strOf r.name /\ y.more = r.more /\ TreeAt W P y.expr r.expr
def LV.cells (y : LV) : List Value := [.string y.name, .bool y.more, .int .i64 y.expr.kind, .string y.expr.text, y.expr.ns, .int .i64 y.expr.lo, .int .i64 y.expr.hi, y.expr.ks]
def LinesAt (W : World) (base : Nat) (v : Value) (l : List Rule) : Prop :=
 ∃ ys : List LV, ys.length = l.length /\ W.ownsRow base 44 8 v l.length (ys.flatMap LV.cells) /\ ∀ (i : Nat) (y : LV) (r : Rule), ys[i]? = some y -> l[i]? = some r -> LineAt W (fun b => base <= b /\ some b ≠ v.ownBlock) y r
theorem LineAt.kept {W W' : World} {P P' : Nat -> Prop} {y : LV} {r : Rule} (h : LineAt W P y r) (hk : ∀ b, P b -> b < W.heap.size -> W'.heap[b]? = W.heap[b]? /\ P' b) (hs : W.heap.size <= W'.heap.size) : LineAt W' P' y r := ⟨h.1, h.2.1, h.2.2.kept hk hs⟩
theorem LinesAt.kept {W W' : World} {base : Nat} {v : Value} {l : List Rule} (h : LinesAt W base v l) (hk : ∀ b, base <= b -> b < W.heap.size -> W'.heap[b]? = W.heap[b]?) (hs : W.heap.size <= W'.heap.size) : LinesAt W' base v l := by
 obtain ⟨vs, h1, h2, h3⟩ := h
 refine ⟨vs, h1, ?_, fun i y t hy ht => (h3 i y t hy ht).kept (fun b hP hl => ⟨hk b hP.1 hl, hP⟩) hs⟩
 refine ⟨h2.1, ?_⟩
 rcases h2.2 with hn | ⟨g, cap, cur, hv, hb, hg, rest⟩
 ·exact .inl hn
 ·exact .inr ⟨g, cap, cur, hv, hb, (hk g hb (Array.getElem?_eq_some_iff.1 hg).1).trans hg, rest⟩
theorem LinesAt.grown {W W' : World} {base R : Nat} {v : Value} {l : List Rule} (h : LinesAt W base v l) (hg : W.grownBy W' (some R)) (hR : R < base) : LinesAt W' base v l :=
 h.kept (fun b hb hl => hg.block b hl (fun e => by have := Option.some.inj e; omega)) hg.size
theorem LinesAt.below {W W' : World} {base : Nat} {v : Value} {l : List Rule} (h : LinesAt W base v l) (hb : Below W.heap.size W W') : LinesAt W' base v l := h.kept (fun b _ hl => hb.block b hl) hb.size
theorem LinesAt.nil (W : World) (base : Nat) : LinesAt W base (.slice none 0 0) [] := ⟨[], rfl, World.ownsRow_nil _ _ _ _, fun i y r h => by simp at h⟩
theorem LinesAt.push {W W' : World} {base : Nat} {v v' : Value} {l : List Rule} {t : Rule} {x : LV} {vs : List LV} (h1 : vs.length = l.length) (h2 : W.ownsRow base 44 8 v l.length (vs.flatMap LV.cells))
  (h3 : ∀ (i : Nat) (y : LV) (t : Rule), vs[i]? = some y -> l[i]? = some t -> LineAt W (fun b => base <= b /\ some b ≠ v.ownBlock) y t) (hx : LineAt W (fun b => base <= b /\ some b ≠ v.ownBlock) x t)
  (hown : W'.ownsRow base 44 8 v' (l.length + 1) (vs.flatMap LV.cells ++ x.cells)) (hg : W.grownBy W' v.ownBlock) (hat : v'.ownBlock = v.ownBlock \/ ∃ k, v'.ownBlock = some k /\ W.heap.size <= k) : LinesAt W' base v' (l ++ [t]) := by
 have key : ∀ (y : LV) (u : Rule), LineAt W (fun b => base <= b /\ some b ≠ v.ownBlock) y u -> LineAt W' (fun b => base <= b /\ some b ≠ v'.ownBlock) y u := by
  intro y u hy
  refine hy.kept (fun b hP hl => ⟨hg.block b hl hP.2, hP.1, ?_⟩) hg.size
  rcases hat with e | ⟨k, e, hk⟩
  ·rw [e]; exact hP.2
  ·rw [e]; intro g; cases g; omega
 refine ⟨vs ++ [x], by simp [h1], by simpa using hown, fun i y u hy hu => ?_⟩
 by_cases hi : i < l.length
 ·rw [List.getElem?_append_left (by omega)] at hy
  rw [List.getElem?_append_left hi] at hu
  exact key y u (h3 i y u hy hu)
 ·have hi0 : i = l.length := by
   have := (List.getElem?_eq_some_iff.1 hu).1
   simp at this; omega
  subst hi0
  rw [List.getElem?_append_right (by omega), h1] at hy
  rw [List.getElem?_append_right (by omega)] at hu
  simp at hy hu
  subst hy hu
  exact key x t hx
def RowOf (W : World) (a : Option Addr) (n : Nat) (xs : List Value) : Prop := 0 < n -> ∃ g, a = some ⟨g, 0, none⟩ /\ g < W.heap.size /\ ∀ (j : Nat) (u : Value), xs[j]? = some u -> W.cell? ⟨g, j, none⟩ = some u
theorem RowIn.open {W : World} {P : Nat -> Prop} {v : Value} {n : Nat} {xs : List Value} (h : RowIn W P v n xs) : ∃ a cap, v = .slice a n cap /\ n <= cap /\ n <= 9223372036854775807 /\ RowOf W a n xs := by
 rcases h with ⟨rfl, rfl⟩ | ⟨g, cap, rfl, hc, hm, _, hg, _, h⟩
 ·exact ⟨none, 0, rfl, Nat.le_refl _, by omega, fun h => absurd h (by omega)⟩
 ·unfold maxLen at hm
  exact ⟨some ⟨g, 0, none⟩, cap, rfl, hc, by omega, fun _ => ⟨g, rfl, hg, h⟩⟩
theorem RowOf.below {W W' : World} {a : Option Addr} {n : Nat} {xs : List Value} (h : RowOf W a n xs) (hb : Below W.heap.size W W') : RowOf W' a n xs := by
 intro hn
 obtain ⟨g, ha, hg, hc⟩ := h hn
 exact ⟨g, ha, Nat.lt_of_lt_of_le hg hb.size, fun j u hj => (hb.cell (p := ⟨g, j, none⟩) hg).trans (hc j u hj)⟩
def LinesIn (W : World) (P : Nat -> Prop) (v : Value) (l : List Rule) : Prop :=
 ∃ ys : List LV, ys.length = l.length /\ RowIn W P v l.length (ys.flatMap LV.cells) /\ ∀ (i : Nat) (y : LV) (r : Rule), ys[i]? = some y -> l[i]? = some r -> LineAt W P y r
theorem LinesAt.reads {W : World} {base : Nat} {v : Value} {l : List Rule} (h : LinesAt W base v l) : LinesIn W (fun b => base <= b) v l := by
 obtain ⟨ys, h1, h2, h3⟩ := h
 exact ⟨ys, h1, RowIn.of_row h2 (fun b hb => hb), fun i y r hy hr => (h3 i y r hy hr).kept (fun b hP _ => ⟨rfl, hP.1⟩) (Nat.le_refl _)⟩
theorem LinesIn.under {W W' : World} {P : Nat -> Prop} {v : Value} {l : List Rule} (h : LinesIn W P v l) (hb : Below W.heap.size W W') : LinesIn W' P v l := by
 obtain ⟨ys, h1, h2, h3⟩ := h
 exact ⟨ys, h1, h2.kept (fun b hP hl => ⟨hb.block b hl, hP⟩) hb.size, fun i y r hy hr => (h3 i y r hy hr).kept (fun b hP hl => ⟨hb.block b hl, hP⟩) hb.size⟩
end Go.Proofs.YtpopgjgngbiofaaGreatDoor
namespace Go.Proofs.YtpopgjgngbiofaaGreatDoor
open Go.RowKit
def RowAny (W : World) (v : Value) (n : Nat) (xs : List Value) : Prop :=
 (n = 0 /\ ∃ a cap, v = .slice a 0 cap) \/ ∃ g off cap, v = .slice (some ⟨g, off, none⟩) n cap /\ n <= cap /\ cap <= maxLen /\ g < W.heap.size /\ ∀ (j : Nat) (u : Value), xs[j]? = some u -> W.cell? ⟨g, off + j, none⟩ = some u
theorem RowAny.below {W W' : World} {v : Value} {n : Nat} {xs : List Value} (h : RowAny W v n xs) (hb : Below W.heap.size W W') : RowAny W' v n xs := by
 rcases h with h | ⟨g, off, cap, hv, h1, h2, h3, h4⟩
 ·exact .inl h
 ·exact .inr ⟨g, off, cap, hv, h1, h2, Nat.lt_of_lt_of_le h3 hb.size, fun j u hj => (hb.cell (p := ⟨g, off + j, none⟩) h3).trans (h4 j u hj)⟩
inductive ETree (W : World) : XV -> Tree -> Prop
 | mk {k lo hi : Int} {ns ks : Value} {x nums : List Int} {kids : List Tree} (vs : List XV) :
   (∀ c ∈ x, 0 <= c /\ c <= 255) -> x.length <= 9223372036854775807 -> RowAny W ns nums.length (icells nums) -> RowAny W ks kids.length (vs.flatMap XV.cells) -> vs.length = kids.length ->
   (∀ (i : Nat) (y : XV) (t : Tree), vs[i]? = some y -> kids[i]? = some t -> ETree W y t) -> ETree W ⟨k, strOf x, ns, lo, hi, ks⟩ (.mk k x nums lo hi kids)
theorem ETree.under {W W' : World} {x : XV} {t : Tree} (h : ETree W x t) (hb : Below W.heap.size W W') : ETree W' x t := by
 induction h with
 | mk vs h0 hl h1 h2 h3 _ ih => exact .mk vs h0 hl (h1.below hb) (h2.below hb) h3 ih
theorem small_any (c : Int) (h0 : 0 <= c) (h1 : c <= 255) (w : World) : Calls Tryz.prog 106 #[.int .u8 c] w (SaysB (smB c) w) := by
 have hu : smB c = (decide (97 <= c) && decide (c <= 122)) := rfl
 by_cases a : 97 <= c <;> by_cases b : c <= 122
 all_goals try (exfalso; omega)
 all_goals
  simp only [a, b, decide_true, decide_false, Bool.and_true, Bool.and_false, Bool.and_self] at hu
  rw [hu]
  clear hu
  go_enter Tryz.func106, Tryz.ntmps106
  go_wp2
  go_ret
  exact ⟨rfl, rfl⟩
theorem num4_any (n : Int) (w : World) : Calls Tryz.prog 151 #[.int .i64 n] w (SaysB (numB n) w) := by
 have hu : numB n = (decide (0 <= n) && decide (n <= 1114111)) := rfl
 by_cases a : 0 <= n <;> by_cases b : n <= 1114111
 all_goals try (exfalso; omega)
 all_goals
  simp only [a, b, decide_true, decide_false, Bool.and_true, Bool.and_false, Bool.and_self] at hu
  rw [hu]
  clear hu
  go_enter Tryz.func151, Tryz.ntmps151
  go_wp2
  go_ret
  exact ⟨rfl, rfl⟩
theorem inName_any (c : Int) (h0 : 0 <= c) (h1 : c <= 255) (w : World) : Calls Tryz.prog 108 #[.int .u8 c] w (SaysB (nlB c) w) := by
 have HS := hh9 (fun W => small_any c h0 h1 W)
 cases hs : smB c
 ·rw [hs] at HS
  cases hd : isDc c
  ·have hd' : ¬ (48 <= c /\ c <= 57) := by unfold isDc at hd; simp at hd; omega
   by_cases e : c = 45
   ·subst e
    rw [show nlB 45 = true by decide]
    clear hs hd hd'
    go_enter Tryz.func108, Tryz.ntmps108
    go_wp2_with fail
    refine (HS.out _).mono ?_
    rintro e w' ⟨rfl, rfl⟩
    go_wp2_with fail
    go_ret
    exact ⟨rfl, rfl⟩
   ·have q : (c == 45) = false := by simpa using e
    rw [show nlB c = false by unfold nlB; rw [hs, hd, q]; rfl]
    clear hs hd
    by_cases a : 48 <= c
    ·have b : decide (c <= 57) = false := decide_eq_false (by omega)
     go_enter Tryz.func108, Tryz.ntmps108
     go_wp2_with fail
     refine (HS.out _).mono ?_
     rintro e w' ⟨rfl, rfl⟩
     go_wp2_with fail
     go_ret
     exact ⟨rfl, rfl⟩
    ·go_enter Tryz.func108, Tryz.ntmps108
     go_wp2_with fail
     refine (HS.out _).mono ?_
     rintro e w' ⟨rfl, rfl⟩
     go_wp2_with fail
     go_ret
     exact ⟨rfl, rfl⟩
  ·obtain ⟨a, b⟩ : 48 <= c /\ c <= 57 := by unfold isDc at hd; simpa using hd
   rw [show nlB c = true by unfold nlB; rw [hd]; simp]
   clear hs hd
   go_enter Tryz.func108, Tryz.ntmps108
   go_wp2_with fail
   refine (HS.out _).mono ?_
   rintro e w' ⟨rfl, rfl⟩
   go_wp2_with fail
   go_ret
   exact ⟨rfl, rfl⟩
 ·rw [hs] at HS
  rw [show nlB c = true by unfold nlB; rw [hs]; rfl]
  clear hs
  go_enter Tryz.func108, Tryz.ntmps108
  go_wp2_with fail
  refine (HS.out _).mono ?_
  rintro e w' ⟨rfl, rfl⟩
  go_wp2_with fail
  go_ret
  exact ⟨rfl, rfl⟩
end Go.Proofs.YtpopgjgngbiofaaGreatDoor
namespace Go.Proofs.YtpopgjgngbiofaaGreatDoor
open Go.RowKit
theorem strOf_get8 {x : List Int} (hx : ∀ c ∈ x, 0 <= c /\ c <= 255) (i : Nat) (h : i < (strOf x).size) : x[i]? = some ((strOf x)[i].toNat : Int) := by
 have h' : i < x.length := by rwa [strOf_size] at h
 have h1 : (strOf x)[i] = byt x[i] := by
  have e : (strOf x).data.toList[i]? = some (byt x[i]) := by rw [strOf_data, List.getElem?_map, List.getElem?_eq_getElem h']; rfl
  have e2 : (strOf x).data.toList[i]? = some (strOf x)[i] := List.getElem?_eq_getElem (by simpa using h)
  exact Option.some.inj (e2.symm.trans e)
 rw [h1, List.getElem?_eq_getElem h']
 have hm := hx x[i] (List.getElem_mem h')
 unfold byt
 congr 1
 simp
 omega
theorem str_some4 {s : ByteArray} (h : 0 < s.size) : s.toList.isEmpty = false := by
 rw [Lib.toList_data]
 cases g : s.data.toList with
 | nil =>
  have : s.size = 0 := by
   show s.data.size = 0
   rw [<- Array.length_toList, g]; rfl
  omega
 | cons a l => rfl
theorem all_upto {P : Int -> Bool} {x : List Int} {n : Nat} (hn : x.length <= n) (h : ∀ (i : Nat) (c : Int), i < n -> x[i]? = some c -> P c = true) : x.all P = true := by
 rw [List.all_eq_true]
 intro c hc
 obtain ⟨i, hi⟩ := List.getElem?_of_mem hc
 exact h i c (Nat.lt_of_lt_of_le (List.getElem?_eq_some_iff.1 hi).1 hn) hi
theorem all_not {P : Int -> Bool} {x : List Int} {i : Nat} {c : Int} (h : x[i]? = some c) (hc : P c = false) : x.all P = false := by
 rw [List.all_eq_false]
 exact ⟨c, List.mem_of_getElem? h, by simp [hc]⟩
end Go.Proofs.YtpopgjgngbiofaaGreatDoor
namespace Go.Proofs.YtpopgjgngbiofaaGreatDoor
open Go.RowKit
def bcells (x : List Int) : List Value := x.map (Value.int .u8)
theorem bcells_at {x : List Int} {i : Nat} {c : Int} (h : x[i]? = some c) : (bcells x)[i]? = some (.int .u8 c) := by simp [bcells, h]
theorem icells_at4 {x : List Int} {i : Nat} {c : Int} (h : x[i]? = some c) : (icells x)[i]? = some (.int .i64 c) := by simp [icells, h]
theorem inFold_any (c : Int) (h0 : 0 <= c) (h1 : c <= 255) (w : World) : Calls Tryz.prog 149 #[.int .u8 c] w (SaysB (foB c) w) := by
 have hu : foB c = (decide (32 <= c) && decide (c <= 126) && !(c == 34) && !(decide (65 <= c) && decide (c <= 90))) := rfl
 by_cases q : c = 34
 ·subst q
  rw [show foB 34 = false by decide]
  clear hu
  go_enter Tryz.func149, Tryz.ntmps149
  go_wp2
  go_ret
  exact ⟨rfl, rfl⟩
 ·have q1 : (c == 34) = false := by simpa using q
  have q2 : (c != 34) = true := by simpa using q
  rw [q1] at hu
  by_cases a : 32 <= c <;> by_cases b : c <= 126 <;> by_cases d : 65 <= c <;> by_cases e : c <= 90
  all_goals try (exfalso; omega)
  all_goals
   simp only [a, b, d, e, decide_true, decide_false, Bool.and_true, Bool.and_false, Bool.and_self, Bool.not_false, Bool.not_true, Bool.true_and, Bool.false_and] at hu
   rw [hu]
   clear hu
   have w1 : (32 <= c \/ ¬ 32 <= c) := by omega
   have k1 : decide (c < 65) = !decide (65 <= c) := by by_cases g : 65 <= c <;> simp [g] <;> omega
   have k2 : decide (90 < c) = !decide (c <= 90) := by by_cases g : c <= 90 <;> simp [g] <;> omega
   simp only [d, e, decide_true, decide_false, Bool.not_true, Bool.not_false] at k1 k2
   clear w1
   go_enter Tryz.func149, Tryz.ntmps149
   go_wp2
   go_ret
   exact ⟨rfl, rfl⟩
theorem not_name {B : Nat} {w : World} (c : Int) (hb : 0 <= c /\ c <= 255) (hB : w.cell? ⟨B, 0, none⟩ = some (.func (Fn.func 108) #[] #[])) : Calls Tryz.prog 126 #[.int .u8 c, .pointer (some ⟨B, 0, none⟩)] w (SaysB (!nlB c) w) := by
 cases hp : nlB c
 all_goals
  have HC := hh9 (fun W : World => (show Calls Tryz.prog 108 #[.int .u8 c] W (SaysB (nlB c) W) from inName_any c hb.1 hb.2 _))
  rw [hp] at HC
  clear hp
  go_enter Tryz.func126, Tryz.ntmps126
  go_wp2_with fail
  refine (HC.out _).mono ?_
  rintro e w' ⟨rfl, rfl⟩
  go_wp2_with fail
  go_ret
  exact ⟨rfl, rfl⟩
theorem index_name {B : Nat} {w : World} {x : List Int} {v : Value} (hx : ∀ c ∈ x, 0 <= c /\ c <= 255) (hv : RowAny w v x.length (bcells x)) (hB : w.cell? ⟨B, 0, none⟩ = some (.func (Fn.func 108) #[] #[])) :
  Calls Tryz.prog 147 #[v, .func (Fn.func 126) #[] #[.pointer (some ⟨B, 0, none⟩)]] w fun e w' => ∃ i : Int, e = .returned (.int .i64 i) /\ w = w' /\ -1 <= i /\ decide (0 <= i) = !x.all nlB := by
 have HX := hh9 hx
 clear hx
 have HB := hh9 hB
 obtain ⟨n, hn⟩ : ∃ n, n = x.length := ⟨_, rfl⟩
 rw [<- hn] at hv
 have HN := hh9 hn
 rcases hv with ⟨h0, a, cap, rfl⟩ | ⟨g, off, cap, rfl, h1, h2, h3, h4⟩
 ·have hx0 : x = [] := List.length_eq_zero_iff.1 (by omega)
  subst hx0
  clear hn h0 hB
  go_enter Tryz.func147, Tryz.ntmps147
  go_wp2_with fail
  go_loop [8] (fun v => v = .int .i64 0) (fun v => 0)
  case atStart => rfl
  case round =>
   subst hrel
   go_wp2_with fail
   go_ret
   exact ⟨-1, rfl, rfl, by omega, by decide⟩
 ·have H4 := hh9 h4
  unfold maxLen at h2
  clear hn h4 hB
  go_enter Tryz.func147, Tryz.ntmps147
  go_wp2_with fail
  go_loop [8] (fun v => ∃ i : Nat, v = .int .i64 i /\ i <= n /\ ∀ (j : Nat) (c : Int), j < i -> x[j]? = some c -> nlB c = true) (fun v => n - (intOf v).toNat)
  case atStart => exact ⟨0, rfl, by omega, fun j c h => by omega⟩
  case round =>
   obtain ⟨i, rfl, hi, hall⟩ := hrel
   have HALL := hh9 hall
   clear hall
   by_cases hlt : i < n
   ·obtain ⟨Z, hZ⟩ : ∃ z, x[i]? = some z := ⟨_, List.getElem?_eq_getElem (by rw [<- HN.out]; exact hlt)⟩
    have HXI := hh9 hZ
    have c0 := H4.out i _ (bcells_at hZ)
    clear hZ
    go_wp2_with fail
    refine (not_name Z (HX.out Z (List.mem_of_getElem? HXI.out)) HB.out).mono ?_
    cases hf : nlB Z
    ·have HNOT := hh9 (all_not HXI.out hf)
     clear hf
     rintro e w' ⟨rfl, rfl⟩
     go_wp2_with fail
     go_ret
     exact ⟨(i : Int), rfl, rfl, by omega, by rw [HNOT.out]; simp⟩
    ·have HNX : Hid (∀ (j : Nat) (c : Int), j < i + 1 -> x[j]? = some c -> nlB c = true) := fun j c hj hc => by
      by_cases g : j = i
      ·subst g
       rw [HXI.out] at hc
       rw [<- Option.some.inj hc]
       exact hf
      ·exact HALL.out j c (by omega) hc
     clear hf
     rintro e w' ⟨rfl, rfl⟩
     go_wp2_with fail
     go_round
     case rel => exact ⟨i + 1, by go_num, by omega, HNX.out⟩
     case measure => simp [intOf]; omega
   ·have hyes : x.all nlB = true := all_upto (n := n) (by rw [HN.out]; exact Nat.le_refl _) (fun j c h hc => HALL.out j c (by omega) hc)
    have HYES := hh9 hyes
    clear hyes
    go_wp2_with fail
    go_ret
    exact ⟨-1, rfl, rfl, by omega, by rw [HYES.out]; decide⟩
theorem some_name {B : Nat} {w : World} {x : List Int} {v : Value} (hx : ∀ c ∈ x, 0 <= c /\ c <= 255) (hv : RowAny w v x.length (bcells x)) (hB : w.cell? ⟨B, 0, none⟩ = some (.func (Fn.func 108) #[] #[])) :
  Calls Tryz.prog 125 #[v, .func (Fn.func 126) #[] #[.pointer (some ⟨B, 0, none⟩)]] w (SaysB (!x.all nlB) w) := by
 have HI := hh9 (index_name hx hv hB)
 clear hv hB
 go_enter Tryz.func125, Tryz.ntmps125
 go_wp2_with fail
 refine HI.out.mono ?_
 rintro e w' ⟨i, rfl, rfl, hi, hd⟩
 have HD := hh9 hd
 clear hd
 go_wp2_with fail
 go_ret
 exact ⟨by rw [<- HD.out]; exact rfl, rfl⟩
theorem all_name {w : World} {x : List Int} {v : Value} (hx : ∀ c ∈ x, 0 <= c /\ c <= 255) (hv : RowAny w v x.length (bcells x)) :
  Calls Tryz.prog 107 #[v, .func (Fn.func 108) #[] #[]] w (GivesBool (x.all nlB) w) := by
 have HS := hh9 (fun o : Obj => some_name (w := w.alloc o) (B := w.heap.size) hx (hv.below ((Below.refl _ _).alloc (Nat.le_refl _) _)))
 clear hv
 cases hp : x.all nlB
 all_goals
  rw [hp] at HS
  clear hp
  go_enter Tryz.func107, Tryz.ntmps107
  go_wp2_with fail
  refine (HS.out _ (by unfold World.cell?; rw [heap_alloc_new]; rfl)).mono ?_
  rintro e w' ⟨rfl, rfl⟩
  go_wp2_with fail
  go_ret
  exact ⟨rfl, (Below.refl _ _).alloc (Nat.le_refl _) _⟩
theorem not_fold {B : Nat} {w : World} (c : Int) (hb : 0 <= c /\ c <= 255) (hB : w.cell? ⟨B, 0, none⟩ = some (.func (Fn.func 149) #[] #[])) : Calls Tryz.prog 126 #[.int .u8 c, .pointer (some ⟨B, 0, none⟩)] w (SaysB (!foB c) w) := by
 cases hp : foB c
 all_goals
  have HC := hh9 (fun W : World => (show Calls Tryz.prog 149 #[.int .u8 c] W (SaysB (foB c) W) from inFold_any c hb.1 hb.2 _))
  rw [hp] at HC
  clear hp
  go_enter Tryz.func126, Tryz.ntmps126
  go_wp2_with fail
  refine (HC.out _).mono ?_
  rintro e w' ⟨rfl, rfl⟩
  go_wp2_with fail
  go_ret
  exact ⟨rfl, rfl⟩
theorem index_fold {B : Nat} {w : World} {x : List Int} {v : Value} (hx : ∀ c ∈ x, 0 <= c /\ c <= 255) (hv : RowAny w v x.length (bcells x)) (hB : w.cell? ⟨B, 0, none⟩ = some (.func (Fn.func 149) #[] #[])) :
  Calls Tryz.prog 147 #[v, .func (Fn.func 126) #[] #[.pointer (some ⟨B, 0, none⟩)]] w fun e w' => ∃ i : Int, e = .returned (.int .i64 i) /\ w = w' /\ -1 <= i /\ decide (0 <= i) = !x.all foB := by
 have HX := hh9 hx
 clear hx
 have HB := hh9 hB
 obtain ⟨n, hn⟩ : ∃ n, n = x.length := ⟨_, rfl⟩
 rw [<- hn] at hv
 have HN := hh9 hn
 rcases hv with ⟨h0, a, cap, rfl⟩ | ⟨g, off, cap, rfl, h1, h2, h3, h4⟩
 ·have hx0 : x = [] := List.length_eq_zero_iff.1 (by omega)
  subst hx0
  clear hn h0 hB
  go_enter Tryz.func147, Tryz.ntmps147
  go_wp2_with fail
  go_loop [8] (fun v => v = .int .i64 0) (fun v => 0)
  case atStart => rfl
  case round =>
   subst hrel
   go_wp2_with fail
   go_ret
   exact ⟨-1, rfl, rfl, by omega, by decide⟩
 ·have H4 := hh9 h4
  unfold maxLen at h2
  clear hn h4 hB
  go_enter Tryz.func147, Tryz.ntmps147
  go_wp2_with fail
  go_loop [8] (fun v => ∃ i : Nat, v = .int .i64 i /\ i <= n /\ ∀ (j : Nat) (c : Int), j < i -> x[j]? = some c -> foB c = true) (fun v => n - (intOf v).toNat)
  case atStart => exact ⟨0, rfl, by omega, fun j c h => by omega⟩
  case round =>
   obtain ⟨i, rfl, hi, hall⟩ := hrel
   have HALL := hh9 hall
   clear hall
   by_cases hlt : i < n
   ·obtain ⟨Z, hZ⟩ : ∃ z, x[i]? = some z := ⟨_, List.getElem?_eq_getElem (by rw [<- HN.out]; exact hlt)⟩
    have HXI := hh9 hZ
    have c0 := H4.out i _ (bcells_at hZ)
    clear hZ
    go_wp2_with fail
    refine (not_fold Z (HX.out Z (List.mem_of_getElem? HXI.out)) HB.out).mono ?_
    cases hf : foB Z
    ·have HNOT := hh9 (all_not HXI.out hf)
     clear hf
     rintro e w' ⟨rfl, rfl⟩
     go_wp2_with fail
     go_ret
     exact ⟨(i : Int), rfl, rfl, by omega, by rw [HNOT.out]; simp⟩
    ·have HNX : Hid (∀ (j : Nat) (c : Int), j < i + 1 -> x[j]? = some c -> foB c = true) := fun j c hj hc => by
      by_cases g : j = i
      ·subst g
       rw [HXI.out] at hc
       rw [<- Option.some.inj hc]
       exact hf
      ·exact HALL.out j c (by omega) hc
     clear hf
     rintro e w' ⟨rfl, rfl⟩
     go_wp2_with fail
     go_round
     case rel => exact ⟨i + 1, by go_num, by omega, HNX.out⟩
     case measure => simp [intOf]; omega
   ·have hyes : x.all foB = true := all_upto (n := n) (by rw [HN.out]; exact Nat.le_refl _) (fun j c h hc => HALL.out j c (by omega) hc)
    have HYES := hh9 hyes
    clear hyes
    go_wp2_with fail
    go_ret
    exact ⟨-1, rfl, rfl, by omega, by rw [HYES.out]; decide⟩
theorem some_fold {B : Nat} {w : World} {x : List Int} {v : Value} (hx : ∀ c ∈ x, 0 <= c /\ c <= 255) (hv : RowAny w v x.length (bcells x)) (hB : w.cell? ⟨B, 0, none⟩ = some (.func (Fn.func 149) #[] #[])) :
  Calls Tryz.prog 125 #[v, .func (Fn.func 126) #[] #[.pointer (some ⟨B, 0, none⟩)]] w (SaysB (!x.all foB) w) := by
 have HI := hh9 (index_fold hx hv hB)
 clear hv hB
 go_enter Tryz.func125, Tryz.ntmps125
 go_wp2_with fail
 refine HI.out.mono ?_
 rintro e w' ⟨i, rfl, rfl, hi, hd⟩
 have HD := hh9 hd
 clear hd
 go_wp2_with fail
 go_ret
 exact ⟨by rw [<- HD.out]; exact rfl, rfl⟩
theorem all_fold {w : World} {x : List Int} {v : Value} (hx : ∀ c ∈ x, 0 <= c /\ c <= 255) (hv : RowAny w v x.length (bcells x)) :
  Calls Tryz.prog 107 #[v, .func (Fn.func 149) #[] #[]] w (GivesBool (x.all foB) w) := by
 have HS := hh9 (fun o : Obj => some_fold (w := w.alloc o) (B := w.heap.size) hx (hv.below ((Below.refl _ _).alloc (Nat.le_refl _) _)))
 clear hv
 cases hp : x.all foB
 all_goals
  rw [hp] at HS
  clear hp
  go_enter Tryz.func107, Tryz.ntmps107
  go_wp2_with fail
  refine (HS.out _ (by unfold World.cell?; rw [heap_alloc_new]; rfl)).mono ?_
  rintro e w' ⟨rfl, rfl⟩
  go_wp2_with fail
  go_ret
  exact ⟨rfl, (Below.refl _ _).alloc (Nat.le_refl _) _⟩
theorem not_nums {B : Nat} {w : World} (c : Int) (hB : w.cell? ⟨B, 0, none⟩ = some (.func (Fn.func 151) #[] #[])) : Calls Tryz.prog 172 #[.int .i64 c, .pointer (some ⟨B, 0, none⟩)] w (SaysB (!numB c) w) := by
 cases hp : numB c
 all_goals
  have HC := hh9 (fun W : World => (show Calls Tryz.prog 151 #[.int .i64 c] W (SaysB (numB c) W) from num4_any c _))
  rw [hp] at HC
  clear hp
  go_enter Tryz.func172, Tryz.ntmps172
  go_wp2_with fail
  refine (HC.out _).mono ?_
  rintro e w' ⟨rfl, rfl⟩
  go_wp2_with fail
  go_ret
  exact ⟨rfl, rfl⟩
theorem index_nums {B : Nat} {w : World} {x : List Int} {v : Value} (hv : RowAny w v x.length (icells x)) (hB : w.cell? ⟨B, 0, none⟩ = some (.func (Fn.func 151) #[] #[])) :
  Calls Tryz.prog 192 #[v, .func (Fn.func 172) #[] #[.pointer (some ⟨B, 0, none⟩)]] w fun e w' => ∃ i : Int, e = .returned (.int .i64 i) /\ w = w' /\ -1 <= i /\ decide (0 <= i) = !x.all numB := by
 have HB := hh9 hB
 obtain ⟨n, hn⟩ : ∃ n, n = x.length := ⟨_, rfl⟩
 rw [<- hn] at hv
 have HN := hh9 hn
 rcases hv with ⟨h0, a, cap, rfl⟩ | ⟨g, off, cap, rfl, h1, h2, h3, h4⟩
 ·have hx0 : x = [] := List.length_eq_zero_iff.1 (by omega)
  subst hx0
  clear hn h0 hB
  go_enter Tryz.func192, Tryz.ntmps192
  go_wp2_with fail
  go_loop [8] (fun v => v = .int .i64 0) (fun v => 0)
  case atStart => rfl
  case round =>
   subst hrel
   go_wp2_with fail
   go_ret
   exact ⟨-1, rfl, rfl, by omega, by decide⟩
 ·have H4 := hh9 h4
  unfold maxLen at h2
  clear hn h4 hB
  go_enter Tryz.func192, Tryz.ntmps192
  go_wp2_with fail
  go_loop [8] (fun v => ∃ i : Nat, v = .int .i64 i /\ i <= n /\ ∀ (j : Nat) (c : Int), j < i -> x[j]? = some c -> numB c = true) (fun v => n - (intOf v).toNat)
  case atStart => exact ⟨0, rfl, by omega, fun j c h => by omega⟩
  case round =>
   obtain ⟨i, rfl, hi, hall⟩ := hrel
   have HALL := hh9 hall
   clear hall
   by_cases hlt : i < n
   ·obtain ⟨Z, hZ⟩ : ∃ z, x[i]? = some z := ⟨_, List.getElem?_eq_getElem (by rw [<- HN.out]; exact hlt)⟩
    have HXI := hh9 hZ
    have c0 := H4.out i _ (icells_at4 hZ)
    clear hZ
    go_wp2_with fail
    refine (not_nums Z HB.out).mono ?_
    cases hf : numB Z
    ·have HNOT := hh9 (all_not HXI.out hf)
     clear hf
     rintro e w' ⟨rfl, rfl⟩
     go_wp2_with fail
     go_ret
     exact ⟨(i : Int), rfl, rfl, by omega, by rw [HNOT.out]; simp⟩
    ·have HNX : Hid (∀ (j : Nat) (c : Int), j < i + 1 -> x[j]? = some c -> numB c = true) := fun j c hj hc => by
      by_cases g : j = i
      ·subst g
       rw [HXI.out] at hc
       rw [<- Option.some.inj hc]
       exact hf
      ·exact HALL.out j c (by omega) hc
     clear hf
     rintro e w' ⟨rfl, rfl⟩
     go_wp2_with fail
     go_round
     case rel => exact ⟨i + 1, by go_num, by omega, HNX.out⟩
     case measure => simp [intOf]; omega
   ·have hyes : x.all numB = true := all_upto (n := n) (by rw [HN.out]; exact Nat.le_refl _) (fun j c h hc => HALL.out j c (by omega) hc)
    have HYES := hh9 hyes
    clear hyes
    go_wp2_with fail
    go_ret
    exact ⟨-1, rfl, rfl, by omega, by rw [HYES.out]; decide⟩
theorem some_nums {B : Nat} {w : World} {x : List Int} {v : Value} (hv : RowAny w v x.length (icells x)) (hB : w.cell? ⟨B, 0, none⟩ = some (.func (Fn.func 151) #[] #[])) :
  Calls Tryz.prog 171 #[v, .func (Fn.func 172) #[] #[.pointer (some ⟨B, 0, none⟩)]] w (SaysB (!x.all numB) w) := by
 have HI := hh9 (index_nums hv hB)
 clear hv hB
 go_enter Tryz.func171, Tryz.ntmps171
 go_wp2_with fail
 refine HI.out.mono ?_
 rintro e w' ⟨i, rfl, rfl, hi, hd⟩
 have HD := hh9 hd
 clear hd
 go_wp2_with fail
 go_ret
 exact ⟨by rw [<- HD.out]; exact rfl, rfl⟩
theorem all_nums {w : World} {x : List Int} {v : Value} (hv : RowAny w v x.length (icells x)) :
  Calls Tryz.prog 150 #[v, .func (Fn.func 151) #[] #[]] w (GivesBool (x.all numB) w) := by
 have HS := hh9 (fun o : Obj => some_nums (w := w.alloc o) (B := w.heap.size) (hv.below ((Below.refl _ _).alloc (Nat.le_refl _) _)))
 clear hv
 cases hp : x.all numB
 all_goals
  rw [hp] at HS
  clear hp
  go_enter Tryz.func150, Tryz.ntmps150
  go_wp2_with fail
  refine (HS.out _ (by unfold World.cell?; rw [heap_alloc_new]; rfl)).mono ?_
  rintro e w' ⟨rfl, rfl⟩
  go_wp2_with fail
  go_ret
  exact ⟨rfl, (Below.refl _ _).alloc (Nat.le_refl _) _⟩
end Go.Proofs.YtpopgjgngbiofaaGreatDoor
namespace Go.Proofs.YtpopgjgngbiofaaGreatDoor
open Go.RowKit
theorem conv_bytes (W : World) (S : ByteArray) (hs : S.size <= maxLen) : ∃ cap, S.size <= cap /\ cap <= maxLen /\
  (convert 9 40 (.string S)).run Tryz.prog W = .ok (.slice (some ⟨W.heap.size, 0, none⟩) S.size cap) (W.drew.alloc (.cells (bytesRow S cap) 5 ((bytesRow S cap).size, (bytesRow S cap).size + 1))) :=
 ⟨grownCap W S.size 0 5, grownCap_ge _ _ _ _, grownCap_le_maxLen _ _ _ _ hs, run_bytes_of_string W 9 40 5 S Tryz.underlying9 Tryz.underlying40 Tryz.underlying5⟩
theorem bytes_row {x : List Int} (hx : ∀ c ∈ x, 0 <= c /\ c <= 255) (W : World) (cap : Nat) (hc : x.length <= cap) (hm : cap <= maxLen) :
  RowAny (W.drew.alloc (.cells (bytesRow (strOf x) cap) 5 ((bytesRow (strOf x) cap).size, (bytesRow (strOf x) cap).size + 1))) (.slice (some ⟨W.heap.size, 0, none⟩) x.length cap) x.length (bcells x) := by
 refine .inr ⟨W.heap.size, 0, cap, rfl, hc, hm, by simp, fun j u hj => ?_⟩
 have hjl : j < x.length := by
  have := (List.getElem?_eq_some_iff.1 hj).1
  simpa [bcells] using this
 have hjs : j < (strOf x).size := by rw [strOf_size]; exact hjl
 have hg := strOf_get8 hx j hjs
 have hb := bytesRow_at (strOf x) cap j hjs
 have hu : u = .int .u8 (((strOf x)[j].toNat : Nat) : Int) := by
  unfold bcells at hj
  rw [List.getElem?_map, hg] at hj
  exact (Option.some.inj hj).symm
 have hblk : (W.drew.alloc (.cells (bytesRow (strOf x) cap) 5 ((bytesRow (strOf x) cap).size, (bytesRow (strOf x) cap).size + 1))).heap[W.heap.size]? = some (.cells (bytesRow (strOf x) cap) 5 ((bytesRow (strOf x) cap).size, (bytesRow (strOf x) cap).size + 1)) := by
  show (W.heap.push _)[W.heap.size]? = _
  simp
 rw [hu]
 simp only [World.cell?, hblk, Nat.zero_add]
 exact hb
theorem name_text {x : List Int} (w : World) (hx : ∀ c ∈ x, 0 <= c /\ c <= 255) (hl : x.length <= 9223372036854775807) : Calls Tryz.prog 80 #[.string (strOf x)] w (GivesBool (nameB x) w) := by
 cases x with
 | nil =>
  rw [strOf_nil]
  go_enter Tryz.func80, Tryz.ntmps80
  go_wp2_with fail
  go_ret
  exact ⟨rfl, Below.refl _ _⟩
 | cons a l =>
  obtain ⟨x, hxx⟩ : ∃ x, x = a :: l := ⟨_, rfl⟩
  have hname : nameB (a :: l) = (decide (x.length <= 40) && smB a && x.all nlB) := by rw [hxx]; rfl
  rw [hname]
  rw [<- hxx] at hx hl ⊢
  have ha := hx a (by rw [hxx]; simp)
  have h0 : x[0]? = some a := by rw [hxx]; rfl
  have hpos : 0 < x.length := by rw [hxx]; simp
  clear hname hxx
  have hsz := strOf_size x
  obtain ⟨cap, hc1, hc2, kc⟩ := conv_bytes w (strOf x) (by rw [strOf_size]; unfold maxLen; omega)
  have hrow := bytes_row hx w cap (by rw [<- strOf_size]; exact hc1) hc2
  have hget := strOf_get8 hx
  rw [strOf_size] at kc
  obtain ⟨S, hS⟩ : ∃ S, S = strOf x := ⟨_, rfl⟩
  rw [<- hS] at hsz hget hrow kc ⊢
  have HROW := hh9 (all_name hx hrow)
  obtain ⟨n, hn⟩ : ∃ n, n = x.length := ⟨_, rfl⟩
  rw [<- hn] at hsz hl hpos kc HROW ⊢
  have hlist : S.toList.isEmpty = false := str_some4 (by omega)
  have HSZ := hh9 hsz
  have hsm : S.size <= 9223372036854775807 := by omega
  have hpos2 : 0 < S.size := by omega
  have hfirst : ((S[0].toNat : Nat) : Int) = a := by
   have := hget 0 hpos2
   rw [h0] at this
   exact (Option.some.inj this).symm
  have HFIRST := hh9 hfirst
  have HB : Hid (Below w.heap.size w (w.drew.alloc (.cells (bytesRow S cap) 5 ((bytesRow S cap).size, (bytesRow S cap).size + 1)))) := (below_drawn (Below.refl w.heap.size w) 1).alloc (Nat.le_refl _) _
  clear hx hS hn hget h0 hfirst hrow hc1 hc2
  by_cases h40 : n <= 40
  ·have q1 : decide (n <= 40) = true := decide_eq_true h40
   rw [q1]
   have hs40 : S.size <= 40 := by have := HSZ.out; omega
   have HSM := hh9 (fun W => small_any a ha.1 ha.2 W)
   cases hsm0 : smB a
   ·rw [hsm0] at HSM
    clear q1 hsm0
    go_enter Tryz.func80, Tryz.ntmps80
    go_wp2_with fail
    rw [HFIRST.out]
    refine (HSM.out _).mono ?_
    rintro e w' ⟨rfl, rfl⟩
    go_wp2_with fail
    go_ret
    exact ⟨rfl, Below.refl _ _⟩
   ·rw [hsm0] at HSM
    clear q1 hsm0
    go_enter Tryz.func80, Tryz.ntmps80
    go_wp2_with fail
    rw [HFIRST.out]
    refine (HSM.out _).mono ?_
    rintro e w' ⟨rfl, rfl⟩
    go_wp2_with fail
    refine HROW.out.mono ?_
    rintro e w' ⟨rfl, hb⟩
    have HB2 := hh9 (below_then HB.out hb)
    clear hb
    go_wp2_with fail
    go_ret
    exact ⟨by simp, HB2.out⟩
  ·have q1 : decide (n <= 40) = false := decide_eq_false h40
   rw [q1]
   have hs40 : ¬ S.size <= 40 := by have := HSZ.out; omega
   clear q1
   go_enter Tryz.func80, Tryz.ntmps80
   go_wp2_with fail
   go_ret
   exact ⟨rfl, Below.refl _ _⟩
end Go.Proofs.YtpopgjgngbiofaaGreatDoor
namespace Go.Proofs.YtpopgjgngbiofaaGreatDoor
open Go.RowKit
theorem str_app4 (x y : List Int) : strOf x ++ strOf y = strOf (x ++ y) := by
 apply ByteArray.ext
 unfold strOf
 simp
theorem decF_len : ∀ f n, (decF f n).length <= f
 | 0, _ => by simp [decF]
 | f + 1, n => by
  unfold decF
  split
  ·simp
  ·have := decF_len f (n / 10)
   simp
   omega
end Go.Proofs.YtpopgjgngbiofaaGreatDoor
namespace Go.Proofs.YtpopgjgngbiofaaGreatDoor
open Go.RowKit
theorem cnt4_any (lo hi : Int) (w : World) : Calls Tryz.prog 148 #[.int .i64 lo, .int .i64 hi] w (SaysB (cntB lo hi) w) := by
 by_cases a : 0 <= lo
 ·by_cases b : lo <= 200
  ·by_cases c : hi = -1
   ·subst c
    have e : cntB lo (-1) = true := by unfold cntB; simp [a, b]
    rw [e]
    clear e
    go_enter Tryz.func148, Tryz.ntmps148
    go_wp2
    go_ret
    exact ⟨rfl, rfl⟩
   ·have qc : (hi == -1) = false := by simpa using c
    by_cases d : lo <= hi
    ·by_cases f : hi <= 200
     ·have e : cntB lo hi = true := by unfold cntB; simp [a, b, d, f]
      have qd : decide (lo <= hi) = true := decide_eq_true d
      have qf : decide (hi <= 200) = true := decide_eq_true f
      rw [e]
      clear e c
      go_enter Tryz.func148, Tryz.ntmps148
      go_wp2
      go_ret
      exact ⟨rfl, rfl⟩
     ·have e : cntB lo hi = false := by unfold cntB; simp [a, b, c, d, f]
      have qd : decide (lo <= hi) = true := decide_eq_true d
      have qf : decide (hi <= 200) = false := decide_eq_false f
      rw [e]
      clear e c
      go_enter Tryz.func148, Tryz.ntmps148
      go_wp2
      go_ret
      exact ⟨rfl, rfl⟩
    ·have e : cntB lo hi = false := by unfold cntB; simp [a, b, c, d]
     have qd : decide (lo <= hi) = false := decide_eq_false d
     rw [e]
     clear e c
     go_enter Tryz.func148, Tryz.ntmps148
     go_wp2
     go_ret
     exact ⟨rfl, rfl⟩
  ·have e : cntB lo hi = false := by unfold cntB; simp [b]
   have qb : decide (lo <= 200) = false := decide_eq_false b
   rw [e]
   clear e
   go_enter Tryz.func148, Tryz.ntmps148
   go_wp2
   go_ret
   exact ⟨rfl, rfl⟩
 ·have e : cntB lo hi = false := by unfold cntB; simp [a]
  have qa : decide (0 <= lo) = false := decide_eq_false a
  rw [e]
  clear e
  go_enter Tryz.func148, Tryz.ntmps148
  go_wp2
  go_ret
  exact ⟨rfl, rfl⟩
end Go.Proofs.YtpopgjgngbiofaaGreatDoor
