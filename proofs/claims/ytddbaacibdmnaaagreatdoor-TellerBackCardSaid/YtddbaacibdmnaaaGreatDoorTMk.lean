/- The law's expressions by numbers. No condition. -/
import Derived.Test.YtddbaacibdmnaaaGreatDoorTPick
import Derived.Deep.AppendLies
import Derived.Deep.RegionLaw
import Derived.StillTailTactics
import Derived.Deep.CutRange
namespace Go.Proofs.YtddbaacibdmnaaaGreatDoor
open Go.RowKit
set_option linter.unusedVariables false
set_option linter.unusedSimpArgs false

def mkWords : List (List Int) := [[97], [98], [99], [119, 111, 114, 100], [120, 45, 49]]
def mkFolds : List (List Int) := [[], [97], [98, 32, 99], [120, 59], [105, 102]]
def mkNums : List Int := [0, 65, 10, 255, 1114111]

/-- Which expressions the law makes, at most so deep. -/
inductive Mk : Nat → Tree → Prop
  | ref {d : Nat} {x : List Int} : x ∈ mkWords → Mk d (.mk 4 x [] 0 0 [])
  | fold {d : Nat} {x : List Int} : x ∈ mkFolds → Mk d (.mk 5 x [] 0 0 [])
  | nums {d : Nat} {n : Int} {l : List Int} : n ∈ mkNums → l.length ≤ 1 → (∀ m ∈ l, 97 ≤ m ∧ m ≤ 100) → Mk d (.mk 6 [] (n :: l) 0 0 [])
  | span {d : Nat} {n m : Int} : 0 ≤ n → n ≤ m → m ≤ 300 → Mk d (.mk 7 [] [n, m] 0 0 [])
  | rep {d : Nat} {lo hi : Int} {t : Tree} : 0 ≤ lo → lo ≤ 2 → -1 ≤ hi → hi ≤ 3 → (0 ≤ hi → lo ≤ hi) → Mk d t → Mk (d + 1) (.mk 3 [] [] lo hi [t])
  | many {d : Nat} {k : Int} {l : List Tree} : k = 1 ∨ k = 2 → 2 ≤ l.length → l.length ≤ 3 → (∀ t ∈ l, Mk d t) → Mk (d + 1) (.mk k [] [] 0 0 l)

/-- An expression whose own two lists lie in blocks of their own, apart from what is in it. -/
inductive TopAt (W : World) (base : Nat) : XV → Tree → Prop
  | mk {k lo hi : Int} {x nums : List Int} {kids : List Tree} {ns ks : Value} : W.ownsRow base 3 1 ns nums.length (icells nums) → KidsAt W base ks kids → (ns = .slice none 0 0 ∨ ks = .slice none 0 0) → TopAt W base ⟨k, strOf x, ns, lo, hi, ks⟩ (.mk k x nums lo hi kids)

theorem TopAt.tree {W : World} {base : Nat} {X : XV} {t : Tree} (h : TopAt W base X t) : TreeAt W (fun b => base ≤ b) X t := by
  cases h with
  | mk h1 h2 _ =>
    obtain ⟨vs, g1, g2, g3⟩ := h2
    exact .mk vs (RowIn.of_row h1 (fun b hb => hb)) (RowIn.of_row g2 (fun b hb => hb)) g1 (fun i y t hy ht => (g3 i y t hy ht).weak (fun b hP _ => hP.1))
theorem owns_nil (W : World) (base : Nat) (e : TypeId) : W.ownsRow base e 1 (.slice none 0 0) 0 [] := World.ownsRow_nil _ _ _ _
theorem KidsAt.nil (W : World) (base : Nat) : KidsAt W base (.slice none 0 0) [] := ⟨[], rfl, World.ownsRow_nil _ _ _ _, fun i y t h => by simp at h⟩
theorem owns_row_kept {W W' : World} {base size n : Nat} {e : TypeId} {v : Value} {xs : List Value} (h : W.ownsRow base e size v n xs) (hk : ∀ b, base ≤ b → b < W.heap.size → W'.heap[b]? = W.heap[b]?) : W'.ownsRow base e size v n xs := by
  refine ⟨h.1, ?_⟩
  rcases h.2 with hn | ⟨g, cap, cur, hv, hb, hg, rest⟩
  · exact .inl hn
  · exact .inr ⟨g, cap, cur, hv, hb, (hk g hb (Array.getElem?_eq_some_iff.1 hg).1).trans hg, rest⟩
theorem TopAt.kept {W W' : World} {base : Nat} {X : XV} {t : Tree} (h : TopAt W base X t) (hk : ∀ b, base ≤ b → b < W.heap.size → W'.heap[b]? = W.heap[b]?) (hs : W.heap.size ≤ W'.heap.size) : TopAt W' base X t := by
  cases h with
  | mk h1 h2 h3 => exact .mk (owns_row_kept h1 hk) (h2.kept hk hs) h3
theorem TopAt.set_row {W : World} {base g : Nat} {X : XV} {t : Tree} (h : TopAt W base X t) (hg : g < base) (cs : Array Value) : TopAt (W.setRow g cs) base X t :=
  h.kept (fun b hb _ => setRow_other _ _ _ _ (by omega)) (by simp [World.setRow])
theorem TopAt.leaf (W : World) (base : Nat) (k lo hi : Int) (x : List Int) : TopAt W base ⟨k, strOf x, .slice none 0 0, lo, hi, .slice none 0 0⟩ (.mk k x [] lo hi []) :=
  .mk (nums := []) (kids := []) (owns_nil W base _) (KidsAt.nil W base) (.inl rfl)

/-- The call returns such an expression. -/
def MakesX (R : Nat) (v : Value) (zs : List Int) (a c d : Nat) (w : World) (e : Ending) (w' : World) : Prop :=
  ∃ (X : XV) (t : Tree) (a' : Nat), TopAt w' (w.heap.size + 1) X t ∧ Mk d t ∧ e = .returned X.val ∧ a' ≤ a + c ∧ PickAt w' R v zs a' ∧ w.grownBy w' (some R)

/-- What holds behind the store into the result's block. -/
theorem makes_end {R a a' c d : Nat} {v : Value} {zs : List Int} {w W : World} {X : XV} {t : Tree} (ht : TopAt W (w.heap.size + 1) X t) (hm : Mk d t) (ha : a' ≤ a + c) (hp : PickAt W R v zs a') (hg : w.grownBy W (some R)) (hR : R < w.heap.size) :
    MakesX R v zs a c d w (.returned X.val) (W.setRow w.heap.size X.arr) :=
  ⟨X, t, a', ht.set_row (by omega) _, hm, rfl, ha, hp.set_row hR _, grown_row hg (Nat.le_refl _) _⟩

def mkCost : Nat → Nat
  | 0 => 4
  | d + 1 => 5 + 3 * mkCost d
def AskX (d : Nat) : Prop := ∀ {R a : Nat} {v : Value} {zs : List Int} {w : World} (D : Int), D = d → PickAt w R v zs a → a + mkCost d ≤ 1000000 →
  Calls Tryz.prog 12 #[.pointer (some ⟨R, 0, none⟩), .int .i64 D] w (MakesX R v zs a (mkCost d) d w)

theorem AskX.use {d : Nat} (h : AskX d) {R a : Nat} {v : Value} {zs : List Int} {w : World} (D : Int) (hD : D = d) (hp : PickAt w R v zs a) (hc : a + mkCost d ≤ 1000000) :
    Calls Tryz.prog 12 #[.pointer (some ⟨R, 0, none⟩), .int .i64 D] w (MakesX R v zs a (mkCost d) d w) := h D hD hp hc
/-- The same, the fields by name. -/
def MakesA (R : Nat) (v : Value) (zs : List Int) (a c d : Nat) (w : World) (e : Ending) (w' : World) : Prop :=
  ∃ (k lo hi : Int) (s : ByteArray) (b1 b2 : Option Addr) (n1 c1 n2 c2 : Nat) (t : Tree) (a' : Nat), TreeAt w' (fun b => w.heap.size + 1 ≤ b) ⟨k, s, .slice b1 n1 c1, lo, hi, .slice b2 n2 c2⟩ t ∧ Mk d t ∧
    e = .returned (.agg #[.int .i64 k, .string s, .slice b1 n1 c1, .int .i64 lo, .int .i64 hi, .slice b2 n2 c2]) ∧ a' ≤ a + c ∧ PickAt w' R v zs a' ∧ w.grownBy w' (some R)
theorem slice_of {W : World} {P : Nat → Prop} {v : Value} {n : Nat} {xs : List Value} (h : RowIn W P v n xs) : ∃ a n c, v = .slice a n c := by
  rcases h with ⟨rfl, _⟩ | ⟨g, cap, rfl, _⟩ <;> exact ⟨_, _, _, rfl⟩
theorem AskX.fields {d : Nat} (h : AskX d) {R a : Nat} {v : Value} {zs : List Int} {w : World} (D : Int) (hD : D = d) (hp : PickAt w R v zs a) (hc : a + mkCost d ≤ 1000000) :
    Calls Tryz.prog 12 #[.pointer (some ⟨R, 0, none⟩), .int .i64 D] w (MakesA R v zs a (mkCost d) d w) := by
  refine (h D hD hp hc).mono ?_
  rintro e w' ⟨X, t, a', ht, hm, rfl, ha, hp, hg⟩
  have ht := ht.tree
  obtain ⟨k, s, ns, lo, hi, ks⟩ := X
  obtain ⟨b1, n1, c1, rfl⟩ : ∃ a n c, ns = .slice a n c := by
    cases ht with
    | mk vs h1 h2 h3 h4 => exact slice_of h1
  obtain ⟨b2, n2, c2, rfl⟩ : ∃ a n c, ks = .slice a n c := by
    cases ht with
    | mk vs h1 h2 h3 h4 => exact slice_of h2
  exact ⟨k, lo, hi, s, b1, b2, n1, c1, n2, c2, t, a', ht, hm, rfl, ha, hp, hg⟩
theorem cell_grown {W W' : World} {R g j : Nat} {u : Value} (h : W.cell? ⟨g, j, none⟩ = some u) (hg : W.grownBy W' (some R)) (hl : g < W.heap.size) (hne : g ≠ R) : W'.cell? ⟨g, j, none⟩ = some u := by
  rw [World.cell?_of_block (w := W) (hg.block g hl (fun e => hne (Option.some.inj e)))]
  exact h
theorem pick_cell (W : World) (cs : Array Value) (t : TypeId) (j : Nat) {u : Value} (h : cs[j]? = some u) : (W.alloc (.cells cs t)).cell? ⟨W.heap.size, j, none⟩ = some u := by
  have := heap_alloc_new W (.cells cs t)
  simp only [World.cell?, this]
  exact h
theorem word_at (j : Nat) (hj : j < 5) : ∃ x ∈ mkWords, (#[.string ⟨#[97]⟩, .string ⟨#[98]⟩, .string ⟨#[99]⟩, .string ⟨#[119, 111, 114, 100]⟩, .string ⟨#[120, 45, 49]⟩] : Array Value)[j]? = some (.string (strOf x)) := by
  match j, hj with
  | 0, _ => exact ⟨[97], by simp [mkWords], rfl⟩
  | 1, _ => exact ⟨[98], by simp [mkWords], rfl⟩
  | 2, _ => exact ⟨[99], by simp [mkWords], rfl⟩
  | 3, _ => exact ⟨[119, 111, 114, 100], by simp [mkWords], rfl⟩
  | 4, _ => exact ⟨[120, 45, 49], by simp [mkWords], rfl⟩
theorem fold_at (j : Nat) (hj : j < 5) : ∃ x ∈ mkFolds, (#[.string ⟨#[]⟩, .string ⟨#[97]⟩, .string ⟨#[98, 32, 99]⟩, .string ⟨#[120, 59]⟩, .string ⟨#[105, 102]⟩] : Array Value)[j]? = some (.string (strOf x)) := by
  match j, hj with
  | 0, _ => exact ⟨[], by simp [mkFolds], rfl⟩
  | 1, _ => exact ⟨[97], by simp [mkFolds], rfl⟩
  | 2, _ => exact ⟨[98, 32, 99], by simp [mkFolds], rfl⟩
  | 3, _ => exact ⟨[120, 59], by simp [mkFolds], rfl⟩
  | 4, _ => exact ⟨[105, 102], by simp [mkFolds], rfl⟩
theorem num_at (j : Nat) (hj : j < 5) : ∃ n ∈ mkNums, (#[.int .i64 0, .int .i64 65, .int .i64 10, .int .i64 255, .int .i64 1114111] : Array Value)[j]? = some (.int .i64 n) := by
  match j, hj with
  | 0, _ => exact ⟨0, by simp [mkNums], rfl⟩
  | 1, _ => exact ⟨65, by simp [mkNums], rfl⟩
  | 2, _ => exact ⟨10, by simp [mkNums], rfl⟩
  | 3, _ => exact ⟨255, by simp [mkNums], rfl⟩
  | 4, _ => exact ⟨1114111, by simp [mkNums], rfl⟩
theorem wrap_in (n : Int) (h : -9223372036854775808 ≤ n ∧ n ≤ 9223372036854775807) : IntKind.i64.wrap n = n := by
  simp [IntKind.wrap, IntKind.signed, IntKind.bits]
  omega
theorem heap_top (W : World) (o : Obj) (b : Nat) (h : b = W.heap.size) : (W.alloc o).heap[b]? = some o := by subst h; exact heap_alloc_new W o
def ZeroAt (W : World) (g : Nat) : Prop := W.heap[g]? = some (.cells zeroX 36 (0, 0))
theorem ZeroAt.grown {W W' : World} {g R : Nat} (h : ZeroAt W g) (hg : W.grownBy W' (some R)) (hne : g ≠ R) : ZeroAt W' g := (hg.block g (Array.getElem?_eq_some_iff.1 h).1 (fun e => hne (Option.some.inj e))).trans h
theorem ZeroAt.lt {W : World} {g : Nat} (h : ZeroAt W g) : g < W.heap.size := (Array.getElem?_eq_some_iff.1 h).1
theorem ZeroAt.alloc {W : World} {g : Nat} (h : ZeroAt W g) (o : Obj) : ZeroAt (W.alloc o) g := (Below.heap_alloc W o g h.lt).trans h
theorem ZeroAt.res {W : World} {g : Nat} (h : ZeroAt W g) : Res0 W g := ⟨_, rfl, h⟩
theorem ZeroAt.cells {W : World} {g : Nat} (h : ZeroAt W g) : W.cell? ⟨g, 0, none⟩ = some (.int .i64 0) ∧ W.cell? ⟨g, 1, none⟩ = some (.string ⟨#[]⟩) ∧ W.cell? ⟨g, 2, none⟩ = some (.slice none 0 0) ∧ W.cell? ⟨g, 3, none⟩ = some (.int .i64 0) ∧ W.cell? ⟨g, 4, none⟩ = some (.int .i64 0) ∧ W.cell? ⟨g, 5, none⟩ = some (.slice none 0 0) ∧
    W.frozen? ⟨g, 0, none⟩ = false ∧ W.frozen? ⟨g, 1, none⟩ = false ∧ W.frozen? ⟨g, 2, none⟩ = false ∧ W.frozen? ⟨g, 3, none⟩ = false ∧ W.frozen? ⟨g, 4, none⟩ = false ∧ W.frozen? ⟨g, 5, none⟩ = false := by
  unfold ZeroAt zeroX at h
  simp [World.cell?, World.frozen?, h]
/-- Six stores, one behind another, are a whole row. -/
theorem set_six {W : World} {g : Nat} (h : ZeroAt W g) (c0 c1 c2 c3 c4 c5 : Value) :
    (((((W.setCell ⟨g, 0, none⟩ c0).setCell ⟨g, 1, none⟩ c1).setCell ⟨g, 2, none⟩ c2).setCell ⟨g, 3, none⟩ c3).setCell ⟨g, 4, none⟩ c4).setCell ⟨g, 5, none⟩ c5 = W.setRow g #[c0, c1, c2, c3, c4, c5] := by
  rw [setCell_eq_setRow W g 0 _ _ _ c0 h]
  rw [setCell_eq_setRow _ g 1 _ _ _ c1 (setRow_heap _ _ _ _ _ _ h), setRow_setRow]
  rw [setCell_eq_setRow _ g 2 _ _ _ c2 (setRow_heap _ _ _ _ _ _ h), setRow_setRow]
  rw [setCell_eq_setRow _ g 3 _ _ _ c3 (setRow_heap _ _ _ _ _ _ h), setRow_setRow]
  rw [setCell_eq_setRow _ g 4 _ _ _ c4 (setRow_heap _ _ _ _ _ _ h), setRow_setRow]
  rw [setCell_eq_setRow _ g 5 _ _ _ c5 (setRow_heap _ _ _ _ _ _ h), setRow_setRow]
  rfl

/-- One number or two, at the head of a block of two. -/
theorem owns_two {W : World} {base g m2 : Nat} {n m : Int} (hB : W.heap[g]? = some (.cells #[.int .i64 n, .int .i64 m] 3 (0, 0))) (hb : base ≤ g) (hm2 : m2 < 2) :
    ∃ l : List Int, l.length ≤ 1 ∧ (∀ x ∈ l, x = m) ∧ W.ownsRow base 3 1 (.slice (some ⟨g, 0, none⟩) (m2 + 1) 2) (n :: l).length (icells (n :: l)) := by
  match m2, hm2 with
  | 0, _ => exact ⟨[], by simp, by simp, rfl, .inr ⟨g, 2, _, rfl, hb, hB, by simp, by unfold maxLen; omega, rfl, rfl⟩⟩
  | 1, _ => exact ⟨[m], by simp, by simp, rfl, .inr ⟨g, 2, _, rfl, hb, hB, by simp, by unfold maxLen; omega, rfl, rfl⟩⟩
theorem nums_end {R a c d g m1 m2 : Nat} {n : Int} {v : Value} {zs : List Int} {w W : World} (hn : n ∈ mkNums) (hB : W.heap[g]? = some (.cells #[.int .i64 n, .int .i64 (97 + (m1 : Int))] 3 (0, 0))) (hb : w.heap.size + 1 ≤ g) (hm1 : m1 < 4) (hm2 : m2 < 2)
    (hc : 4 ≤ c) (hp : PickAt W R v zs (a + 1 + 1 + 1 + 1)) (hg : w.grownBy W (some R)) (hR : R < w.heap.size) :
    MakesX R v zs a c d w (.returned (XV.val ⟨6, ⟨#[]⟩, .slice (some ⟨g, 0, none⟩) (m2 + 1) 2, 0, 0, .slice none 0 0⟩)) (W.setRow w.heap.size (XV.arr ⟨6, ⟨#[]⟩, .slice (some ⟨g, 0, none⟩) (m2 + 1) 2, 0, 0, .slice none 0 0⟩)) := by
  obtain ⟨l, h1, h2, h3⟩ := owns_two (base := w.heap.size + 1) hB hb hm2
  exact makes_end (t := .mk 6 [] (n :: l) 0 0 []) (TopAt.mk (x := []) (kids := []) h3 (KidsAt.nil _ _) (.inr rfl)) (.nums hn h1 (fun m hm => by have := h2 m hm; omega)) (a' := a + 1 + 1 + 1 + 1) (by omega) hp hg hR
theorem PickAt.drew {W : World} {R a : Nat} {v : Value} {zs : List Int} (h : PickAt W R v zs a) : PickAt W.drew R v zs a := h
theorem grown_drew1 {w W : World} {row : Option Nat} (h : w.grownBy W row) : w.grownBy W.drew row := ⟨h.os, h.tape, h.output, h.size, h.block⟩
/-- The expression in block E, as the loop fills its kids. -/
def EKs (W : World) (E : Nat) (kd : Int) (ks : Value) : Prop := W.heap[E]? = some (.cells #[.int .i64 kd, .string ⟨#[]⟩, .slice none 0 0, .int .i64 0, .int .i64 0, ks] 36 (0, 0))
theorem EKs.lt {W : World} {E : Nat} {kd : Int} {ks : Value} (h : EKs W E kd ks) : E < W.heap.size := (Array.getElem?_eq_some_iff.1 h).1
theorem EKs.five {W : World} {E : Nat} {kd : Int} {ks : Value} (h : EKs W E kd ks) : W.cell? ⟨E, 5, none⟩ = some ks ∧ W.frozen? ⟨E, 5, none⟩ = false := by
  unfold EKs at h
  simp [World.cell?, World.frozen?, h]
theorem EKs.set {W : World} {E : Nat} {kd : Int} {ks : Value} (h : EKs W E kd ks) (v : Value) : EKs (W.setCell ⟨E, 5, none⟩ v) E kd v := by
  unfold EKs at h ⊢
  unfold World.setCell
  simp only [Array.getElem?_modify, h]
  simp
theorem EKs.kept {W W' : World} {E : Nat} {kd : Int} {ks : Value} (h : EKs W E kd ks) (hk : W'.heap[E]? = W.heap[E]?) : EKs W' E kd ks := hk.trans h

def Many (R : Nat) (v : Value) (zs : List Int) (a : Nat) (w wr : World) (E : Nat) (kd : Int) (d tot i : Nat) (l : List Tree) (ks : Value) (a' : Nat) : Prop :=
  EKs wr E kd ks ∧ KidsAt wr (E + 1) ks l ∧ l.length + i = tot ∧ (∀ t ∈ l, Mk d t) ∧ PickAt wr R v zs a' ∧ a' ≤ a + 2 + l.length * mkCost d ∧ w.grownBy wr (some R) ∧ ZeroAt wr w.heap.size ∧ w.heap.size + 1 ≤ E

theorem own_ge {W : World} {base size n : Nat} {e : TypeId} {v : Value} {xs : List Value} (h : W.ownsRow base e size v n xs) {b : Nat} (hb : b < base) : some b ≠ v.ownBlock := by
  rcases row_forms h with ⟨rfl, _⟩ | ⟨g, cap, rfl⟩
  · simp [Value.ownBlock]
  · have := (row_base h).1
    intro e
    have := Option.some.inj e
    simp at this
    omega

/-- One more: called in wr, laid in a block of its own, appended, stored. -/
theorem Many.push {R : Nat} {v : Value} {zs : List Int} {a : Nat} {w wr w5 w6 : World} {E : Nat} {kd : Int} {d tot i : Nat} {l : List Tree} {ks ks' : Value} {a' a'' : Nat} {X : XV} {t : Tree} {vs : List XV}
    (h : Many R v zs a w wr E kd d tot (i + 1) l ks a') (hR : R < w.heap.size)
    (ht : TreeAt w5 (fun b => wr.heap.size + 1 ≤ b) X t) (hm : Mk d t) (ha : a'' ≤ a' + mkCost d) (hp : PickAt w5 R v zs a'') (hg : wr.grownBy w5 (some R))
    (h1 : vs.length = l.length) (h2 : wr.ownsRow (E + 1) 36 6 ks l.length (vs.flatMap XV.cells)) (h3 : ∀ (i : Nat) (y : XV) (t : Tree), vs[i]? = some y → l[i]? = some t → TreeAt wr (fun b => E + 1 ≤ b ∧ some b ≠ ks.ownBlock) y t)
    (hown : w6.ownsRow (E + 1) 36 6 ks' (l.length + 1) (vs.flatMap XV.cells ++ X.cells)) (hgr : (w5.alloc (.cells X.arr 36)).grownBy w6 ks.ownBlock) (hat : ks'.ownBlock = ks.ownBlock ∨ ∃ k, ks'.ownBlock = some k ∧ (w5.alloc (.cells X.arr 36)).heap.size ≤ k) :
    EKs w6 E kd ks ∧ Many R v zs a w (w6.setCell ⟨E, 5, none⟩ ks') E kd d tot i (l ++ [t]) ks' a'' := by
  obtain ⟨e1, e2, e3, e4, e5, e6, e7, e8, e9⟩ := h
  have hE := e1.lt
  have hs := hg.size
  have hz := e8.lt
  have keep : ∀ b, b ≤ E → b ≠ R → w6.heap[b]? = wr.heap[b]? := fun b hb hbR => by
    rw [hgr.block b (by simp; omega) (own_ge h2 (by omega)), Below.heap_alloc _ _ _ (by omega), hg.block b (by omega) (fun e => hbR (Option.some.inj e))]
  have keep5 : ∀ b, b ≤ E → w6.heap[b]? = w5.heap[b]? := fun b hb => by
    rw [hgr.block b (by simp; omega) (own_ge h2 (by omega)), Below.heap_alloc _ _ _ (by omega)]
  have k1 : EKs w6 E kd ks := e1.kept (keep E (Nat.le_refl _) (by omega))
  have hk : KidsAt (w5.alloc (.cells X.arr 36)) (E + 1) ks l := (e2.grown hg (by omega)).below ((Below.refl w5.heap.size w5).alloc (Nat.le_refl _) _)
  have hA : ∀ b, E + 1 ≤ b → b < wr.heap.size → (w5.alloc (.cells X.arr 36)).heap[b]? = wr.heap[b]? := fun b hb hl => by
    rw [Below.heap_alloc _ _ _ (by omega), hg.block b hl (fun e => by have := Option.some.inj e; omega)]
  have h2' := owns_row_kept h2 hA
  have h3' : ∀ (i : Nat) (y : XV) (t : Tree), vs[i]? = some y → l[i]? = some t → TreeAt (w5.alloc (.cells X.arr 36)) (fun b => E + 1 ≤ b ∧ some b ≠ ks.ownBlock) y t := fun i y t hy ht => (h3 i y t hy ht).kept (fun b hP hl => ⟨hA b hP.1 hl, hP⟩) (by simp; omega)
  have hX : TreeAt (w5.alloc (.cells X.arr 36)) (fun b => E + 1 ≤ b ∧ some b ≠ ks.ownBlock) X t := by
    refine (ht.weak (P' := fun b => E + 1 ≤ b ∧ some b ≠ ks.ownBlock) (fun b hP hl => ⟨by omega, fun e => ?_⟩)).under ((Below.refl w5.heap.size w5).alloc (Nat.le_refl _) _)
    rcases row_forms h2 with ⟨rfl, _⟩ | ⟨g, cap, rfl⟩
    · simp [Value.ownBlock] at e
    · have := (row_base h2).2.2.2
      have := Option.some.inj e
      simp at this
      omega
  have hk6 := KidsAt.push h1 h2' h3' hX hown hgr hat
  refine ⟨k1, k1.set ks', hk6.kept (fun b hb hl => Below.heap_setCell _ _ _ _ (by show b ≠ E; omega)) (by simp [World.setCell]), by simp; omega, ?_, ?_, ?_, ?_, ?_, e9⟩
  · intro u hu
    rw [List.mem_append] at hu
    rcases hu with hu | hu
    · exact e4 u hu
    · simp at hu; subst hu; exact hm
  · exact hp.kept (fun b hb => (Below.heap_setCell _ _ _ _ (by show b ≠ E; omega)).trans (keep5 b (by omega)))
  · rw [List.length_append]
    have : (l.length + [t].length) * mkCost d = l.length * mkCost d + mkCost d := by simp [Nat.add_mul]
    omega
  · refine ⟨hgr.os.trans (hg.os.trans e7.os), hgr.tape.trans (hg.tape.trans e7.tape), hgr.output.trans (hg.output.trans e7.output), ?_, fun b hb hne => ?_⟩
    · have := e7.size; have := hgr.size; simp [World.setCell] at this ⊢; omega
    · rw [Below.heap_setCell _ _ _ _ (by show b ≠ E; omega), keep b (by omega) (fun e => hne (by rw [e]))]
      exact e7.block b hb hne
  · exact (Below.heap_setCell _ _ _ _ (by show w.heap.size ≠ E; omega)).trans ((keep w.heap.size (by omega) (by omega)).trans e8)

theorem KidsAt.lower {W : World} {base base' : Nat} {v : Value} {l : List Tree} (h : KidsAt W base v l) (hb : base' ≤ base) : KidsAt W base' v l := by
  obtain ⟨vs, h1, h2, h3⟩ := h
  refine ⟨vs, h1, ⟨h2.1, ?_⟩, fun i y t hy ht => (h3 i y t hy ht).weak (fun b hP _ => ⟨by omega, hP.2⟩)⟩
  rcases h2.2 with hn | ⟨g, cap, cur, hv, hg, rest⟩
  · exact .inl hn
  · exact .inr ⟨g, cap, cur, hv, by omega, rest⟩

theorem grownBy_step {w W W' : World} {R : Nat} (hg : W.grownBy W' (some R)) (h : w.grownBy W (some R)) : w.grownBy W' (some R) := h.trans hg

set_option maxRecDepth 100000 in
set_option maxHeartbeats 4000000 in
theorem expr_zero : AskX 0 := by
  intro R a v zs w D hD h hc
  obtain rfl : D = 0 := by simpa using hD
  have hR := h.lt
  have HZ : Hid (ZeroAt (w.alloc (.cells #[.int .i64 0, .string ⟨#[]⟩, .slice none 0 0, .int .i64 0, .int .i64 0, .slice none 0 0] 36)) w.heap.size) := heap_alloc_new w _
  have HP := Lib.hid (h.alloc (.cells #[.int .i64 0, .string ⟨#[]⟩, .slice none 0 0, .int .i64 0, .int .i64 0, .slice none 0 0] 36))
  have HG := Lib.hid (World.grownBy_alloc w (.cells #[.int .i64 0, .string ⟨#[]⟩, .slice none 0 0, .int .i64 0, .int .i64 0, .slice none 0 0] 36) (some R))
  have hk := pickF_lt zs a (n := 12) (by omega)
  obtain ⟨k, hk0⟩ : ∃ k, k = pickF zs a 12 := ⟨_, rfl⟩
  rw [← hk0] at hk
  have HK := Lib.hid hk0
  obtain ⟨q, hq⟩ : ∃ q : Nat, (k : Int) % 5 = q := ⟨((k : Int) % 5).toNat, by omega⟩
  have hq5 : q < 5 := by omega
  have hc0 : 4 ≤ mkCost 0 := by decide
  clear h hD hk0
  obtain g | g | g | g : q < 2 ∨ q = 2 ∨ q = 3 ∨ q = 4 := by omega
  · have q2 : decide ((q : Int) < 2) = true := decide_eq_true (by omega)
    obtain ⟨x, hx, hcell⟩ := word_at (pickF zs (a + 1) 5) (by have := pickF_lt zs (a + 1) (n := 5) (by omega); omega)
    have HX := Lib.hid hx
    clear hx
    go_enter Tryz.func12, Tryz.ntmps12
    go_wp2_with fail
    refine (pick_any (n := 12) HP.out (by omega) (by omega)).mono ?_
    rintro e w1 ⟨rfl, hp, hg⟩
    rw [← HK.out]
    have HP1 := Lib.hid hp
    have hz1 : w.heap.size + 1 ≤ w1.heap.size := by have := hg.size; simp at this; omega
    have HG1 := Lib.hid (HG.out.trans hg)
    have HZ1 := Lib.hid (HZ.out.grown hg (by omega))
    clear hp hg HP HG HZ
    have HPC := Lib.hid (pick_cell w1 #[.string ⟨#[97]⟩, .string ⟨#[98]⟩, .string ⟨#[99]⟩, .string ⟨#[119, 111, 114, 100]⟩, .string ⟨#[120, 45, 49]⟩] 9 _ hcell)
    have hj := pickF_lt zs (a + 1) (n := 5) (by omega)
    go_wp2_with fail
    refine (pick_any (n := 5) (HP1.out.alloc _) (by omega) (by omega)).mono ?_
    rintro e w2 ⟨rfl, hp, hg⟩
    have hc2 := cell_grown HPC.out hg (by simp) (by omega)
    obtain ⟨j, hj0⟩ : ∃ j, j = pickF zs (a + 1) 5 := ⟨_, rfl⟩
    rw [← hj0] at hc2 hj ⊢
    have HP2 := Lib.hid hp
    have HG2 := Lib.hid ((grown_alloc HG1.out _).trans hg)
    have HR2 := Lib.hid ((HZ1.out.alloc _).grown hg (by omega)).res
    obtain ⟨s, hs⟩ : ∃ s, s = strOf x := ⟨_, rfl⟩
    rw [← hs] at hc2
    have HEND : Hid (MakesX R v zs a (mkCost (0)) (0) w (.returned (XV.val ⟨4, s, .slice none 0 0, 0, 0, .slice none 0 0⟩)) (w2.setRow w.heap.size (XV.arr ⟨4, s, .slice none 0 0, 0, 0, .slice none 0 0⟩))) := by
      rw [hs]
      exact makes_end (TopAt.leaf _ _ _ _ _ _) (.ref HX.out) (a' := a + 1 + 1) (by omega) HP2.out HG2.out hR
    clear hp hg HP1 HG1 HZ1 HPC hcell hj0 hs
    go_wp2_with (refine store_res rfl _ _ rfl w.heap.size ⟨4, s, .slice none 0 0, 0, 0, .slice none 0 0⟩ rfl rfl HR2.out rfl rfl ?_)
    exact bodyPost_ret_by (run_res rfl _ _ w.heap.size ⟨4, s, .slice none 0 0, 0, 0, .slice none 0 0⟩ rfl HR2.out) rfl HEND.out
  · subst g
    have hq3 : (k : Int) % 5 = 2 := by omega
    clear hq hq5
    obtain ⟨x, hx, hcell⟩ := fold_at (pickF zs (a + 1) 5) (by have := pickF_lt zs (a + 1) (n := 5) (by omega); omega)
    have HX := Lib.hid hx
    clear hx
    go_enter Tryz.func12, Tryz.ntmps12
    go_wp2_with fail
    refine (pick_any (n := 12) HP.out (by omega) (by omega)).mono ?_
    rintro e w1 ⟨rfl, hp, hg⟩
    rw [← HK.out]
    have HP1 := Lib.hid hp
    have hz1 : w.heap.size + 1 ≤ w1.heap.size := by have := hg.size; simp at this; omega
    have HG1 := Lib.hid (HG.out.trans hg)
    have HZ1 := Lib.hid (HZ.out.grown hg (by omega))
    clear hp hg HP HG HZ
    have HPC := Lib.hid (pick_cell w1 #[.string ⟨#[]⟩, .string ⟨#[97]⟩, .string ⟨#[98, 32, 99]⟩, .string ⟨#[120, 59]⟩, .string ⟨#[105, 102]⟩] 9 _ hcell)
    have hj := pickF_lt zs (a + 1) (n := 5) (by omega)
    go_wp2_with fail
    refine (pick_any (n := 5) (HP1.out.alloc _) (by omega) (by omega)).mono ?_
    rintro e w2 ⟨rfl, hp, hg⟩
    have hc2 := cell_grown HPC.out hg (by simp) (by omega)
    obtain ⟨j, hj0⟩ : ∃ j, j = pickF zs (a + 1) 5 := ⟨_, rfl⟩
    rw [← hj0] at hc2 hj ⊢
    have HP2 := Lib.hid hp
    have HG2 := Lib.hid ((grown_alloc HG1.out _).trans hg)
    have HR2 := Lib.hid ((HZ1.out.alloc _).grown hg (by omega)).res
    obtain ⟨s, hs⟩ : ∃ s, s = strOf x := ⟨_, rfl⟩
    rw [← hs] at hc2
    have HEND : Hid (MakesX R v zs a (mkCost (0)) (0) w (.returned (XV.val ⟨5, s, .slice none 0 0, 0, 0, .slice none 0 0⟩)) (w2.setRow w.heap.size (XV.arr ⟨5, s, .slice none 0 0, 0, 0, .slice none 0 0⟩))) := by
      rw [hs]
      exact makes_end (TopAt.leaf _ _ _ _ _ _) (.fold HX.out) (a' := a + 1 + 1) (by omega) HP2.out HG2.out hR
    clear hp hg HP1 HG1 HZ1 HPC hcell hj0 hs
    go_wp2_with (refine store_res rfl _ _ rfl w.heap.size ⟨5, s, .slice none 0 0, 0, 0, .slice none 0 0⟩ rfl rfl HR2.out rfl rfl ?_)
    exact bodyPost_ret_by (run_res rfl _ _ w.heap.size ⟨5, s, .slice none 0 0, 0, 0, .slice none 0 0⟩ rfl HR2.out) rfl HEND.out
  · subst g
    have hq3 : (k : Int) % 5 = 3 := by omega
    clear hq hq5
    obtain ⟨n, hn, hcell⟩ := num_at (pickF zs (a + 1) 5) (by have := pickF_lt zs (a + 1) (n := 5) (by omega); omega)
    have HN := Lib.hid hn
    clear hn
    have hj := pickF_lt zs (a + 1) (n := 5) (by omega)
    have hm1 := pickF_lt zs (a + 1 + 1) (n := 4) (by omega)
    have hm2 := pickF_lt zs (a + 1 + 1 + 1) (n := 2) (by omega)
    go_enter Tryz.func12, Tryz.ntmps12
    go_wp2_with fail
    refine (pick_any (n := 12) HP.out (by omega) (by omega)).mono ?_
    rintro e w1 ⟨rfl, hp, hg⟩
    rw [← HK.out]
    have HP1 := Lib.hid hp
    have hz1 : w.heap.size + 1 ≤ w1.heap.size := by have := hg.size; simp at this; omega
    have HG1 := Lib.hid (HG.out.trans hg)
    have HZ1 := Lib.hid (HZ.out.grown hg (by omega))
    clear hp hg HP HG HZ
    have HCW := Lib.hid (fun W => pick_cell W #[.int .i64 0, .int .i64 65, .int .i64 10, .int .i64 255, .int .i64 1114111] 3 _ hcell)
    clear hcell
    obtain ⟨j, hj0⟩ : ∃ j, j = pickF zs (a + 1) 5 := ⟨_, rfl⟩
    obtain ⟨m1, hm10⟩ : ∃ j, j = pickF zs (a + 1 + 1) 4 := ⟨_, rfl⟩
    obtain ⟨m2, hm20⟩ : ∃ j, j = pickF zs (a + 1 + 1 + 1) 2 := ⟨_, rfl⟩
    rw [← hj0] at hj HCW
    rw [← hm10] at hm1
    rw [← hm20] at hm2
    have hwr1 : IntKind.i64.wrap (97 + (m1 : Int)) = 97 + (m1 : Int) := wrap_in _ (by omega)
    have hs1 : 0 ≤ 1 + (m2 : Int) := by omega
    have hs2 : 1 + (m2 : Int) ≤ 2 := by omega
    have hs3 : (1 + (m2 : Int)).toNat = m2 + 1 := by omega
    have hwr2 : IntKind.i64.wrap (1 + (m2 : Int)) = 1 + (m2 : Int) := wrap_in _ (by omega)
    have HJ0 := Lib.hid hj0
    have HM1 := Lib.hid hm10
    have HM2 := Lib.hid hm20
    clear hj0 hm10 hm20
    go_wp2_with fail
    rw [hq3]
    go_cut [] from 37 to 51 (fun W => ∃ (X : XV) (W0 : World), ZeroAt W0 w.heap.size ∧ W = W0.setRow w.heap.size X.arr ∧ MakesX R v zs a (mkCost (0)) (0) w (.returned X.val) W)
    case rest =>
      obtain ⟨X, W0, hz, rfl, hM⟩ := hcut
      go_wp2_with fail
      exact bodyPost_ret_by (run_res rfl _ _ w.heap.size X rfl hz.res) rfl hM
    go_region_law (first
      | (go_simp; go_at_call 11; (with_reducible (refine (pick_any (W := w1.drew) (n := 5) (PickAt.drew HP1.out) (by omega) (by omega)).mono ?_)); rintro e w2 ⟨rfl, hp, hg⟩; have hz2 : w1.heap.size + 0 ≤ w2.heap.size := (by have hs := hg.size; (try simp at hs); omega); rw [← HJ0.out]; have HP2 := Lib.hid hp; have HG2 := Lib.hid (grownBy_step hg (grown_drew1 HG1.out)); have F2 := HCW.out w2; have HZ2 := Lib.hid (ZeroAt.grown (W := w1.drew) HZ1.out hg (by omega)); clear hp hg)
      | (go_simp; go_at_call 11; (with_reducible (refine (pick_any (W := (w1.alloc (.cells #[.int .i64 0, .int .i64 65, .int .i64 10, .int .i64 255, .int .i64 1114111] 3)).drew) (n := 5) (PickAt.drew (PickAt.alloc HP1.out _)) (by omega) (by omega)).mono ?_)); rintro e w2 ⟨rfl, hp, hg⟩; have hz2 : w1.heap.size + 1 ≤ w2.heap.size := (by have hs := hg.size; (try simp at hs); omega); rw [← HJ0.out]; have HP2 := Lib.hid hp; have HG2 := Lib.hid (grownBy_step hg (grown_drew1 (grown_alloc HG1.out _))); have F1 : w2.cell? ⟨w1.heap.size, j, none⟩ = some (.int .i64 n) := cell_grown (W := (w1.alloc (.cells #[.int .i64 0, .int .i64 65, .int .i64 10, .int .i64 255, .int .i64 1114111] 3)).drew) (HCW.out w1) hg (by simp) (by omega); have HZ2 := Lib.hid (ZeroAt.grown (W := (w1.alloc (.cells #[.int .i64 0, .int .i64 65, .int .i64 10, .int .i64 255, .int .i64 1114111] 3)).drew) (HZ1.out.alloc _) hg (by omega)); clear hp hg)
      | (go_simp; go_at_call 11; (with_reducible (refine (pick_any (W := w2) (n := 4) HP2.out (by omega) (by omega)).mono ?_)); rintro e w3 ⟨rfl, hp, hg⟩; have hz3 : w2.heap.size + 0 ≤ w3.heap.size := (by have hs := hg.size; (try simp at hs); omega); rw [← HM1.out]; have HP3 := Lib.hid hp; have HG3 := Lib.hid (grownBy_step hg HG2.out); have F3 := HCW.out w3; (try (have F4 := cell_grown F1 hg (by omega) (by omega))); have HZ3 := Lib.hid (ZeroAt.grown HZ2.out hg (by omega)); clear hp hg)
      | (go_simp; go_at_call 11; (with_reducible (refine (pick_any (W := w2.alloc (.cells #[.int .i64 0, .int .i64 65, .int .i64 10, .int .i64 255, .int .i64 1114111] 3)) (n := 4) (PickAt.alloc HP2.out _) (by omega) (by omega)).mono ?_)); rintro e w3 ⟨rfl, hp, hg⟩; have hz3 : w2.heap.size + 1 ≤ w3.heap.size := (by have hs := hg.size; (try simp at hs); omega); rw [← HM1.out]; have HP3 := Lib.hid hp; have HG3 := Lib.hid (grownBy_step hg (grown_alloc HG2.out _)); have F4 := cell_grown F2 hg (by simp) (by omega); have HZ3 := Lib.hid (ZeroAt.grown (HZ2.out.alloc _) hg (by omega)); clear hp hg)
      | (go_simp; go_at_call 11; (with_reducible (refine (pick_any (W := w3) (n := 2) HP3.out (by omega) (by omega)).mono ?_)); rintro e w4 ⟨rfl, hp, hg⟩; have hz4 : w3.heap.size + 0 ≤ w4.heap.size := (by have hs := hg.size; (try simp at hs); omega); rw [← HM2.out]; have HP4 := Lib.hid hp; have HG4 := Lib.hid (grownBy_step hg HG3.out); have F5 := HCW.out w4; (try (have F6 := cell_grown F4 hg (by omega) (by omega))); have HZ4 := Lib.hid (ZeroAt.grown HZ3.out hg (by omega)); obtain ⟨z0, z1, z2, z3, z4, z5, y0, y1, y2, y3, y4, y5⟩ := HZ4.out.cells; obtain ⟨t0, t1, t2, t3, t4, t5, x0, x1, x2, x3, x4, x5⟩ := (HZ4.out.alloc (.cells #[.int .i64 n, .int .i64 (97 + (m1 : Int))] 3)).cells; obtain ⟨p0, p1, p2, p3, p4, p5, r0, r1, r2, r3, r4, r5⟩ := ((HZ4.out.alloc (.cells #[.int .i64 0, .int .i64 65, .int .i64 10, .int .i64 255, .int .i64 1114111] 3)).alloc (.cells #[.int .i64 n, .int .i64 (97 + (m1 : Int))] 3)).cells; clear hp hg)
      | (go_simp; go_at_call 11; (with_reducible (refine (pick_any (W := w3.alloc (.cells #[.int .i64 0, .int .i64 65, .int .i64 10, .int .i64 255, .int .i64 1114111] 3)) (n := 2) (PickAt.alloc HP3.out _) (by omega) (by omega)).mono ?_)); rintro e w4 ⟨rfl, hp, hg⟩; have hz4 : w3.heap.size + 1 ≤ w4.heap.size := (by have hs := hg.size; (try simp at hs); omega); rw [← HM2.out]; have HP4 := Lib.hid hp; have HG4 := Lib.hid (grownBy_step hg (grown_alloc HG3.out _)); have F6 := cell_grown F3 hg (by simp) (by omega); have HZ4 := Lib.hid (ZeroAt.grown (ZeroAt.alloc HZ3.out _) hg (by omega)); obtain ⟨z0, z1, z2, z3, z4, z5, y0, y1, y2, y3, y4, y5⟩ := HZ4.out.cells; obtain ⟨t0, t1, t2, t3, t4, t5, x0, x1, x2, x3, x4, x5⟩ := (HZ4.out.alloc (.cells #[.int .i64 n, .int .i64 (97 + (m1 : Int))] 3)).cells; clear hp hg)
      | (go_simp; go_at_call 11; (with_reducible (refine (pick_any (W := w3.alloc (.cells #[.int .i64 n, .int .i64 (97 + (m1 : Int))] 3)) (n := 2) (PickAt.alloc HP3.out _) (by omega) (by omega)).mono ?_)); rintro e w4 ⟨rfl, hp, hg⟩; have hz4 : w3.heap.size + 1 ≤ w4.heap.size := (by have hs := hg.size; (try simp at hs); omega); rw [← HM2.out]; have HP4 := Lib.hid hp; have HG4 := Lib.hid (grownBy_step hg (grown_alloc HG3.out _)); have HBB := Lib.hid ((hg.block w3.heap.size (by simp) (fun e => by have := Option.some.inj e; have := HP3.out.lt; omega)).trans (heap_alloc_new w3 _)); have HZ4 := Lib.hid (ZeroAt.grown (ZeroAt.alloc HZ3.out _) hg (by omega)); obtain ⟨z0, z1, z2, z3, z4, z5, y0, y1, y2, y3, y4, y5⟩ := HZ4.out.cells; clear hp hg)
      | (go_simp; go_at_call 11; (with_reducible (refine (pick_any (W := (w3.alloc (.cells #[.int .i64 0, .int .i64 65, .int .i64 10, .int .i64 255, .int .i64 1114111] 3)).alloc (.cells #[.int .i64 n, .int .i64 (97 + (m1 : Int))] 3)) (n := 2) (PickAt.alloc (PickAt.alloc HP3.out _) _) (by omega) (by omega)).mono ?_)); rintro e w4 ⟨rfl, hp, hg⟩; have hz4 : w3.heap.size + 2 ≤ w4.heap.size := (by have hs := hg.size; (try simp at hs); omega); rw [← HM2.out]; have HP4 := Lib.hid hp; have HG4 := Lib.hid (grownBy_step hg (grown_alloc (grown_alloc HG3.out _) _)); have HBB := Lib.hid ((hg.block (w3.heap.size + 1) (by simp) (fun e => by have := Option.some.inj e; have := HP3.out.lt; omega)).trans (heap_top _ _ _ (by simp))); have HZ4 := Lib.hid (ZeroAt.grown (ZeroAt.alloc (ZeroAt.alloc HZ3.out _) _) hg (by omega)); obtain ⟨z0, z1, z2, z3, z4, z5, y0, y1, y2, y3, y4, y5⟩ := HZ4.out.cells; clear hp hg)
      | fail)
    all_goals first
      | (rw [set_six (W := (w4.alloc (.cells #[.int .i64 0, .int .i64 65, .int .i64 10, .int .i64 255, .int .i64 1114111] 3)).alloc (.cells #[.int .i64 n, .int .i64 (97 + (m1 : Int))] 3)) (ZeroAt.alloc (ZeroAt.alloc HZ4.out _) _)]; have HEND := Lib.hid (nums_end (a := a) (c := mkCost (0)) (d := 0) (m1 := m1) (m2 := m2) (w := w) (W := (w4.alloc (.cells #[.int .i64 0, .int .i64 65, .int .i64 10, .int .i64 255, .int .i64 1114111] 3)).alloc (.cells #[.int .i64 n, .int .i64 (97 + (m1 : Int))] 3)) (g := w4.heap.size + 1) HN.out (heap_top _ _ _ (by simp)) (by omega) (by omega) (by omega) (by omega) (PickAt.alloc (PickAt.alloc HP4.out _) _) (grown_alloc (grown_alloc HG4.out _) _) hR); (try clear z0 z1 z2 z3 z4 z5 y0 y1 y2 y3 y4 y5); (try clear t0 t1 t2 t3 t4 t5 x0 x1 x2 x3 x4 x5); (try clear p0 p1 p2 p3 p4 p5 r0 r1 r2 r3 r4 r5); (try clear F1); (try clear F2); (try clear F3); (try clear F4); (try clear F5); (try clear F6); go_wp2_with fail; go_meet; exact ⟨⟨6, ⟨#[]⟩, .slice (some ⟨w4.heap.size + 1, 0, none⟩) (m2 + 1) 2, 0, 0, .slice none 0 0⟩, _, (ZeroAt.alloc (ZeroAt.alloc HZ4.out _) _), rfl, HEND.out⟩)
      | (rw [set_six (W := w4.alloc (.cells #[.int .i64 n, .int .i64 (97 + (m1 : Int))] 3)) (ZeroAt.alloc HZ4.out _)]; have HEND := Lib.hid (nums_end (a := a) (c := mkCost (0)) (d := 0) (m1 := m1) (m2 := m2) (w := w) (W := w4.alloc (.cells #[.int .i64 n, .int .i64 (97 + (m1 : Int))] 3)) (g := w4.heap.size) HN.out (heap_top _ _ _ rfl) (by omega) (by omega) (by omega) (by omega) (PickAt.alloc HP4.out _) (grown_alloc HG4.out _) hR); (try clear z0 z1 z2 z3 z4 z5 y0 y1 y2 y3 y4 y5); (try clear t0 t1 t2 t3 t4 t5 x0 x1 x2 x3 x4 x5); (try clear p0 p1 p2 p3 p4 p5 r0 r1 r2 r3 r4 r5); (try clear F1); (try clear F2); (try clear F3); (try clear F4); (try clear F5); (try clear F6); go_wp2_with fail; go_meet; exact ⟨⟨6, ⟨#[]⟩, .slice (some ⟨w4.heap.size, 0, none⟩) (m2 + 1) 2, 0, 0, .slice none 0 0⟩, _, (ZeroAt.alloc HZ4.out _), rfl, HEND.out⟩)
      | (rw [set_six (W := w4) HZ4.out]; have HEND := Lib.hid (nums_end (a := a) (c := mkCost (0)) (d := 0) (m1 := m1) (m2 := m2) (w := w) (W := w4) (g := w3.heap.size + 1) HN.out HBB.out (by omega) (by omega) (by omega) (by omega) HP4.out HG4.out hR); (try clear z0 z1 z2 z3 z4 z5 y0 y1 y2 y3 y4 y5); (try clear t0 t1 t2 t3 t4 t5 x0 x1 x2 x3 x4 x5); (try clear p0 p1 p2 p3 p4 p5 r0 r1 r2 r3 r4 r5); (try clear F1); (try clear F2); (try clear F3); (try clear F4); (try clear F5); (try clear F6); go_wp2_with fail; go_meet; exact ⟨⟨6, ⟨#[]⟩, .slice (some ⟨w3.heap.size + 1, 0, none⟩) (m2 + 1) 2, 0, 0, .slice none 0 0⟩, _, HZ4.out, rfl, HEND.out⟩)
      | (rw [set_six (W := w4) HZ4.out]; have HEND := Lib.hid (nums_end (a := a) (c := mkCost (0)) (d := 0) (m1 := m1) (m2 := m2) (w := w) (W := w4) (g := w3.heap.size) HN.out HBB.out (by omega) (by omega) (by omega) (by omega) HP4.out HG4.out hR); (try clear z0 z1 z2 z3 z4 z5 y0 y1 y2 y3 y4 y5); (try clear t0 t1 t2 t3 t4 t5 x0 x1 x2 x3 x4 x5); (try clear p0 p1 p2 p3 p4 p5 r0 r1 r2 r3 r4 r5); (try clear F1); (try clear F2); (try clear F3); (try clear F4); (try clear F5); (try clear F6); go_wp2_with fail; go_meet; exact ⟨⟨6, ⟨#[]⟩, .slice (some ⟨w3.heap.size, 0, none⟩) (m2 + 1) 2, 0, 0, .slice none 0 0⟩, _, HZ4.out, rfl, HEND.out⟩)
      | fail
  · subst g
    have hq3 : (k : Int) % 5 = 4 := by omega
    clear hq hq5
    have hn1 := pickF_lt zs (a + 1) (n := 200) (by omega)
    have hn2 := pickF_lt zs (a + 1 + 1) (n := 60) (by omega)
    go_enter Tryz.func12, Tryz.ntmps12
    go_wp2_with fail
    refine (pick_any (n := 12) HP.out (by omega) (by omega)).mono ?_
    rintro e w1 ⟨rfl, hp, hg⟩
    rw [← HK.out]
    have HP1 := Lib.hid hp
    have hz1 : w.heap.size + 1 ≤ w1.heap.size := by have := hg.size; simp at this; omega
    have HG1 := Lib.hid (HG.out.trans hg)
    have HZ1 := Lib.hid (HZ.out.grown hg (by omega))
    clear hp hg HP HG HZ
    obtain ⟨n1, hn10⟩ : ∃ j, j = pickF zs (a + 1) 200 := ⟨_, rfl⟩
    obtain ⟨n2, hn20⟩ : ∃ j, j = pickF zs (a + 1 + 1) 60 := ⟨_, rfl⟩
    rw [← hn10] at hn1
    rw [← hn20] at hn2
    have HN1 := Lib.hid hn10
    have HN2 := Lib.hid hn20
    clear hn10 hn20
    go_wp2_with fail
    refine (pick_any (n := 200) HP1.out (by omega) (by omega)).mono ?_
    rintro e w2 ⟨rfl, hp, hg⟩
    rw [← HN1.out]
    have HP2 := Lib.hid hp
    have HG2 := Lib.hid (HG1.out.trans hg)
    have HZ2 := Lib.hid (HZ1.out.grown hg (by omega))
    have hz2 : w.heap.size + 1 ≤ w2.heap.size := by have := hg.size; omega
    clear hp hg HP1 HG1 HZ1
    go_wp2_with fail
    refine (pick_any (n := 60) HP2.out (by omega) (by omega)).mono ?_
    rintro e w3 ⟨rfl, hp, hg⟩
    rw [← HN2.out]
    have HP3 := Lib.hid (hp.alloc (.cells #[.int .i64 (n1 : Int), .int .i64 ((n1 : Int) + (n2 : Int))] 3))
    have HG3 := Lib.hid (grown_alloc (HG2.out.trans hg) (.cells #[.int .i64 (n1 : Int), .int .i64 ((n1 : Int) + (n2 : Int))] 3))
    have HZ3 := Lib.hid ((HZ2.out.grown hg (by omega)).alloc (.cells #[.int .i64 (n1 : Int), .int .i64 ((n1 : Int) + (n2 : Int))] 3))
    have hz3 : w.heap.size + 1 ≤ w3.heap.size := by have := hg.size; omega
    have HEND : Hid (MakesX R v zs a (mkCost (0)) (0) w (.returned (XV.val ⟨7, ⟨#[]⟩, .slice (some ⟨w3.heap.size, 0, none⟩) 2 2, 0, 0, .slice none 0 0⟩)) ((w3.alloc (.cells #[.int .i64 (n1 : Int), .int .i64 ((n1 : Int) + (n2 : Int))] 3)).setRow w.heap.size (XV.arr ⟨7, ⟨#[]⟩, .slice (some ⟨w3.heap.size, 0, none⟩) 2 2, 0, 0, .slice none 0 0⟩))) :=
      makes_end (TopAt.mk (x := []) (nums := [(n1 : Int), (n1 : Int) + (n2 : Int)]) (kids := []) (row_of_block (n := 2) hz3 (heap_top _ _ _ rfl) (by unfold maxLen; omega) rfl) (KidsAt.nil _ _) (.inr rfl)) (.span (by omega) (by omega) (by omega)) (a' := a + 1 + 1 + 1) (by omega) HP3.out HG3.out hR
    have HRR := Lib.hid HZ3.out.res
    clear hp hg HP2 HG2 HZ2 HP3 HG3 HZ3
    go_wp2_with (refine store_res rfl _ _ rfl w.heap.size ⟨7, ⟨#[]⟩, .slice (some ⟨w3.heap.size, 0, none⟩) 2 2, 0, 0, .slice none 0 0⟩ rfl rfl HRR.out rfl rfl ?_)
    exact bodyPost_ret_by (run_res rfl _ _ w.heap.size ⟨7, ⟨#[]⟩, .slice (some ⟨w3.heap.size, 0, none⟩) 2 2, 0, 0, .slice none 0 0⟩ rfl HRR.out) rfl HEND.out

end Go.Proofs.YtddbaacibdmnaaaGreatDoor
