/- The law's rules by numbers: made by the program as the words say. No condition. -/
import Derived.Test.YtddbaacibdmnaaaGreatDoorTMadeA
import Derived.Deep.CutRange
namespace Go.Proofs.YtddbaacibdmnaaaGreatDoor
open Go.RowKit
set_option linter.unusedVariables false
set_option linter.unusedSimpArgs false

def LineZ (W : World) (g : Nat) : Prop := W.heap[g]? = some (.cells #[.string ⟨#[]⟩, .bool false, .int .i64 0, .string ⟨#[]⟩, .slice none 0 0, .int .i64 0, .int .i64 0, .slice none 0 0] 38 (0, 0))
theorem LineZ.lt {W : World} {g : Nat} (h : LineZ W g) : g < W.heap.size := (Array.getElem?_eq_some_iff.1 h).1
theorem LineZ.grown {W W' : World} {g R : Nat} (h : LineZ W g) (hg : W.grownBy W' (some R)) (hne : g ≠ R) : LineZ W' g := (hg.block g h.lt (fun e => hne (Option.some.inj e))).trans h
theorem LineZ.alloc {W : World} {g : Nat} (h : LineZ W g) (o : Obj) : LineZ (W.alloc o) g := (Below.heap_alloc W o g h.lt).trans h
theorem LineZ.new (W : World) {g : Nat} (h : g = W.heap.size) : LineZ (W.alloc (.cells #[.string ⟨#[]⟩, .bool false, .int .i64 0, .string ⟨#[]⟩, .slice none 0 0, .int .i64 0, .int .i64 0, .slice none 0 0] 38)) g := by subst h; exact heap_alloc_new W _
theorem LineZ.drew {W : World} {g : Nat} (h : LineZ W g) : LineZ W.drew g := h
set_option maxHeartbeats 4000000 in
theorem LineZ.cells {W : World} {g : Nat} (h : LineZ W g) : W.cell? ⟨g, 0, none⟩ = some (.string ⟨#[]⟩) ∧ W.cell? ⟨g, 1, none⟩ = some (.bool false) ∧ W.cell? ⟨g, 2, none⟩ = some (.int .i64 0) ∧ W.cell? ⟨g, 3, none⟩ = some (.string ⟨#[]⟩) ∧ W.cell? ⟨g, 4, none⟩ = some (.slice none 0 0) ∧ W.cell? ⟨g, 5, none⟩ = some (.int .i64 0) ∧ W.cell? ⟨g, 6, none⟩ = some (.int .i64 0) ∧ W.cell? ⟨g, 7, none⟩ = some (.slice none 0 0) ∧
    W.frozen? ⟨g, 0, none⟩ = false ∧ W.frozen? ⟨g, 1, none⟩ = false ∧ W.frozen? ⟨g, 2, none⟩ = false ∧ W.frozen? ⟨g, 3, none⟩ = false ∧ W.frozen? ⟨g, 4, none⟩ = false ∧ W.frozen? ⟨g, 5, none⟩ = false ∧ W.frozen? ⟨g, 6, none⟩ = false ∧ W.frozen? ⟨g, 7, none⟩ = false := by
  unfold LineZ at h
  simp [World.cell?, World.frozen?, h]
theorem set_eight {W : World} {g : Nat} (h : LineZ W g) (c0 c1 c2 c3 c4 c5 c6 c7 : Value) :
    (((((((W.setCell ⟨g, 0, none⟩ c0).setCell ⟨g, 1, none⟩ c1).setCell ⟨g, 2, none⟩ c2).setCell ⟨g, 3, none⟩ c3).setCell ⟨g, 4, none⟩ c4).setCell ⟨g, 5, none⟩ c5).setCell ⟨g, 6, none⟩ c6).setCell ⟨g, 7, none⟩ c7 = W.setRow g #[c0, c1, c2, c3, c4, c5, c6, c7] := by
  rw [setCell_eq_setRow W g 0 _ _ _ c0 h]
  rw [setCell_eq_setRow _ g 1 _ _ _ c1 (setRow_heap _ _ _ _ _ _ h), setRow_setRow]
  rw [setCell_eq_setRow _ g 2 _ _ _ c2 (setRow_heap _ _ _ _ _ _ h), setRow_setRow]
  rw [setCell_eq_setRow _ g 3 _ _ _ c3 (setRow_heap _ _ _ _ _ _ h), setRow_setRow]
  rw [setCell_eq_setRow _ g 4 _ _ _ c4 (setRow_heap _ _ _ _ _ _ h), setRow_setRow]
  rw [setCell_eq_setRow _ g 5 _ _ _ c5 (setRow_heap _ _ _ _ _ _ h), setRow_setRow]
  rw [setCell_eq_setRow _ g 6 _ _ _ c6 (setRow_heap _ _ _ _ _ _ h), setRow_setRow]
  rw [setCell_eq_setRow _ g 7 _ _ _ c7 (setRow_heap _ _ _ _ _ _ h), setRow_setRow]
  simp only [List.setIfInBounds_toArray, List.set_cons_zero, List.set_cons_succ]

/-- A rule whose expression is not there yet. -/
def LineN (W : World) (g : Nat) (s : ByteArray) (b : Bool) : Prop := W.heap[g]? = some (.cells #[.string s, .bool b, .int .i64 0, .string ⟨#[]⟩, .slice none 0 0, .int .i64 0, .int .i64 0, .slice none 0 0] 38 (0, 0))
theorem LineN.lt {W : World} {g : Nat} {s : ByteArray} {b : Bool} (h : LineN W g s b) : g < W.heap.size := (Array.getElem?_eq_some_iff.1 h).1
theorem LineN.grown {W W' : World} {g R : Nat} {s : ByteArray} {b : Bool} (h : LineN W g s b) (hg : W.grownBy W' (some R)) (hne : g ≠ R) : LineN W' g s b := (hg.block g h.lt (fun e => hne (Option.some.inj e))).trans h
set_option maxHeartbeats 4000000 in
theorem LineN.cells {W : World} {g : Nat} {s : ByteArray} {b : Bool} (h : LineN W g s b) : W.cell? ⟨g, 2, none⟩ = some (.int .i64 0) ∧ W.cell? ⟨g, 3, none⟩ = some (.string ⟨#[]⟩) ∧ W.cell? ⟨g, 4, none⟩ = some (.slice none 0 0) ∧ W.cell? ⟨g, 5, none⟩ = some (.int .i64 0) ∧ W.cell? ⟨g, 6, none⟩ = some (.int .i64 0) ∧ W.cell? ⟨g, 7, none⟩ = some (.slice none 0 0) ∧
    W.frozen? ⟨g, 2, none⟩ = false ∧ W.frozen? ⟨g, 3, none⟩ = false ∧ W.frozen? ⟨g, 4, none⟩ = false ∧ W.frozen? ⟨g, 5, none⟩ = false ∧ W.frozen? ⟨g, 6, none⟩ = false ∧ W.frozen? ⟨g, 7, none⟩ = false := by
  unfold LineN at h
  simp [World.cell?, World.frozen?, h]
theorem set_rest {W : World} {g : Nat} {s : ByteArray} {b : Bool} (h : LineN W g s b) (c2 c3 c4 c5 c6 c7 : Value) :
    (((((W.setCell ⟨g, 2, none⟩ c2).setCell ⟨g, 3, none⟩ c3).setCell ⟨g, 4, none⟩ c4).setCell ⟨g, 5, none⟩ c5).setCell ⟨g, 6, none⟩ c6).setCell ⟨g, 7, none⟩ c7 = W.setRow g #[.string s, .bool b, c2, c3, c4, c5, c6, c7] := by
  rw [setCell_eq_setRow W g 2 _ _ _ c2 h]
  rw [setCell_eq_setRow _ g 3 _ _ _ c3 (setRow_heap _ _ _ _ _ _ h), setRow_setRow]
  rw [setCell_eq_setRow _ g 4 _ _ _ c4 (setRow_heap _ _ _ _ _ _ h), setRow_setRow]
  rw [setCell_eq_setRow _ g 5 _ _ _ c5 (setRow_heap _ _ _ _ _ _ h), setRow_setRow]
  rw [setCell_eq_setRow _ g 6 _ _ _ c6 (setRow_heap _ _ _ _ _ _ h), setRow_setRow]
  rw [setCell_eq_setRow _ g 7 _ _ _ c7 (setRow_heap _ _ _ _ _ _ h), setRow_setRow]
  rfl

/-- Behind the store of the name. -/
def Named (R : Nat) (v : Value) (zs : List Int) (a : Nat) (wr W : World) (s6 : Value) (g : Nat) (x : List Int) (b : Bool) : Prop :=
  s6 = .pointer (some ⟨g, 0, none⟩) ∧ x ∈ mkWords ∧ LineN W g (strOf x) b ∧ wr.heap.size ≤ g ∧ PickAt W R v zs a ∧ wr.grownBy W (some R)
theorem named_end {R : Nat} {v : Value} {zs : List Int} {a : Nat} {wr W : World} {g : Nat} {x : List Int} {s : ByteArray} (b : Bool) (hz : LineZ W g) (hgl : wr.heap.size ≤ g) (hp : PickAt W R v zs a) (hg : wr.grownBy W (some R)) (hx : x ∈ mkWords) (hs : s = strOf x) (hR : R < wr.heap.size) :
    Named R v zs a wr (W.setRow g #[.string s, .bool b, .int .i64 0, .string ⟨#[]⟩, .slice none 0 0, .int .i64 0, .int .i64 0, .slice none 0 0]) (.pointer (some ⟨g, 0, none⟩)) g x b := by
  subst hs
  exact ⟨rfl, hx, setRow_heap _ _ _ _ _ _ hz, hgl, hp.set_row (by omega) _, grown_row hg hgl _⟩
theorem named_dir {R : Nat} {v : Value} {zs : List Int} {a : Nat} {wr W : World} {g : Nat} {x : List Int} {s : ByteArray} {b : Bool} (hz : LineN W g s b) (hgl : wr.heap.size ≤ g) (hp : PickAt W R v zs a) (hg : wr.grownBy W (some R)) (hx : x ∈ mkWords) (hs : s = strOf x) :
    Named R v zs a wr W (.pointer (some ⟨g, 0, none⟩)) g x b := by
  subst hs
  exact ⟨rfl, hx, hz, hgl, hp, hg⟩

/-- The same as what a call makes, the fields by name. -/
def MakesT (R : Nat) (v : Value) (zs : List Int) (a c d : Nat) (w : World) (e : Ending) (w' : World) : Prop :=
  ∃ (k lo hi : Int) (s : ByteArray) (b1 b2 : Option Addr) (n1 c1 n2 c2 : Nat) (t : Tree) (a' : Nat), TopAt w' (w.heap.size + 1) ⟨k, s, .slice b1 n1 c1, lo, hi, .slice b2 n2 c2⟩ t ∧ Mk d t ∧
    e = .returned (.agg #[.int .i64 k, .string s, .slice b1 n1 c1, .int .i64 lo, .int .i64 hi, .slice b2 n2 c2]) ∧ a' ≤ a + c ∧ PickAt w' R v zs a' ∧ w.grownBy w' (some R)
theorem AskX.tops {d : Nat} (h : AskX d) {R a : Nat} {v : Value} {zs : List Int} {w : World} (D : Int) (hD : D = d) (hp : PickAt w R v zs a) (hc : a + mkCost d ≤ 1000000) :
    Calls Tryz.prog 12 #[.pointer (some ⟨R, 0, none⟩), .int .i64 D] w (MakesT R v zs a (mkCost d) d w) := by
  refine (h D hD hp hc).mono ?_
  rintro e w' ⟨X, t, a', ht, hm, rfl, ha, hp, hg⟩
  have ht2 := ht.tree
  obtain ⟨k, s, ns, lo, hi, ks⟩ := X
  obtain ⟨b1, n1, c1, rfl⟩ : ∃ a n c, ns = .slice a n c := by
    cases ht2 with
    | mk vs h1 h2 h3 h4 => exact slice_of h1
  obtain ⟨b2, n2, c2, rfl⟩ : ∃ a n c, ks = .slice a n c := by
    cases ht2 with
    | mk vs h1 h2 h3 h4 => exact slice_of h2
  exact ⟨k, lo, hi, s, b1, b2, n1, c1, n2, c2, t, a', ht, hm, rfl, ha, hp, hg⟩

/-- Behind the store of the expression. -/
def Filled (R : Nat) (v : Value) (zs : List Int) (a : Nat) (wr wc w5 W : World) (g : Nat) (s : ByteArray) (b : Bool) (X : XV) (t : Tree) (a' : Nat) : Prop :=
  W = w5.setRow g #[.string s, .bool b, .int .i64 X.kind, .string X.text, X.ns, .int .i64 X.lo, .int .i64 X.hi, X.ks] ∧ TopAt w5 (wc.heap.size + 1) X t ∧ Mk 3 t ∧ a' ≤ a + mkCost 3 ∧ PickAt w5 R v zs a' ∧ wc.grownBy w5 (some R) ∧ LineN w5 g s b

theorem infoL2 : (Tryz.prog.info? 38).map (fun i => (i.zero, i.size, i.bytes)) = some (some (.agg #[.string ⟨#[]⟩, .bool false, .int .i64 0, .string ⟨#[]⟩, .slice none 0 0, .int .i64 0, .int .i64 0, .slice none 0 0]), 8, 112) := by kernel_rfl
theorem sizeL2 : (Tryz.prog.info? 38).map (·.size) = some 8 := by kernel_rfl
theorem load_line8 {ops : Array Oper} {rest : List Oper} {o : Oper} {a : Act} {w : World} {Q : Exit → Act → World → Prop} (hgd : o.guard = none) (x : Operand) (ho : o.op = .load 38 x)
    (g : Nat) (y : LV) (hx : a.eval x = .pointer (some ⟨g, 0, none⟩)) (hg : w.heap[g]? = some (.cells y.arr 38 (0, 0)))
    (h : wpList Tryz.prog ops Q rest (a.put o.dst y.val) w) : wpList Tryz.prog ops Q (o :: rest) a w :=
  wpList_load_row hgd 38 x ho g hx 38 y.arr (0, 0) _ hg Tryz.underlying38 rfl sizeL2 h
theorem fill_line2 (y : LV) (h1 : y.expr.ns.oneCell' = true) (h2 : y.expr.ks.oneCell' = true) :
    Instr.fill (fun i => some (i * 8, 8)) ((Array.range (1 * 8)).map ((Value.agg #[.string ⟨#[]⟩, .bool false, .int .i64 0, .string ⟨#[]⟩, .slice none 0 0, .int .i64 0, .int .i64 0, .slice none 0 0]).cells[· % 8]!)) [(0, y.val)] = some y.arr := by
  obtain ⟨a, b, c⟩ := y
  cases c
  kernel_rfl
theorem build_line2 {ops : Array Oper} {rest : List Oper} {o : Oper} {a : Act} {w : World} {Q : Exit → Act → World → Prop} (hgd : o.guard = none) (z : Operand) (ho : o.op = .buildSlice 24 1 #[(0, z)])
    (y : LV) (hy : a.eval z = y.val) (h1 : y.expr.ns.oneCell' = true) (h2 : y.expr.ks.oneCell' = true)
    (h : wpList Tryz.prog ops Q rest (a.put o.dst (.slice (some ⟨w.heap.size, 0, none⟩) 1 1)) (w.alloc (.cells y.arr 38))) : wpList Tryz.prog ops Q (o :: rest) a w := by
  obtain ⟨i0, hi0, hi1⟩ := Option.map_eq_some_iff.1 infoL2
  obtain ⟨hz0, hz1, hz2⟩ : i0.zero = some _ ∧ i0.size = 8 ∧ i0.bytes = _ := by simpa using hi1
  refine wpList_buildSlice hgd 24 38 1 #[(0, z)] ho y.arr i0 _ Tryz.underlying24 hi0 hz0 (by rw [hz1]; decide) (by rw [hz1]; decide) ?_ h
  rw [hz1]
  simp only [List.map_toArray, List.map_cons, List.map_nil, hy]
  exact fill_line2 y h1 h2
theorem cells_line2 {w : World} {g : Nat} {y : LV} (hb : w.heap[g]? = some (.cells y.arr 38 (0, 0))) : ∀ (j : Nat) (u : Value), y.cells[j]? = some u → w.cell? ((⟨g, 0, none⟩ : Addr).add j) = some u := by
  intro j u hj
  have e : (⟨g, 0, none⟩ : Addr).add j = ⟨g, j, none⟩ := by cases j <;> simp [Addr.add]
  rw [e]
  simp only [World.cell?, hb]
  have : y.arr.toList = y.cells := rfl
  rw [← this] at hj
  simpa using hj
set_option maxRecDepth 100000 in
theorem push_lt {ops : Array Oper} {rest : List Oper} {o : Oper} {a : Act} {w : World} {Q : Exit → Act → World → Prop} (hgd : o.guard = none) (sx xx : Operand)
    (ho : o.op = .call { callee := .builtin .append, args := #[sx, xx], argTypes := #[24, 24] }) (base : Nat) (v : Value) (n : Nat) (ys : List LV) (x : LV) (g : Nat)
    (hs : a.eval sx = v) (hx : a.eval xx = .slice (some ⟨g, 0, none⟩) 1 1) (h2 : w.ownsRow base 38 8 v n (ys.flatMap LV.cells))
    (hb : w.heap[g]? = some (.cells x.arr 38 (0, 0))) (o2 : x.expr.ns.oneCell' = true) (o5 : x.expr.ks.oneCell' = true) (hl : n ≤ 100000) (hbase : base ≤ w.heap.size)
    (h : ∀ v' w', w'.ownsRow base 38 8 v' (n + 1) (ys.flatMap LV.cells ++ x.cells) → w.grownBy w' v.ownBlock → (v'.ownBlock = v.ownBlock ∨ ∃ k, v'.ownBlock = some k ∧ w.heap.size ≤ k) → wpList Tryz.prog ops Q rest (a.put o.dst v') w') : wpList Tryz.prog ops Q (o :: rest) a w := by
  obtain ⟨i0, hi0, hi1⟩ := Option.map_eq_some_iff.1 infoL2
  obtain ⟨hz0, hz1, hz2⟩ : i0.zero = some _ ∧ i0.size = 8 ∧ i0.bytes = _ := by simpa using hi1
  refine wpList_append_own_at _ hgd sx xx 24 ho base 38 i0 _ 8 112 Tryz.underlying24 hi0 hz0 hz1 hz2 rfl (by decide) v n (ys.flatMap LV.cells) hs h2 ⟨g, 0, none⟩ 1 1 x.cells hx rfl (cells_line2 hb) ?_ (by unfold maxLen; omega) (by omega) hbase ?_
  · intro u hu
    simp [LV.cells] at hu
    rcases hu with rfl | rfl | rfl | rfl | rfl | rfl | rfl | rfl
    all_goals first | assumption | rfl
  · intro v' w' hown hgrow _ hat
    exact h v' w' hown hgrow (hat.imp id (fun e => ⟨_, e, Nat.le_refl _⟩))

theorem cell_alloc {W : World} {g j : Nat} {u : Value} (h : W.cell? ⟨g, j, none⟩ = some u) (o : Obj) : (W.alloc o).cell? ⟨g, j, none⟩ = some u := by
  have hl : g < W.heap.size := World.block_lt_of_cell? W ⟨g, j, none⟩ h
  rw [World.cell?_of_block (w := W) (Below.heap_alloc W o g hl)]
  exact h
theorem cell_alloc1 {W : World} {g j : Nat} {u : Value} (h : W.cell? ⟨g, j, none⟩ = some u) (o : Obj) : (W.alloc o).cell? ⟨g, j, none⟩ = some u := cell_alloc h o
theorem below_grown8 {w wr w' : World} {R : Nat} (hb : Below w.heap.size w wr) (hg : wr.grownBy w' (some R)) (hR : w.heap.size ≤ R) : Below w.heap.size w w' :=
  hb.trans ⟨hg.os, hg.tape, hg.output, hg.size, fun k hk => hg.block k (by have := hb.size; omega) (fun e => by have := Option.some.inj e; omega)⟩

/-- What the law's rules are. -/
def MadeL (l : List Rule) : Prop := ∀ r ∈ l, r.name ∈ mkWords ∧ Mk 3 r.expr
def InMade (w wr : World) (R : Nat) (v : Value) (zs : List Int) (v4 : Value) (n1 i : Nat) (l : List Rule) (ys : List LV) (a : Nat) : Prop :=
  LT wr (R + 1) v4 l ys ∧ l.length + i = 1 + n1 ∧ MadeL l ∧ PickAt wr R v zs a ∧ a ≤ 1 + l.length * 1000 ∧ Below w.heap.size w wr

def MakesL (w : World) (e : Ending) (w' : World) : Prop :=
  ∃ (v : Value) (l : List Rule) (ys : List LV), e = .returned v ∧ LT w' (w.heap.size + 1) v l ys ∧ 1 ≤ l.length ∧ l.length ≤ 5 ∧ MadeL l ∧ Below w.heap.size w w'

set_option maxRecDepth 100000 in
set_option maxHeartbeats 16000000 in
theorem made_any {v : Value} {zs : List Int} {w : World} (hv : BytesLow w w.heap.size v zs) : Calls Tryz.prog 5 #[v] w (MakesL w) := by
  obtain ⟨R, hR⟩ : ∃ R, R = w.heap.size := ⟨_, rfl⟩
  rw [← hR] at hv
  have HP : Hid (PickAt (w.alloc (.cells #[v, .int .i64 0] 43)) R v zs 0) := by
    refine ⟨?_, hv.kept (fun b hb => Below.heap_alloc _ _ _ (by omega))⟩
    rw [hR]
    exact heap_alloc_new w _
  have HB := Lib.hid ((Below.refl w.heap.size w).alloc (Nat.le_refl _) (.cells #[v, .int .i64 0] 43))
  have hn1 := pickF_lt zs 0 (n := 5) (by omega)
  obtain ⟨n1, hn10⟩ : ∃ j, j = pickF zs 0 5 := ⟨_, rfl⟩
  rw [← hn10] at hn1
  have HN1 := Lib.hid hn10
  have HRW := Lib.hid hR
  obtain ⟨p, cap, rfl, _⟩ := hv
  clear hn10
  go_enter Tryz.func5, Tryz.ntmps5
  go_wp2_with fail
  rw [← hR]
  refine (pick_any (n := 5) HP.out (by omega) (by omega)).mono ?_
  rintro e w1 ⟨rfl, hp, hg⟩
  rw [← HN1.out]
  have HM0 : Hid (InMade w w1 R (.slice p zs.length cap) zs (.slice none 0 0) n1 (1 + n1) [] [] (0 + 1)) := ⟨LT.nil _ _, by simp, fun r h => by simp at h, hp, by simp, below_grown8 HB.out hg (by omega)⟩
  clear hp hg HP HB hR
  go_wp2_with fail
  go_loopw [4, 5] (fun v4 v5 wr => ∃ (i : Nat) (l : List Rule) (ys : List LV) (a : Nat), v5 = .int .i64 i ∧ Hid (InMade w wr R (.slice p zs.length cap) zs v4 n1 i l ys a)) (fun _ v5 _ => (intOf v5).toNat)
  case atStart => exact ⟨1 + n1, [], [], _, by go_num, HM0⟩
  case round =>
    clear HM0
    obtain ⟨i, l, ys, a, rfl, HM⟩ := hrel
    have hli := HM.out.2.1
    have ha1 := HM.out.2.2.2.2.1
    by_cases hi : 0 < i
    · have q1 : decide ((0 : Int) < (i : Int)) = true := decide_eq_true (by omega)
      obtain ⟨x, hx, hcell⟩ := word_at (pickF zs a 5) (by have := pickF_lt zs a (n := 5) (by omega); omega)
      have HX := Lib.hid hx
      have hj := pickF_lt zs a (n := 5) (by omega)
      have hp2 := pickF_lt zs (a + 1) (n := 5) (by omega)
      obtain ⟨s, hs⟩ : ∃ s, s = strOf x := ⟨_, rfl⟩
      have HS := Lib.hid hs
      rw [← hs] at hcell
      obtain ⟨j, hj0⟩ : ∃ j, j = pickF zs a 5 := ⟨_, rfl⟩
      obtain ⟨p2, hp20⟩ : ∃ j, j = pickF zs (a + 1) 5 := ⟨_, rfl⟩
      rw [← hj0] at hj hcell
      rw [← hp20] at hp2
      have HCW : Hid (∀ (W : World) (g : Nat), g = W.heap.size → (W.alloc (.cells #[.string ⟨#[97]⟩, .string ⟨#[98]⟩, .string ⟨#[99]⟩, .string ⟨#[119, 111, 114, 100]⟩, .string ⟨#[120, 45, 49]⟩] 9)).cell? ⟨g, j, none⟩ = some (.string s)) := fun W g hg => by subst hg; exact pick_cell W _ _ _ hcell
      have HJ0 := Lib.hid hj0
      have HM1 := Lib.hid hp20
      have HP1 := Lib.hid HM.out.2.2.2.1
      have HG1 := Lib.hid (grown_refl wr (some R))
      have hRr : R < wr.heap.size := HP1.out.lt
      clear hx hs hj0 hp20 hcell
      go_wp2_with fail
      go_cut [6] from 17 to 25 (fun s6 W => ∃ (g : Nat) (x : List Int) (b : Bool), Named R (.slice p zs.length cap) zs (a + 1 + 1) wr W s6 g x b)
      case first =>
        go_region_law (first
          | (go_simp; go_at_call 11; (with_reducible (refine (pick_any (W := wr.drew) (n := 5) (PickAt.drew HP1.out) (by omega) (by omega)).mono ?_)); rintro e w2 ⟨rfl, hp, hg⟩; have hz2 : wr.heap.size + 0 ≤ w2.heap.size := (by have hs := hg.size; (try simp at hs); omega); rw [← HJ0.out]; have HP2 := Lib.hid hp; have HG2 := Lib.hid (grownBy_step hg (grown_drew1 HG1.out)); (try (have F1n := cell_alloc F1 (.cells #[.string ⟨#[]⟩, .bool false, .int .i64 0, .string ⟨#[]⟩, .slice none 0 0, .int .i64 0, .int .i64 0, .slice none 0 0] 38))); have F1a := HCW.out w2 (w2.heap.size) (by simp); have F1b := HCW.out (w2.alloc (.cells #[.string ⟨#[]⟩, .bool false, .int .i64 0, .string ⟨#[]⟩, .slice none 0 0, .int .i64 0, .int .i64 0, .slice none 0 0] 38)) (w2.heap.size + 1) (by simp); have F1c := cell_alloc (HCW.out w2 (w2.heap.size) (by simp)) (.cells #[.string ⟨#[]⟩, .bool false, .int .i64 0, .string ⟨#[]⟩, .slice none 0 0, .int .i64 0, .int .i64 0, .slice none 0 0] 38); clear hp hg)
          | (go_simp; go_at_call 11; (with_reducible (refine (pick_any (W := (wr.alloc (.cells #[.string ⟨#[97]⟩, .string ⟨#[98]⟩, .string ⟨#[99]⟩, .string ⟨#[119, 111, 114, 100]⟩, .string ⟨#[120, 45, 49]⟩] 9)).drew) (n := 5) (PickAt.drew (PickAt.alloc HP1.out _)) (by omega) (by omega)).mono ?_)); rintro e w2 ⟨rfl, hp, hg⟩; have hz2 : wr.heap.size + 1 ≤ w2.heap.size := (by have hs := hg.size; (try simp at hs); omega); rw [← HJ0.out]; have HP2 := Lib.hid hp; have HG2 := Lib.hid (grownBy_step hg (grown_drew1 (grown_alloc HG1.out _))); have F1 : w2.cell? ⟨wr.heap.size, j, none⟩ = some (.string s) := cell_grown (W := (wr.alloc (.cells #[.string ⟨#[97]⟩, .string ⟨#[98]⟩, .string ⟨#[99]⟩, .string ⟨#[119, 111, 114, 100]⟩, .string ⟨#[120, 45, 49]⟩] 9)).drew) (HCW.out wr (wr.heap.size) (by simp)) hg (by simp <;> omega) (by omega); (try (have F1n := cell_alloc F1 (.cells #[.string ⟨#[]⟩, .bool false, .int .i64 0, .string ⟨#[]⟩, .slice none 0 0, .int .i64 0, .int .i64 0, .slice none 0 0] 38))); have F1a := HCW.out w2 (w2.heap.size) (by simp); have F1b := HCW.out (w2.alloc (.cells #[.string ⟨#[]⟩, .bool false, .int .i64 0, .string ⟨#[]⟩, .slice none 0 0, .int .i64 0, .int .i64 0, .slice none 0 0] 38)) (w2.heap.size + 1) (by simp); have F1c := cell_alloc (HCW.out w2 (w2.heap.size) (by simp)) (.cells #[.string ⟨#[]⟩, .bool false, .int .i64 0, .string ⟨#[]⟩, .slice none 0 0, .int .i64 0, .int .i64 0, .slice none 0 0] 38); clear hp hg)
          | (go_simp; go_at_call 11; (with_reducible (refine (pick_any (W := (wr.alloc (.cells #[.string ⟨#[]⟩, .bool false, .int .i64 0, .string ⟨#[]⟩, .slice none 0 0, .int .i64 0, .int .i64 0, .slice none 0 0] 38)).drew) (n := 5) (PickAt.drew (PickAt.alloc HP1.out _)) (by omega) (by omega)).mono ?_)); rintro e w2 ⟨rfl, hp, hg⟩; have hz2 : wr.heap.size + 1 ≤ w2.heap.size := (by have hs := hg.size; (try simp at hs); omega); rw [← HJ0.out]; have HP2 := Lib.hid hp; have HG2 := Lib.hid (grownBy_step hg (grown_drew1 (grown_alloc HG1.out _))); have HN2 : Hid (LineZ w2 (wr.heap.size)) := LineZ.grown (W := (wr.alloc (.cells #[.string ⟨#[]⟩, .bool false, .int .i64 0, .string ⟨#[]⟩, .slice none 0 0, .int .i64 0, .int .i64 0, .slice none 0 0] 38)).drew) (LineZ.drew (LineZ.new (g := wr.heap.size) wr (by simp))) hg (by (try simp) <;> omega); (try (have F1n := cell_alloc F1 (.cells #[.string ⟨#[]⟩, .bool false, .int .i64 0, .string ⟨#[]⟩, .slice none 0 0, .int .i64 0, .int .i64 0, .slice none 0 0] 38))); have F1a := HCW.out w2 (w2.heap.size) (by simp); have F1b := HCW.out (w2.alloc (.cells #[.string ⟨#[]⟩, .bool false, .int .i64 0, .string ⟨#[]⟩, .slice none 0 0, .int .i64 0, .int .i64 0, .slice none 0 0] 38)) (w2.heap.size + 1) (by simp); have F1c := cell_alloc (HCW.out w2 (w2.heap.size) (by simp)) (.cells #[.string ⟨#[]⟩, .bool false, .int .i64 0, .string ⟨#[]⟩, .slice none 0 0, .int .i64 0, .int .i64 0, .slice none 0 0] 38); clear hp hg)
          | (go_simp; go_at_call 11; (with_reducible (refine (pick_any (W := ((wr.alloc (.cells #[.string ⟨#[97]⟩, .string ⟨#[98]⟩, .string ⟨#[99]⟩, .string ⟨#[119, 111, 114, 100]⟩, .string ⟨#[120, 45, 49]⟩] 9)).alloc (.cells #[.string ⟨#[]⟩, .bool false, .int .i64 0, .string ⟨#[]⟩, .slice none 0 0, .int .i64 0, .int .i64 0, .slice none 0 0] 38)).drew) (n := 5) (PickAt.drew (PickAt.alloc (PickAt.alloc HP1.out _) _)) (by omega) (by omega)).mono ?_)); rintro e w2 ⟨rfl, hp, hg⟩; have hz2 : wr.heap.size + 2 ≤ w2.heap.size := (by have hs := hg.size; (try simp at hs); omega); rw [← HJ0.out]; have HP2 := Lib.hid hp; have HG2 := Lib.hid (grownBy_step hg (grown_drew1 (grown_alloc (grown_alloc HG1.out _) _))); have F1 : w2.cell? ⟨wr.heap.size, j, none⟩ = some (.string s) := cell_grown (W := ((wr.alloc (.cells #[.string ⟨#[97]⟩, .string ⟨#[98]⟩, .string ⟨#[99]⟩, .string ⟨#[119, 111, 114, 100]⟩, .string ⟨#[120, 45, 49]⟩] 9)).alloc (.cells #[.string ⟨#[]⟩, .bool false, .int .i64 0, .string ⟨#[]⟩, .slice none 0 0, .int .i64 0, .int .i64 0, .slice none 0 0] 38)).drew) ((cell_alloc (HCW.out wr (wr.heap.size) (by simp)) (.cells #[.string ⟨#[]⟩, .bool false, .int .i64 0, .string ⟨#[]⟩, .slice none 0 0, .int .i64 0, .int .i64 0, .slice none 0 0] 38))) hg (by simp <;> omega) (by omega); have HN2 : Hid (LineZ w2 (wr.heap.size + 1)) := LineZ.grown (W := ((wr.alloc (.cells #[.string ⟨#[97]⟩, .string ⟨#[98]⟩, .string ⟨#[99]⟩, .string ⟨#[119, 111, 114, 100]⟩, .string ⟨#[120, 45, 49]⟩] 9)).alloc (.cells #[.string ⟨#[]⟩, .bool false, .int .i64 0, .string ⟨#[]⟩, .slice none 0 0, .int .i64 0, .int .i64 0, .slice none 0 0] 38)).drew) (LineZ.drew (LineZ.new (g := wr.heap.size + 1) (wr.alloc (.cells #[.string ⟨#[97]⟩, .string ⟨#[98]⟩, .string ⟨#[99]⟩, .string ⟨#[119, 111, 114, 100]⟩, .string ⟨#[120, 45, 49]⟩] 9)) (by simp))) hg (by (try simp) <;> omega); (try (have F1n := cell_alloc F1 (.cells #[.string ⟨#[]⟩, .bool false, .int .i64 0, .string ⟨#[]⟩, .slice none 0 0, .int .i64 0, .int .i64 0, .slice none 0 0] 38))); have F1a := HCW.out w2 (w2.heap.size) (by simp); have F1b := HCW.out (w2.alloc (.cells #[.string ⟨#[]⟩, .bool false, .int .i64 0, .string ⟨#[]⟩, .slice none 0 0, .int .i64 0, .int .i64 0, .slice none 0 0] 38)) (w2.heap.size + 1) (by simp); have F1c := cell_alloc (HCW.out w2 (w2.heap.size) (by simp)) (.cells #[.string ⟨#[]⟩, .bool false, .int .i64 0, .string ⟨#[]⟩, .slice none 0 0, .int .i64 0, .int .i64 0, .slice none 0 0] 38); clear hp hg)
          | (go_simp; go_at_call 11; (with_reducible (refine (pick_any (W := ((wr.alloc (.cells #[.string ⟨#[]⟩, .bool false, .int .i64 0, .string ⟨#[]⟩, .slice none 0 0, .int .i64 0, .int .i64 0, .slice none 0 0] 38)).alloc (.cells #[.string ⟨#[97]⟩, .string ⟨#[98]⟩, .string ⟨#[99]⟩, .string ⟨#[119, 111, 114, 100]⟩, .string ⟨#[120, 45, 49]⟩] 9)).drew) (n := 5) (PickAt.drew (PickAt.alloc (PickAt.alloc HP1.out _) _)) (by omega) (by omega)).mono ?_)); rintro e w2 ⟨rfl, hp, hg⟩; have hz2 : wr.heap.size + 2 ≤ w2.heap.size := (by have hs := hg.size; (try simp at hs); omega); rw [← HJ0.out]; have HP2 := Lib.hid hp; have HG2 := Lib.hid (grownBy_step hg (grown_drew1 (grown_alloc (grown_alloc HG1.out _) _))); have F1 : w2.cell? ⟨wr.heap.size + 1, j, none⟩ = some (.string s) := cell_grown (W := ((wr.alloc (.cells #[.string ⟨#[]⟩, .bool false, .int .i64 0, .string ⟨#[]⟩, .slice none 0 0, .int .i64 0, .int .i64 0, .slice none 0 0] 38)).alloc (.cells #[.string ⟨#[97]⟩, .string ⟨#[98]⟩, .string ⟨#[99]⟩, .string ⟨#[119, 111, 114, 100]⟩, .string ⟨#[120, 45, 49]⟩] 9)).drew) (HCW.out (wr.alloc (.cells #[.string ⟨#[]⟩, .bool false, .int .i64 0, .string ⟨#[]⟩, .slice none 0 0, .int .i64 0, .int .i64 0, .slice none 0 0] 38)) (wr.heap.size + 1) (by simp)) hg (by simp <;> omega) (by omega); have HN2 : Hid (LineZ w2 (wr.heap.size)) := LineZ.grown (W := ((wr.alloc (.cells #[.string ⟨#[]⟩, .bool false, .int .i64 0, .string ⟨#[]⟩, .slice none 0 0, .int .i64 0, .int .i64 0, .slice none 0 0] 38)).alloc (.cells #[.string ⟨#[97]⟩, .string ⟨#[98]⟩, .string ⟨#[99]⟩, .string ⟨#[119, 111, 114, 100]⟩, .string ⟨#[120, 45, 49]⟩] 9)).drew) (LineZ.drew (LineZ.alloc (LineZ.new (g := wr.heap.size) wr (by simp)) _)) hg (by (try simp) <;> omega); (try (have F1n := cell_alloc F1 (.cells #[.string ⟨#[]⟩, .bool false, .int .i64 0, .string ⟨#[]⟩, .slice none 0 0, .int .i64 0, .int .i64 0, .slice none 0 0] 38))); have F1a := HCW.out w2 (w2.heap.size) (by simp); have F1b := HCW.out (w2.alloc (.cells #[.string ⟨#[]⟩, .bool false, .int .i64 0, .string ⟨#[]⟩, .slice none 0 0, .int .i64 0, .int .i64 0, .slice none 0 0] 38)) (w2.heap.size + 1) (by simp); have F1c := cell_alloc (HCW.out w2 (w2.heap.size) (by simp)) (.cells #[.string ⟨#[]⟩, .bool false, .int .i64 0, .string ⟨#[]⟩, .slice none 0 0, .int .i64 0, .int .i64 0, .slice none 0 0] 38); clear hp hg)
          | (go_simp; go_at_call 11; (with_reducible (refine (pick_any (W := w2) (n := 5) HP2.out (by omega) (by omega)).mono ?_)); rintro e w3 ⟨rfl, hp, hg⟩; have hz3 : w2.heap.size + 0 ≤ w3.heap.size := (by have hs := hg.size; (try simp at hs); omega); rw [← HM1.out]; have HP3 := Lib.hid hp; have HG3 := Lib.hid (grownBy_step hg HG2.out); (try (have F2 := cell_grown (W := w2) F1 hg (by (try simp); omega) (by omega))); (try (have HN3 := Lib.hid (LineZ.grown (W := w2) HN2.out hg (by omega)))); (try (have F2n := cell_alloc F2 (.cells #[.string ⟨#[]⟩, .bool false, .int .i64 0, .string ⟨#[]⟩, .slice none 0 0, .int .i64 0, .int .i64 0, .slice none 0 0] 38))); have F2a := HCW.out w3 (w3.heap.size) (by simp); have F2b := HCW.out (w3.alloc (.cells #[.string ⟨#[]⟩, .bool false, .int .i64 0, .string ⟨#[]⟩, .slice none 0 0, .int .i64 0, .int .i64 0, .slice none 0 0] 38)) (w3.heap.size + 1) (by simp); have F2c := cell_alloc (HCW.out w3 (w3.heap.size) (by simp)) (.cells #[.string ⟨#[]⟩, .bool false, .int .i64 0, .string ⟨#[]⟩, .slice none 0 0, .int .i64 0, .int .i64 0, .slice none 0 0] 38); (try (obtain ⟨z0, z1, z2, z3, z4, z5, z6, z7, z8, z9, z10, z11, z12, z13, z14, z15⟩ := HN3.out.cells)); (try (obtain ⟨y0, y1, y2, y3, y4, y5, y6, y7, y8, y9, y10, y11, y12, y13, y14, y15⟩ := (HN3.out.alloc (.cells #[.string ⟨#[97]⟩, .string ⟨#[98]⟩, .string ⟨#[99]⟩, .string ⟨#[119, 111, 114, 100]⟩, .string ⟨#[120, 45, 49]⟩] 9)).cells)); clear hp hg)
          | (go_simp; go_at_call 11; (with_reducible (refine (pick_any (W := (w2.alloc (.cells #[.string ⟨#[97]⟩, .string ⟨#[98]⟩, .string ⟨#[99]⟩, .string ⟨#[119, 111, 114, 100]⟩, .string ⟨#[120, 45, 49]⟩] 9))) (n := 5) (PickAt.alloc HP2.out _) (by omega) (by omega)).mono ?_)); rintro e w3 ⟨rfl, hp, hg⟩; have hz3 : w2.heap.size + 1 ≤ w3.heap.size := (by have hs := hg.size; (try simp at hs); omega); rw [← HM1.out]; have HP3 := Lib.hid hp; have HG3 := Lib.hid (grownBy_step hg (grown_alloc HG2.out _)); have F2 : w3.cell? ⟨w2.heap.size, j, none⟩ = some (.string s) := cell_grown (W := (w2.alloc (.cells #[.string ⟨#[97]⟩, .string ⟨#[98]⟩, .string ⟨#[99]⟩, .string ⟨#[119, 111, 114, 100]⟩, .string ⟨#[120, 45, 49]⟩] 9))) (HCW.out w2 (w2.heap.size) (by simp)) hg (by simp <;> omega) (by omega); (try (have HN3 := Lib.hid (LineZ.grown (W := (w2.alloc (.cells #[.string ⟨#[97]⟩, .string ⟨#[98]⟩, .string ⟨#[99]⟩, .string ⟨#[119, 111, 114, 100]⟩, .string ⟨#[120, 45, 49]⟩] 9))) (LineZ.alloc HN2.out _) hg (by omega)))); (try (have F2n := cell_alloc F2 (.cells #[.string ⟨#[]⟩, .bool false, .int .i64 0, .string ⟨#[]⟩, .slice none 0 0, .int .i64 0, .int .i64 0, .slice none 0 0] 38))); have F2a := HCW.out w3 (w3.heap.size) (by simp); have F2b := HCW.out (w3.alloc (.cells #[.string ⟨#[]⟩, .bool false, .int .i64 0, .string ⟨#[]⟩, .slice none 0 0, .int .i64 0, .int .i64 0, .slice none 0 0] 38)) (w3.heap.size + 1) (by simp); have F2c := cell_alloc (HCW.out w3 (w3.heap.size) (by simp)) (.cells #[.string ⟨#[]⟩, .bool false, .int .i64 0, .string ⟨#[]⟩, .slice none 0 0, .int .i64 0, .int .i64 0, .slice none 0 0] 38); (try (obtain ⟨z0, z1, z2, z3, z4, z5, z6, z7, z8, z9, z10, z11, z12, z13, z14, z15⟩ := HN3.out.cells)); (try (obtain ⟨y0, y1, y2, y3, y4, y5, y6, y7, y8, y9, y10, y11, y12, y13, y14, y15⟩ := (HN3.out.alloc (.cells #[.string ⟨#[97]⟩, .string ⟨#[98]⟩, .string ⟨#[99]⟩, .string ⟨#[119, 111, 114, 100]⟩, .string ⟨#[120, 45, 49]⟩] 9)).cells)); clear hp hg)
          | (go_simp; go_at_call 11; (with_reducible (refine (pick_any (W := (w2.alloc (.cells #[.string ⟨#[]⟩, .bool false, .int .i64 0, .string ⟨#[]⟩, .slice none 0 0, .int .i64 0, .int .i64 0, .slice none 0 0] 38))) (n := 5) (PickAt.alloc HP2.out _) (by omega) (by omega)).mono ?_)); rintro e w3 ⟨rfl, hp, hg⟩; have hz3 : w2.heap.size + 1 ≤ w3.heap.size := (by have hs := hg.size; (try simp at hs); omega); rw [← HM1.out]; have HP3 := Lib.hid hp; have HG3 := Lib.hid (grownBy_step hg (grown_alloc HG2.out _)); (try (have F2 := cell_grown (W := (w2.alloc (.cells #[.string ⟨#[]⟩, .bool false, .int .i64 0, .string ⟨#[]⟩, .slice none 0 0, .int .i64 0, .int .i64 0, .slice none 0 0] 38))) (cell_alloc1 F1 _) hg (by (try simp); omega) (by omega))); have HN3 : Hid (LineZ w3 (w2.heap.size)) := LineZ.grown (W := (w2.alloc (.cells #[.string ⟨#[]⟩, .bool false, .int .i64 0, .string ⟨#[]⟩, .slice none 0 0, .int .i64 0, .int .i64 0, .slice none 0 0] 38))) (LineZ.new (g := w2.heap.size) w2 (by simp)) hg (by (try simp) <;> omega); (try (have F2n := cell_alloc F2 (.cells #[.string ⟨#[]⟩, .bool false, .int .i64 0, .string ⟨#[]⟩, .slice none 0 0, .int .i64 0, .int .i64 0, .slice none 0 0] 38))); have F2a := HCW.out w3 (w3.heap.size) (by simp); have F2b := HCW.out (w3.alloc (.cells #[.string ⟨#[]⟩, .bool false, .int .i64 0, .string ⟨#[]⟩, .slice none 0 0, .int .i64 0, .int .i64 0, .slice none 0 0] 38)) (w3.heap.size + 1) (by simp); have F2c := cell_alloc (HCW.out w3 (w3.heap.size) (by simp)) (.cells #[.string ⟨#[]⟩, .bool false, .int .i64 0, .string ⟨#[]⟩, .slice none 0 0, .int .i64 0, .int .i64 0, .slice none 0 0] 38); (try (obtain ⟨z0, z1, z2, z3, z4, z5, z6, z7, z8, z9, z10, z11, z12, z13, z14, z15⟩ := HN3.out.cells)); (try (obtain ⟨y0, y1, y2, y3, y4, y5, y6, y7, y8, y9, y10, y11, y12, y13, y14, y15⟩ := (HN3.out.alloc (.cells #[.string ⟨#[97]⟩, .string ⟨#[98]⟩, .string ⟨#[99]⟩, .string ⟨#[119, 111, 114, 100]⟩, .string ⟨#[120, 45, 49]⟩] 9)).cells)); clear hp hg)
          | (go_simp; go_at_call 11; (with_reducible (refine (pick_any (W := ((w2.alloc (.cells #[.string ⟨#[97]⟩, .string ⟨#[98]⟩, .string ⟨#[99]⟩, .string ⟨#[119, 111, 114, 100]⟩, .string ⟨#[120, 45, 49]⟩] 9)).alloc (.cells #[.string ⟨#[]⟩, .bool false, .int .i64 0, .string ⟨#[]⟩, .slice none 0 0, .int .i64 0, .int .i64 0, .slice none 0 0] 38))) (n := 5) (PickAt.alloc (PickAt.alloc HP2.out _) _) (by omega) (by omega)).mono ?_)); rintro e w3 ⟨rfl, hp, hg⟩; have hz3 : w2.heap.size + 2 ≤ w3.heap.size := (by have hs := hg.size; (try simp at hs); omega); rw [← HM1.out]; have HP3 := Lib.hid hp; have HG3 := Lib.hid (grownBy_step hg (grown_alloc (grown_alloc HG2.out _) _)); have F2 : w3.cell? ⟨w2.heap.size, j, none⟩ = some (.string s) := cell_grown (W := ((w2.alloc (.cells #[.string ⟨#[97]⟩, .string ⟨#[98]⟩, .string ⟨#[99]⟩, .string ⟨#[119, 111, 114, 100]⟩, .string ⟨#[120, 45, 49]⟩] 9)).alloc (.cells #[.string ⟨#[]⟩, .bool false, .int .i64 0, .string ⟨#[]⟩, .slice none 0 0, .int .i64 0, .int .i64 0, .slice none 0 0] 38))) ((cell_alloc (HCW.out w2 (w2.heap.size) (by simp)) (.cells #[.string ⟨#[]⟩, .bool false, .int .i64 0, .string ⟨#[]⟩, .slice none 0 0, .int .i64 0, .int .i64 0, .slice none 0 0] 38))) hg (by simp <;> omega) (by omega); have HN3 : Hid (LineZ w3 (w2.heap.size + 1)) := LineZ.grown (W := ((w2.alloc (.cells #[.string ⟨#[97]⟩, .string ⟨#[98]⟩, .string ⟨#[99]⟩, .string ⟨#[119, 111, 114, 100]⟩, .string ⟨#[120, 45, 49]⟩] 9)).alloc (.cells #[.string ⟨#[]⟩, .bool false, .int .i64 0, .string ⟨#[]⟩, .slice none 0 0, .int .i64 0, .int .i64 0, .slice none 0 0] 38))) (LineZ.new (g := w2.heap.size + 1) (w2.alloc (.cells #[.string ⟨#[97]⟩, .string ⟨#[98]⟩, .string ⟨#[99]⟩, .string ⟨#[119, 111, 114, 100]⟩, .string ⟨#[120, 45, 49]⟩] 9)) (by simp)) hg (by (try simp) <;> omega); (try (have F2n := cell_alloc F2 (.cells #[.string ⟨#[]⟩, .bool false, .int .i64 0, .string ⟨#[]⟩, .slice none 0 0, .int .i64 0, .int .i64 0, .slice none 0 0] 38))); have F2a := HCW.out w3 (w3.heap.size) (by simp); have F2b := HCW.out (w3.alloc (.cells #[.string ⟨#[]⟩, .bool false, .int .i64 0, .string ⟨#[]⟩, .slice none 0 0, .int .i64 0, .int .i64 0, .slice none 0 0] 38)) (w3.heap.size + 1) (by simp); have F2c := cell_alloc (HCW.out w3 (w3.heap.size) (by simp)) (.cells #[.string ⟨#[]⟩, .bool false, .int .i64 0, .string ⟨#[]⟩, .slice none 0 0, .int .i64 0, .int .i64 0, .slice none 0 0] 38); (try (obtain ⟨z0, z1, z2, z3, z4, z5, z6, z7, z8, z9, z10, z11, z12, z13, z14, z15⟩ := HN3.out.cells)); (try (obtain ⟨y0, y1, y2, y3, y4, y5, y6, y7, y8, y9, y10, y11, y12, y13, y14, y15⟩ := (HN3.out.alloc (.cells #[.string ⟨#[97]⟩, .string ⟨#[98]⟩, .string ⟨#[99]⟩, .string ⟨#[119, 111, 114, 100]⟩, .string ⟨#[120, 45, 49]⟩] 9)).cells)); clear hp hg)
          | (go_simp; go_at_call 11; (with_reducible (refine (pick_any (W := ((w2.alloc (.cells #[.string ⟨#[]⟩, .bool false, .int .i64 0, .string ⟨#[]⟩, .slice none 0 0, .int .i64 0, .int .i64 0, .slice none 0 0] 38)).alloc (.cells #[.string ⟨#[97]⟩, .string ⟨#[98]⟩, .string ⟨#[99]⟩, .string ⟨#[119, 111, 114, 100]⟩, .string ⟨#[120, 45, 49]⟩] 9))) (n := 5) (PickAt.alloc (PickAt.alloc HP2.out _) _) (by omega) (by omega)).mono ?_)); rintro e w3 ⟨rfl, hp, hg⟩; have hz3 : w2.heap.size + 2 ≤ w3.heap.size := (by have hs := hg.size; (try simp at hs); omega); rw [← HM1.out]; have HP3 := Lib.hid hp; have HG3 := Lib.hid (grownBy_step hg (grown_alloc (grown_alloc HG2.out _) _)); have F2 : w3.cell? ⟨w2.heap.size + 1, j, none⟩ = some (.string s) := cell_grown (W := ((w2.alloc (.cells #[.string ⟨#[]⟩, .bool false, .int .i64 0, .string ⟨#[]⟩, .slice none 0 0, .int .i64 0, .int .i64 0, .slice none 0 0] 38)).alloc (.cells #[.string ⟨#[97]⟩, .string ⟨#[98]⟩, .string ⟨#[99]⟩, .string ⟨#[119, 111, 114, 100]⟩, .string ⟨#[120, 45, 49]⟩] 9))) (HCW.out (w2.alloc (.cells #[.string ⟨#[]⟩, .bool false, .int .i64 0, .string ⟨#[]⟩, .slice none 0 0, .int .i64 0, .int .i64 0, .slice none 0 0] 38)) (w2.heap.size + 1) (by simp)) hg (by simp <;> omega) (by omega); have HN3 : Hid (LineZ w3 (w2.heap.size)) := LineZ.grown (W := ((w2.alloc (.cells #[.string ⟨#[]⟩, .bool false, .int .i64 0, .string ⟨#[]⟩, .slice none 0 0, .int .i64 0, .int .i64 0, .slice none 0 0] 38)).alloc (.cells #[.string ⟨#[97]⟩, .string ⟨#[98]⟩, .string ⟨#[99]⟩, .string ⟨#[119, 111, 114, 100]⟩, .string ⟨#[120, 45, 49]⟩] 9))) (LineZ.alloc (LineZ.new (g := w2.heap.size) w2 (by simp)) _) hg (by (try simp) <;> omega); (try (have F2n := cell_alloc F2 (.cells #[.string ⟨#[]⟩, .bool false, .int .i64 0, .string ⟨#[]⟩, .slice none 0 0, .int .i64 0, .int .i64 0, .slice none 0 0] 38))); have F2a := HCW.out w3 (w3.heap.size) (by simp); have F2b := HCW.out (w3.alloc (.cells #[.string ⟨#[]⟩, .bool false, .int .i64 0, .string ⟨#[]⟩, .slice none 0 0, .int .i64 0, .int .i64 0, .slice none 0 0] 38)) (w3.heap.size + 1) (by simp); have F2c := cell_alloc (HCW.out w3 (w3.heap.size) (by simp)) (.cells #[.string ⟨#[]⟩, .bool false, .int .i64 0, .string ⟨#[]⟩, .slice none 0 0, .int .i64 0, .int .i64 0, .slice none 0 0] 38); (try (obtain ⟨z0, z1, z2, z3, z4, z5, z6, z7, z8, z9, z10, z11, z12, z13, z14, z15⟩ := HN3.out.cells)); (try (obtain ⟨y0, y1, y2, y3, y4, y5, y6, y7, y8, y9, y10, y11, y12, y13, y14, y15⟩ := (HN3.out.alloc (.cells #[.string ⟨#[97]⟩, .string ⟨#[98]⟩, .string ⟨#[99]⟩, .string ⟨#[119, 111, 114, 100]⟩, .string ⟨#[120, 45, 49]⟩] 9)).cells)); clear hp hg)
          | fail)
        all_goals first
          | (obtain ⟨W0, hW0⟩ : ∃ W0, W0 = ((w3.alloc (.cells #[.string ⟨#[97]⟩, .string ⟨#[98]⟩, .string ⟨#[99]⟩, .string ⟨#[119, 111, 114, 100]⟩, .string ⟨#[120, 45, 49]⟩] 9)).alloc (.cells #[.string s, .bool ((p2 : Int) == 4), .int .i64 0, .string ⟨#[]⟩, .slice none 0 0, .int .i64 0, .int .i64 0, .slice none 0 0] 38)) := ⟨_, rfl⟩; rw [← hW0]; have HEND : Hid (Named R (.slice p zs.length cap) zs (a + 1 + 1) wr W0 (.pointer (some ⟨w3.heap.size + 1, 0, none⟩)) (w3.heap.size + 1) x ((p2 : Int) == 4)) := (by rw [hW0]; exact named_dir (s := s) (heap_top _ _ _ (by simp)) (by omega) (PickAt.alloc (PickAt.alloc HP3.out _) _) (grown_alloc (grown_alloc HG3.out _) _) HX.out HS.out); clear hW0; (try clear z0 z1 z2 z3 z4 z5 z6 z7 z8 z9 z10 z11 z12 z13 z14 z15); (try clear y0 y1 y2 y3 y4 y5 y6 y7 y8 y9 y10 y11 y12 y13 y14 y15); (try clear F1); (try clear F2); (try clear F1a F1b F1c); (try clear F2a F2b F2c); (try clear F1n); (try clear F2n); go_wp2_with fail; go_meet; exact ⟨_, x, _, HEND.out⟩)
          | (obtain ⟨W0, hW0⟩ : ∃ W0, W0 = ((w3.alloc (.cells #[.string s, .bool ((p2 : Int) == 4), .int .i64 0, .string ⟨#[]⟩, .slice none 0 0, .int .i64 0, .int .i64 0, .slice none 0 0] 38)).alloc (.cells #[.string ⟨#[97]⟩, .string ⟨#[98]⟩, .string ⟨#[99]⟩, .string ⟨#[119, 111, 114, 100]⟩, .string ⟨#[120, 45, 49]⟩] 9)) := ⟨_, rfl⟩; rw [← hW0]; have HEND : Hid (Named R (.slice p zs.length cap) zs (a + 1 + 1) wr W0 (.pointer (some ⟨w3.heap.size, 0, none⟩)) (w3.heap.size) x ((p2 : Int) == 4)) := (by rw [hW0]; exact named_dir (s := s) ((Below.heap_alloc _ _ _ (by simp)).trans (heap_top _ _ _ rfl)) (by omega) (PickAt.alloc (PickAt.alloc HP3.out _) _) (grown_alloc (grown_alloc HG3.out _) _) HX.out HS.out); clear hW0; (try clear z0 z1 z2 z3 z4 z5 z6 z7 z8 z9 z10 z11 z12 z13 z14 z15); (try clear y0 y1 y2 y3 y4 y5 y6 y7 y8 y9 y10 y11 y12 y13 y14 y15); (try clear F1); (try clear F2); (try clear F1a F1b F1c); (try clear F2a F2b F2c); (try clear F1n); (try clear F2n); go_wp2_with fail; go_meet; exact ⟨_, x, _, HEND.out⟩)
          | (obtain ⟨W0, hW0⟩ : ∃ W0, W0 = (w3.alloc (.cells #[.string s, .bool ((p2 : Int) == 4), .int .i64 0, .string ⟨#[]⟩, .slice none 0 0, .int .i64 0, .int .i64 0, .slice none 0 0] 38)) := ⟨_, rfl⟩; rw [← hW0]; have HEND : Hid (Named R (.slice p zs.length cap) zs (a + 1 + 1) wr W0 (.pointer (some ⟨w3.heap.size, 0, none⟩)) (w3.heap.size) x ((p2 : Int) == 4)) := (by rw [hW0]; exact named_dir (s := s) (heap_top _ _ _ (by simp)) (by omega) (PickAt.alloc HP3.out _) (grown_alloc HG3.out _) HX.out HS.out); clear hW0; (try clear z0 z1 z2 z3 z4 z5 z6 z7 z8 z9 z10 z11 z12 z13 z14 z15); (try clear y0 y1 y2 y3 y4 y5 y6 y7 y8 y9 y10 y11 y12 y13 y14 y15); (try clear F1); (try clear F2); (try clear F1a F1b F1c); (try clear F2a F2b F2c); (try clear F1n); (try clear F2n); go_wp2_with fail; go_meet; exact ⟨_, x, _, HEND.out⟩)
          | (rw [set_eight (W := (w3.alloc (.cells #[.string ⟨#[97]⟩, .string ⟨#[98]⟩, .string ⟨#[99]⟩, .string ⟨#[119, 111, 114, 100]⟩, .string ⟨#[120, 45, 49]⟩] 9))) (LineZ.alloc HN3.out _)]; have HEND := Lib.hid (named_end (W := (w3.alloc (.cells #[.string ⟨#[97]⟩, .string ⟨#[98]⟩, .string ⟨#[99]⟩, .string ⟨#[119, 111, 114, 100]⟩, .string ⟨#[120, 45, 49]⟩] 9))) (wr := wr) (x := x) (s := s) ((p2 : Int) == 4) (LineZ.alloc HN3.out _) (by omega) (PickAt.alloc HP3.out _) (grown_alloc HG3.out _) HX.out HS.out hRr); (try clear z0 z1 z2 z3 z4 z5 z6 z7 z8 z9 z10 z11 z12 z13 z14 z15); (try clear y0 y1 y2 y3 y4 y5 y6 y7 y8 y9 y10 y11 y12 y13 y14 y15); (try clear F1); (try clear F2); (try clear F1a F1b F1c); (try clear F2a F2b F2c); (try clear F1n); (try clear F2n); go_wp2_with fail; go_meet; exact ⟨_, x, _, HEND.out⟩)
          | (rw [set_eight (W := w3) HN3.out]; have HEND := Lib.hid (named_end (W := w3) (wr := wr) (x := x) (s := s) ((p2 : Int) == 4) HN3.out (by omega) HP3.out HG3.out HX.out HS.out hRr); (try clear z0 z1 z2 z3 z4 z5 z6 z7 z8 z9 z10 z11 z12 z13 z14 z15); (try clear y0 y1 y2 y3 y4 y5 y6 y7 y8 y9 y10 y11 y12 y13 y14 y15); (try clear F1); (try clear F2); (try clear F1a F1b F1c); (try clear F2a F2b F2c); (try clear F1n); (try clear F2n); go_wp2_with fail; go_meet; exact ⟨_, x, _, HEND.out⟩)
          | fail
      case rest =>
        obtain ⟨g, x, b, rfl, hx, hn, hgl, hp, hg⟩ := hcut
        have HX := Lib.hid hx
        have HN := Lib.hid hn
        have HPW := Lib.hid hp
        have HGW := Lib.hid hg
        have hgc := hn.lt
        have hwc := hg.size
        have HCC : Hid (a + 1 + 1 + mkCost 3 ≤ 1000000) := by
          have : mkCost 3 ≤ 200 := by decide
          unfold Hid
          omega
        clear hx hn hp hg
        obtain ⟨s, hs⟩ : ∃ s, s = strOf x := ⟨_, rfl⟩
        have HS := Lib.hid hs
        rw [← hs] at HN
        clear hs
        go_upto_region 7 with fail
        go_cut [] from 26 to 28 (fun W => ∃ (X : XV) (t : Tree) (a' : Nat) (w5 : World), Filled R (.slice p zs.length cap) zs (a + 1 + 1) wr wc w5 W g s b X t a')
        case first =>
          go_wp2_with fail
          with_reducible refine (AskX.tops (w := wc) (expr_any 3 (by omega)) 3 (by omega) HPW.out HCC.out).mono ?_
          rintro e w5 ⟨kx, lx, hx, sx, b1, b2, m1, c1, m2, c2, t, a', ht, hm, rfl, ha, hp, hg⟩
          have HT := Lib.hid ht
          have HMK := Lib.hid hm
          have HA := Lib.hid ha
          have HPP := Lib.hid hp
          have HGG := Lib.hid hg
          have HL := Lib.hid (HN.out.grown hg (by omega))
          obtain ⟨z2, z3, z4, z5, z6, z7, y2, y3, y4, y5, y6, y7⟩ := HL.out.cells
          clear ht hm ha hp hg
          go_wp2_with fail
          rw [set_rest HL.out]
          go_meet
          exact ⟨⟨kx, sx, .slice b1 m1 c1, lx, hx, .slice b2 m2 c2⟩, t, a', w5, rfl, HT.out, HMK.out, HA.out, HPP.out, HGG.out, HL.out⟩
        case rest =>
          obtain ⟨X, t, a', w5, rfl, ht, hm, ha, hp, hg, hl5⟩ := hcut
          have hone := one_cell_ns ht.tree
          have hone2 := one_cell_ks ht.tree
          have HO1 := Lib.hid hone
          have HO2 := Lib.hid hone2
          have HT := Lib.hid ht
          have HMK := Lib.hid hm
          have HA := Lib.hid ha
          have HPP := Lib.hid hp
          have HGG := Lib.hid hg
          have HRW8 : Hid ((w5.setRow g (LV.arr ⟨s, b, X⟩)).heap[g]? = some (.cells (LV.arr ⟨s, b, X⟩) 38 (0, 0))) := setRow_heap _ _ _ _ _ _ hl5
          have HLT := Lib.hid HM.out.1
          have hw5 := hg.size
          have hg5 := hl5.lt
          obtain ⟨k1, k2, k3, k4⟩ := HM.out.1
          have HOW : Hid (((w5.setRow g (LV.arr ⟨s, b, X⟩)).alloc (.cells (LV.arr ⟨s, b, X⟩) 38)).ownsRow (R + 1) 38 8 u4 l.length (ys.flatMap LV.cells)) :=
            owns_row_kept k2 (fun c hc hl => by rw [Below.heap_alloc _ _ _ (by simp [World.setRow]; omega), setRow_other _ _ _ _ (by omega), HGG.out.block c (by omega) (fun e => by have := Option.some.inj e; omega), HGW.out.block c hl (fun e => by have := Option.some.inj e; omega)])
          clear hone hone2 ht hm ha hp hg k1 k2 k3 k4 hl5
          rw [show w5.setRow g #[.string s, .bool b, .int .i64 X.kind, .string X.text, X.ns, .int .i64 X.lo, .int .i64 X.hi, X.ks] = w5.setRow g (LV.arr ⟨s, b, X⟩) from rfl]
          go_wp2_with (first
            | (refine load_line8 rfl _ rfl g ⟨s, b, X⟩ rfl HRW8.out ?_)
            | (refine build_line2 rfl _ rfl ⟨s, b, X⟩ rfl HO1.out HO2.out ?_)
            | (at_builtin; go_loud (refine push_lt rfl _ _ rfl (R + 1) _ l.length ys ⟨s, b, X⟩ (w5.setRow g (LV.arr ⟨s, b, X⟩)).heap.size rfl rfl HOW.out (heap_alloc_new _ _) HO1.out HO2.out ?hq1 ?hq2 ?_)))
          case hq1 => omega
          case hq2 => simp [World.setRow]; omega
          intro v' w6 hown hgrow hat
          have HIN : Hid (InMade w w6 R (.slice p zs.length cap) zs v' n1 (i - 1) (l ++ [⟨x, b, t⟩]) (ys ++ [⟨s, b, X⟩]) a') := by
            have hin := HM.out
            have e1 : ∀ c, c ≤ R → c ≠ R → w6.heap[c]? = wr.heap[c]? := fun c hc hcR => by
              rw [hgrow.block c (by simp [World.setRow]; omega) (own_ge HOW.out (by omega)), Below.heap_alloc _ _ _ (by simp [World.setRow]; omega), setRow_other _ _ _ _ (by omega), HGG.out.block c (by omega) (fun e => by have := Option.some.inj e; omega), HGW.out.block c (by omega) (fun e => by have := Option.some.inj e; omega)]
            have e2 : ∀ c, c ≤ R → w6.heap[c]? = w5.heap[c]? := fun c hc => by
              rw [hgrow.block c (by simp [World.setRow]; omega) (own_ge HOW.out (by omega)), Below.heap_alloc _ _ _ (by simp [World.setRow]; omega), setRow_other _ _ _ _ (by omega)]
            have hT2 : TopAt ((w5.setRow g (LV.arr ⟨s, b, X⟩)).alloc (.cells (LV.arr ⟨s, b, X⟩) 38)) (wc.heap.size + 1) X t :=
              (HT.out.set_row (by omega) _).kept (fun c hc hl => Below.heap_alloc _ _ _ hl) (by simp)
            refine ⟨LT.push (m := wc.heap.size + 1) HLT.out (fun c hc hl => ?_) (by simp [World.setRow]; omega) (x := ⟨s, b, X⟩) (t := ⟨x, b, t⟩) hT2 (by omega) (by omega) ⟨HS.out, rfl⟩ hown hgrow (hat.imp id (fun ⟨k, e, hk⟩ => ⟨k, e, by have h := hk; simp [World.setRow]; omega⟩)), by simp; omega, ?_, ?_, ?_, ?_⟩
            · rw [Below.heap_alloc _ _ _ (by simp [World.setRow]; omega), setRow_other _ _ _ _ (by omega), HGG.out.block c (by omega) (fun e => by have := Option.some.inj e; omega), HGW.out.block c hl (fun e => by have := Option.some.inj e; omega)]
            · intro r hr
              rw [List.mem_append] at hr
              rcases hr with hr | hr
              · exact hin.2.2.1 r hr
              · simp at hr; subst hr; exact ⟨HX.out, HMK.out⟩
            · exact HPP.out.kept (fun c hc => e2 c hc)
            · have := HA.out
              have h4 : mkCost 3 ≤ 200 := by decide
              have : (l ++ [(⟨x, b, t⟩ : Rule)]).length = l.length + 1 := by simp
              omega
            · have hb := hin.2.2.2.2.2
              have hRW := HRW.out
              refine ⟨hgrow.os.trans (HGG.out.os.trans (HGW.out.os.trans hb.os)), hgrow.tape.trans (HGG.out.tape.trans (HGW.out.tape.trans hb.tape)), hgrow.output.trans (HGG.out.output.trans (HGW.out.output.trans hb.output)), ?_, fun c hc => ?_⟩
              · have := hgrow.size; have := hb.size; simp [World.setRow] at *; omega
              · rw [e1 c (by omega) (by omega)]; exact hb.block c hc
          clear hown hgrow hat HM
          go_wp2_with fail
          go_roundw
          case rel => exact ⟨i - 1, l ++ [⟨x, b, t⟩], ys ++ [⟨s, b, X⟩], a', by go_num, HIN⟩
          case measure => simp [intOf]; omega
    · obtain rfl : i = 0 := by omega
      obtain ⟨e1, e2, e3, e4, e5, e6⟩ := HM.out
      have HEND : Hid (MakesL w (.returned u4) wr) := ⟨u4, l, ys, rfl, by rw [← HRW.out]; exact e1, by omega, by omega, e3, e6⟩
      clear e1 e2 e3 e4 e5 e6 HM
      go_wp2_with fail
      go_ret
      exact HEND.out

end Go.Proofs.YtddbaacibdmnaaaGreatDoor
