/- Expressions of texts in quotes, and what several of a kind become, are made by the program as the words say. -/
import Derived.Test.YtlaglkbcladfbaaDoorRTree
import Derived.Laws.Tables
import Derived.Laws.NewBlocks
import Derived.Laws.CopyOwn
namespace Go.Proofs.YtlaglkbcladfbaaDoor
open Go.RowKit
set_option linter.unusedVariables false
set_option linter.unusedSimpArgs false

/-- The cells of an expression that says nothing. -/
def zeroX : Array Value := #[.int .i64 0, .string ⟨#[]⟩, .slice none 0 0, .int .i64 0, .int .i64 0, .slice none 0 0]
def XV.arr (x : XV) : Array Value := #[.int .i64 x.kind, .string x.text, x.ns, .int .i64 x.lo, .int .i64 x.hi, x.ks]

theorem sizeX : (Tryd.prog.info? 43).map (·.size) = some 6 := by kernel_rfl

/-- A block that holds an expression's cells, which the call itself has made for its result. -/
def Res0 (W : World) (g : Nat) : Prop := ∃ cs : Array Value, cs.size = 6 ∧ W.heap[g]? = some (.cells cs 43 (0, 0))

theorem res_new (w : World) : Res0 (w.alloc (.cells #[.int .i64 0, .string ⟨#[]⟩, .slice none 0 0, .int .i64 0, .int .i64 0, .slice none 0 0] 43)) w.heap.size := ⟨_, rfl, heap_alloc_new w _⟩
theorem Res0.kept {W W' : World} {g : Nat} (h : Res0 W g) (hk : W'.heap[g]? = W.heap[g]?) : Res0 W' g := by
  obtain ⟨cs, h1, h2⟩ := h
  exact ⟨cs, h1, hk.trans h2⟩
theorem Res0.lt {W : World} {g : Nat} (h : Res0 W g) : g < W.heap.size := by
  obtain ⟨cs, _, h2⟩ := h
  exact (Array.getElem?_eq_some_iff.1 h2).1

/-- The store into the result's block. -/
theorem store_res {ops : Array Oper} {rest : List Oper} {o : Oper} {a : Act} {w : World} {Q : Exit → Act → World → Prop} (hgd : o.guard = none) (x y : Operand) (ho : o.op = .store 43 x y)
    (g : Nat) (X : XV) (hx : a.eval x = .pointer (some ⟨g, 0, none⟩)) (hy : a.eval y = X.val) (hg : Res0 w g) (h1 : X.ns.oneCell' = true) (h2 : X.ks.oneCell' = true)
    (h : wpList Tryd.prog ops Q rest (a.put o.dst undef) (w.setRow g X.arr)) : wpList Tryd.prog ops Q (o :: rest) a w := by
  obtain ⟨cs, hs, hg⟩ := hg
  exact wpList_store_row hgd 43 x y ho g X.arr hx hy 43 cs hg sizeX (by rw [hs]; rfl) (by simp [XV.arr, h1, h2]; exact ⟨rfl, rfl, rfl, rfl⟩) h

theorem run_res {fn : Func} {p : Tmp} (h : fn.results = #[.cell p 43]) (tmps : Array Value) (w : World) (g : Nat) (X : XV) (hp : tmps.getD p undef = .pointer (some ⟨g, 0, none⟩)) (hg : Res0 w g) :
    (results fn tmps).run Tryd.prog (w.setRow g X.arr) = .ok X.val (w.setRow g X.arr) := by
  obtain ⟨cs, hs, hg⟩ := hg
  exact results_cell_row h tmps _ g 43 X.arr (0, 0) _ hp (setRow_heap _ _ _ _ _ _ hg) Tryd.underlying43 rfl sizeX

theorem grown_row {w w' : World} {row : Option Nat} (h : w.grownBy w' row) {g : Nat} (hg : w.heap.size ≤ g) (cs : Array Value) : w.grownBy (w'.setRow g cs) row :=
  ⟨h.os, h.tape, h.output, by simpa [World.setRow] using h.size, fun k hk hr => (setRow_other _ _ _ _ (by omega)).trans (h.block k hk hr)⟩
theorem TreeAt.set_row {W : World} {P : Nat → Prop} {x : XV} {t : Tree} (h : TreeAt W P x t) {g : Nat} (hg : ∀ b, P b → b ≠ g) (cs : Array Value) : TreeAt (W.setRow g cs) P x t :=
  h.kept (fun b hP hl => ⟨setRow_other _ _ _ _ (hg b hP), hP⟩) (by simp [World.setRow])
theorem At.set_row {w : World} {R : Nat} {s : ByteArray} {p d : Nat} (h : At w R s p d) {g : Nat} (hg : R ≠ g) (cs : Array Value) : At (w.setRow g cs) R s p d := (setRow_other _ _ _ _ hg).trans h

theorem RowIn.one {W : World} {P : Nat → Prop} {v : Value} {n : Nat} {xs : List Value} (h : RowIn W P v n xs) : v.oneCell' = true := by
  rcases h with ⟨rfl, _⟩ | ⟨g, cap, rfl, _⟩ <;> rfl
theorem one_cell_ns {W : World} {P : Nat → Prop} {x : XV} {t : Tree} (h : TreeAt W P x t) : x.ns.oneCell' = true := by
  cases h with
  | mk vs h1 h2 h3 h4 => exact h1.one
theorem one_cell_ks {W : World} {P : Nat → Prop} {x : XV} {t : Tree} (h : TreeAt W P x t) : x.ks.oneCell' = true := by
  cases h with
  | mk vs h1 h2 h3 h4 => exact h2.one

set_option maxRecDepth 100000 in
set_option maxHeartbeats 4000000 in
theorem fold_any {x : List Int} {w : World} (hx : ∀ c ∈ x, 0 ≤ c ∧ c < 128) (hl : x.length ≤ 100000) :
    Calls Tryd.prog 161 #[.string (strOf x)] w (MakesTree (w.heap.size + 1) (foldT x) w) := by
  have HC := Lib.hid (fun W => lower_any (x := x) (w := W) hx hl)
  clear hx hl
  obtain ⟨s, hs⟩ : ∃ s, s = strOf x := ⟨_, rfl⟩
  rw [← hs] at HC ⊢
  clear hs
  have HR := Lib.hid (res_new w)
  have HB0 := Lib.hid ((Below.refl w.heap.size w).alloc (Nat.le_refl _) (.cells #[.int .i64 0, .string ⟨#[]⟩, .slice none 0 0, .int .i64 0, .int .i64 0, .slice none 0 0] 43))
  go_enter Tryd.func161, Tryd.ntmps161
  go_wp2_with fail
  refine (HC.out _).mono ?_
  rintro e w1 ⟨rfl, hb⟩
  have HR1 := Lib.hid (HR.out.kept (hb.block w.heap.size (by simp)))
  have HB := Lib.hid (HB0.out.trans (hb.mono (by simp)))
  clear hb HR HB0
  go_wp2_with (refine store_res rfl _ _ rfl w.heap.size ⟨5, strOf (x.map low), .slice none 0 0, 0, 0, .slice none 0 0⟩ rfl rfl HR1.out rfl rfl ?_)
  refine bodyPost_ret_by (run_res rfl _ _ w.heap.size ⟨5, strOf (x.map low), .slice none 0 0, 0, 0, .slice none 0 0⟩ rfl HR1.out) rfl ⟨_, ?_, rfl, below_setRow HB.out (Nat.le_refl _) _⟩
  exact (tree_leaf _ _ _ _ _ _).set_row (fun b hb => by omega) _

theorem lt_one {n : Nat} (h : n ≠ 1) : decide ((n : Int) = 1) = false := decide_eq_false (by omega)

set_option maxRecDepth 100000 in
set_option maxHeartbeats 4000000 in
theorem joined_one {base : Nat} {v : Value} {t : Tree} {w : World} (k : Int) (h : KidsAt w base v [t]) (hb0 : base ≤ w.heap.size) :
    Calls Tryd.prog 110 #[.int .i64 k, v] w (MakesTree base t w) := by
  obtain ⟨vs, hl, hr, ht⟩ := h
  obtain ⟨x, rfl⟩ : ∃ x, vs = [x] := by
    match vs, hl with
    | [x], _ => exact ⟨x, rfl⟩
  have hx := (ht 0 x t rfl rfl).weak (P' := fun b => base ≤ b) (fun b hP _ => hP.1)
  obtain ⟨g, cap, rfl⟩ := (row_forms hr).resolve_left (fun h => by cases h.2)
  have c0 := row_cell hr (j := 0) rfl
  have c1 := row_cell hr (j := 1) rfl
  have c2 := row_cell hr (j := 2) rfl
  have c3 := row_cell hr (j := 3) rfl
  have c4 := row_cell hr (j := 4) rfl
  have c5 := row_cell hr (j := 5) rfl
  obtain ⟨hbg, hcap, hmax, hg⟩ := row_base hr
  have HT := Lib.hid hx
  have HR := Lib.hid (res_new w)
  have HB0 := Lib.hid ((Below.refl w.heap.size w).alloc (Nat.le_refl _) (.cells #[.int .i64 0, .string ⟨#[]⟩, .slice none 0 0, .int .i64 0, .int .i64 0, .slice none 0 0] 43))
  obtain ⟨x0, x1, x2, x3, x4, x5⟩ := x
  have hs2 : (Value.oneCell' x2 = true) := one_cell_ns HT.out
  have hs5 : (Value.oneCell' x5 = true) := one_cell_ks HT.out
  have HS2 := Lib.hid hs2
  have HS5 := Lib.hid hs5
  clear hr ht hx hl hs2 hs5
  go_enter Tryd.func110, Tryd.ntmps110
  go_wp2_with (refine store_res rfl _ _ rfl w.heap.size ⟨x0, x1, x2, x3, x4, x5⟩ rfl rfl HR.out HS2.out HS5.out ?_)
  refine bodyPost_ret_by (run_res rfl _ _ w.heap.size ⟨x0, x1, x2, x3, x4, x5⟩ rfl HR.out) rfl ⟨_, ?_, rfl, below_setRow HB0.out (Nat.le_refl _) _⟩
  have h1 := HT.out.weak (P' := fun b => base ≤ b ∧ b ≠ w.heap.size) (fun b hP hl => ⟨hP, by omega⟩)
  have h2 := h1.under (W' := w.alloc (.cells #[.int .i64 0, .string ⟨#[]⟩, .slice none 0 0, .int .i64 0, .int .i64 0, .slice none 0 0] 43)) ((Below.refl _ _).alloc (Nat.le_refl _) _)
  exact (h2.set_row (fun b hP => hP.2) _).weak (fun b hP _ => hP.1)

set_option maxRecDepth 100000 in
set_option maxHeartbeats 4000000 in
theorem joined_more {base : Nat} {v : Value} {l : List Tree} {w : World} (k : Int) (h : KidsAt w base v l) (hb0 : base ≤ w.heap.size) (hn : l.length ≠ 1) (hn2 : l.length ≤ 1000000) :
    Calls Tryd.prog 110 #[.int .i64 k, v] w (MakesTree base (.mk k [] [] 0 0 l) w) := by
  have HK := Lib.hid h
  obtain ⟨vs, hl, hr, ht⟩ := h
  obtain ⟨n, hln⟩ : ∃ n, n = l.length := ⟨_, rfl⟩
  rw [← hln] at hn hn2
  have hq : decide ((n : Int) = 1) = false := lt_one hn
  have hq2 : ((n : Int) == 1) = false := by simp; omega
  have HR := Lib.hid (res_new w)
  have HB0 := Lib.hid ((Below.refl w.heap.size w).alloc (Nat.le_refl _) (.cells #[.int .i64 0, .string ⟨#[]⟩, .slice none 0 0, .int .i64 0, .int .i64 0, .slice none 0 0] 43))
  have fin : ∀ (ops : Nat), True := fun _ => trivial
  have hone : v.oneCell' = true := by rcases row_forms hr with ⟨rfl, _⟩ | ⟨g, cap, rfl⟩ <;> rfl
  have HONE := Lib.hid hone
  have hT : TreeAt ((w.alloc (.cells #[.int .i64 0, .string ⟨#[]⟩, .slice none 0 0, .int .i64 0, .int .i64 0, .slice none 0 0] 43)).setRow w.heap.size (XV.arr ⟨k, ⟨#[]⟩, .slice none 0 0, 0, 0, v⟩)) (fun b => base ≤ b) ⟨k, ⟨#[]⟩, .slice none 0 0, 0, 0, v⟩ (.mk k [] [] 0 0 l) := by
    have h1 := (HK.out.tree k 0 0).weak (P' := fun b => base ≤ b ∧ b ≠ w.heap.size) (fun b hP hl => ⟨hP, by omega⟩)
    have h2 := h1.under (W' := w.alloc (.cells #[.int .i64 0, .string ⟨#[]⟩, .slice none 0 0, .int .i64 0, .int .i64 0, .slice none 0 0] 43)) ((Below.refl _ _).alloc (Nat.le_refl _) _)
    exact (h2.set_row (fun b hP => hP.2) _).weak (fun b hP _ => hP.1)
  have HT := Lib.hid hT
  clear ht hT hone HK fin
  rcases row_forms hr with ⟨rfl, h0⟩ | ⟨g, cap, rfl⟩
  · clear hr hl hln
    go_enter Tryd.func110, Tryd.ntmps110
    go_wp2_with (refine store_res rfl _ _ rfl w.heap.size ⟨k, ⟨#[]⟩, .slice none 0 0, 0, 0, .slice none 0 0⟩ rfl rfl HR.out rfl rfl ?_)
    exact bodyPost_ret_by (run_res rfl _ _ w.heap.size ⟨k, ⟨#[]⟩, .slice none 0 0, 0, 0, .slice none 0 0⟩ rfl HR.out) rfl ⟨_, HT.out, rfl, below_setRow HB0.out (Nat.le_refl _) _⟩
  · rw [← hln] at HT HONE ⊢
    clear hr hl hln
    go_enter Tryd.func110, Tryd.ntmps110
    go_wp2_with (refine store_res rfl _ _ rfl w.heap.size ⟨k, ⟨#[]⟩, .slice none 0 0, 0, 0, .slice (some ⟨g, 0, none⟩) n cap⟩ rfl rfl HR.out rfl rfl ?_)
    exact bodyPost_ret_by (run_res rfl _ _ w.heap.size ⟨k, ⟨#[]⟩, .slice none 0 0, 0, 0, .slice (some ⟨g, 0, none⟩) n cap⟩ rfl HR.out) rfl ⟨_, HT.out, rfl, below_setRow HB0.out (Nat.le_refl _) _⟩

theorem joinT_more (k : Int) {l : List Tree} (h : l.length ≠ 1) : joinT k l = .mk k [] [] 0 0 l := by
  match l, h with
  | [], _ => rfl
  | [_], h => exact absurd rfl h
  | _ :: _ :: _, _ => rfl

theorem joined_any {base : Nat} {v : Value} {l : List Tree} {w : World} (k : Int) (h : KidsAt w base v l) (hb0 : base ≤ w.heap.size) (hn2 : l.length ≤ 1000000) :
    Calls Tryd.prog 110 #[.int .i64 k, v] w (MakesTree base (joinT k l) w) := by
  by_cases hn : l.length = 1
  · match l, hn with
    | [t], _ => exact joined_one k h hb0
  · rw [joinT_more k hn]
    exact joined_more k h hb0 hn hn2

end Go.Proofs.YtlaglkbcladfbaaDoor
