/- A rule is read by the program as the words say; for every text of at most 50000 bytes. -/
import Derived.Test.YtlaglkbcladfbaaDoorRElem
namespace Go.Proofs.YtlaglkbcladfbaaDoor
open Go.RowKit
set_option linter.unusedVariables false
set_option linter.unusedSimpArgs false

/-- All of the ring. -/
theorem alts_all : ∀ k, AskTo 85 .alts k := by
  intro k
  induction k using Nat.strongRecOn with
  | _ k ih => exact alts_step (conc_step (rep_step (elem_step ih)))

/-- The fields of a rule. -/
structure LV where
  name : ByteArray
  more : Bool
  expr : XV
def LV.arr (y : LV) : Array Value := #[.string y.name, .bool y.more, .int .i64 y.expr.kind, .string y.expr.text, y.expr.ns, .int .i64 y.expr.lo, .int .i64 y.expr.hi, y.expr.ks]
def LV.val (y : LV) : Value := .agg y.arr
theorem sizeL : (Tryd.prog.info? 45).map (·.size) = some 8 := by kernel_rfl

def LineAt (W : World) (P : Nat → Prop) (y : LV) (r : Rule) : Prop := y.name = strOf r.name ∧ y.more = r.more ∧ TreeAt W P y.expr r.expr

def GivesRule (R : Nat) (s : ByteArray) (d : Nat) (g : Got Rule) (w : World) (e : Ending) (w' : World) : Prop :=
  match g with
  | .ok r q => ∃ y : LV, LineAt w' (fun b => w.heap.size ≤ b) y r ∧ q ≤ s.size ∧ Gives R s d y.val q w e w'
  | .err c => Fails R c w e w'
def ReadsRule (R : Nat) (s : ByteArray) (d p : Nat) (w : World) (e : Ending) (w' : World) : Prop := ∃ r : Got Rule, RuleAt (rd s) p r ∧ GivesRule R s d r w e w'

/-- A block that holds these eight cells. -/
def Line8 (W : World) (g : Nat) (cs : Array Value) : Prop := W.heap[g]? = some (.cells cs 45 (0, 0)) ∧ cs.size = 8
theorem Line8.lt {W : World} {g : Nat} {cs : Array Value} (h : Line8 W g cs) : g < W.heap.size := (Array.getElem?_eq_some_iff.1 h.1).1
theorem Line8.keep {W W' : World} {g : Nat} {cs : Array Value} (h : Line8 W g cs) (hk : W'.heap[g]? = W.heap[g]?) : Line8 W' g cs := ⟨hk.trans h.1, h.2⟩
theorem Line8.grown {W W' : World} {g R : Nat} {cs : Array Value} (h : Line8 W g cs) (hg : W.grownBy W' (some R)) (hne : g ≠ R) : Line8 W' g cs := h.keep (hg.block g h.lt (fun e => hne (Option.some.inj e)))
theorem Line8.set {W : World} {g j : Nat} {cs : Array Value} (h : Line8 W g cs) (v : Value) : Line8 (W.setCell ⟨g, j, none⟩ v) g (cs.setIfInBounds j v) :=
  ⟨by rw [setCell_eq_setRow _ _ _ _ _ _ _ h.1]; exact setRow_heap _ _ _ _ _ _ h.1, by rw [Array.size_setIfInBounds]; exact h.2⟩
theorem Line8.other {W : World} {g k j : Nat} {cs : Array Value} (h : Line8 W g cs) (v : Value) (hne : g ≠ k) : Line8 (W.setCell ⟨k, j, none⟩ v) g cs := h.keep (Below.heap_setCell _ _ _ _ hne)
theorem Line8.row {W : World} {g : Nat} {cs : Array Value} (h : Line8 W g cs) (cs' : Array Value) (hs : cs'.size = 8) : Line8 (W.setRow g cs') g cs' := ⟨setRow_heap _ _ _ _ _ _ h.1, hs⟩
theorem Line8.orow {W : World} {g k : Nat} {cs : Array Value} (h : Line8 W g cs) (cs' : Array Value) (hne : g ≠ k) : Line8 (W.setRow k cs') g cs := h.keep (setRow_other _ _ _ _ hne)
theorem Line8.cell {W : World} {g : Nat} {cs : Array Value} (h : Line8 W g cs) (j : Nat) (v : Value) (hj : cs[j]? = some v) : W.cell? ⟨g, j, none⟩ = some v ∧ W.frozen? ⟨g, j, none⟩ = false := by
  constructor
  · simp only [World.cell?, h.1]; exact hj
  · simp [World.frozen?, h.1]

theorem cells_from (g : Nat) : ∀ (vs : List Value) (i : Nat), storeCells ⟨g, 2, none⟩ vs i = storeCells ⟨g, 0, none⟩ vs (2 + i)
  | [], _ => rfl
  | v :: rest, i => by
    have e : (⟨g, 2, none⟩ : Addr).add i = (⟨g, 0, none⟩ : Addr).add (2 + i) := by
      unfold Addr.add
      by_cases h : i = 0
      · subst h; simp
      · simp [h]
    unfold storeCells
    rw [e, cells_from g rest (i + 1)]
    rfl

/-- An expression is stored behind the two first cells of a rule. -/
theorem store_expr {ops : Array Oper} {rest : List Oper} {o : Oper} {a : Act} {w : World} {Q : Exit → Act → World → Prop} (hgd : o.guard = none) (x y : Operand) (ho : o.op = .store 43 x y)
    (g : Nat) (X : XV) (cs : Array Value) (n m : Value) (hx : a.eval x = .pointer (some ⟨g, 2, none⟩)) (hy : a.eval y = X.val) (hg : Line8 w g cs) (hcs : cs.toList.take 2 = [n, m]) (h1 : X.ns.oneCell' = true) (h2 : X.ks.oneCell' = true)
    (h : wpList Tryd.prog ops Q rest (a.put o.dst undef) (w.setRow g #[n, m, .int .i64 X.kind, .string X.text, X.ns, .int .i64 X.lo, .int .i64 X.hi, X.ks])) : wpList Tryd.prog ops Q (o :: rest) a w := by
  have hrun : (storeVar 43 ⟨g, 2, none⟩ X.val).run Tryd.prog w = .ok () (w.setRow g #[n, m, .int .i64 X.kind, .string X.text, X.ns, .int .i64 X.lo, .int .i64 X.hi, X.ks]) := by
    have h3 := run_storeCells_from (P := Tryd.prog) g 45 X.cells 2 cs w hg.1 (by rw [hg.2]; rfl) (by
      intro u hu
      simp [XV.cells] at hu
      rcases hu with rfl | rfl | rfl | rfl | rfl | rfl
      all_goals first | rfl | assumption)
    rw [hcs] at h3
    cases hq : Tryd.prog.info? 43 with
    | none => have := sizeX; rw [hq] at this; cases this
    | some i =>
      have hs : i.size = 6 := by have := sizeX; rw [hq] at this; simpa using this
      have hc := cells_from g X.cells 0
      simp [storeVar, sizeOf, typeInfo, hq, XV.val, Value.cells, hs]
      exact (congrArg (fun m => Sem.run Tryd.prog m w) hc).trans h3
  refine wpList_plain hgd fun K hK => ?_
  unfold Oper.wp execOp
  simp only [ho, hx, hy, Instr.storeAt, Instr.sureAddr, Sem.run_bind, Sem.run_pure, Result.andThen_ok, hrun]
  exact hK _ _ h

theorem load_line {ops : Array Oper} {rest : List Oper} {o : Oper} {a : Act} {w : World} {Q : Exit → Act → World → Prop} (hgd : o.guard = none) (x : Operand) (ho : o.op = .load 45 x)
    (g : Nat) (y : LV) (hx : a.eval x = .pointer (some ⟨g, 0, none⟩)) (hg : Line8 w g y.arr)
    (h : wpList Tryd.prog ops Q rest (a.put o.dst y.val) w) : wpList Tryd.prog ops Q (o :: rest) a w :=
  wpList_load_row hgd 45 x ho g hx 45 y.arr (0, 0) _ hg.1 Tryd.underlying45 rfl sizeL h
theorem store_line {ops : Array Oper} {rest : List Oper} {o : Oper} {a : Act} {w : World} {Q : Exit → Act → World → Prop} (hgd : o.guard = none) (x z : Operand) (ho : o.op = .store 45 x z)
    (g : Nat) (y : LV) (cs : Array Value) (hx : a.eval x = .pointer (some ⟨g, 0, none⟩)) (hy : a.eval z = y.val) (hg : Line8 w g cs) (h1 : y.expr.ns.oneCell' = true) (h2 : y.expr.ks.oneCell' = true)
    (h : wpList Tryd.prog ops Q rest (a.put o.dst undef) (w.setRow g y.arr)) : wpList Tryd.prog ops Q (o :: rest) a w :=
  wpList_store_row hgd 45 x z ho g y.arr hx hy 45 cs hg.1 sizeL (by rw [hg.2]; rfl) (by simp [LV.arr, h1, h2]; exact ⟨rfl, rfl, rfl, rfl, rfl, rfl⟩) h
theorem run_line {fn : Func} {p : Tmp} (h : fn.results = #[.cell p 45]) (tmps : Array Value) (w : World) (g : Nat) (y : LV) (cs : Array Value) (hp : tmps.getD p undef = .pointer (some ⟨g, 0, none⟩)) (hg : Line8 w g cs) :
    (results fn tmps).run Tryd.prog (w.setRow g y.arr) = .ok y.val (w.setRow g y.arr) :=
  results_cell_row h tmps _ g 45 y.arr (0, 0) _ hp (setRow_heap _ _ _ _ _ _ hg.1) Tryd.underlying45 rfl sizeL

end Go.Proofs.YtlaglkbcladfbaaDoor
