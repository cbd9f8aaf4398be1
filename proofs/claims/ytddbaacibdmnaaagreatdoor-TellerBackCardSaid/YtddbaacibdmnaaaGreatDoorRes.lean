/- Expressions in blocks of their own: stored, loaded, put in rows and appended; what else stays. No condition. -/
import Derived.Test.YtddbaacibdmnaaaGreatDoorVal
import Derived.Great.BuildSlice
import Derived.KernelRfl
import Derived.Laws.Tables
import Derived.Laws.NewBlocks
import Derived.Laws.CopyOwn
namespace Go.Proofs.YtddbaacibdmnaaaGreatDoor
open Go.RowKit
set_option linter.unusedVariables false
set_option linter.unusedSimpArgs false

theorem grown_refl (w : World) (row : Option Nat) : w.grownBy w row := ⟨rfl, rfl, rfl, Nat.le_refl _, fun _ _ _ => rfl⟩

theorem grown_drew {w w' : World} {row : Option Nat} (h : w.grownBy w' row) (n : Nat) : w.grownBy (w'.drewN n) row := ⟨h.os, h.tape, h.output, h.size, h.block⟩

theorem grown_alloc {w w' : World} {row : Option Nat} (h : w.grownBy w' row) (o : Obj) : w.grownBy (w'.alloc o) row := h.trans (World.grownBy_alloc w' o row)

theorem grown_set {w w' : World} {R : Nat} (h : w.grownBy w' (some R)) (k : Nat) (v : Value) : w.grownBy (w'.setCell ⟨R, k, none⟩ v) (some R) :=
  h.trans ⟨rfl, rfl, rfl, by simp [World.setCell], fun i _ hi => Below.heap_setCell _ _ _ _ (fun e => hi (by rw [e]))⟩

theorem grown_below {w w1 w' : World} {row : Option Nat} (h : w.grownBy w1 row) (hb : Below w1.heap.size w1 w') : w.grownBy w' row :=
  h.trans ⟨hb.os, hb.tape, hb.output, hb.size, fun k hk _ => hb.block k hk⟩

/-- The cells of an expression that says nothing. -/
def zeroX : Array Value := #[.int .i64 0, .string ⟨#[]⟩, .slice none 0 0, .int .i64 0, .int .i64 0, .slice none 0 0]

def XV.arr (x : XV) : Array Value := #[.int .i64 x.kind, .string x.text, x.ns, .int .i64 x.lo, .int .i64 x.hi, x.ks]

theorem sizeX : (Tryz.prog.info? 36).map (·.size) = some 6 := by kernel_rfl

/-- A block that holds an expression's cells, which the call itself has made for its result. -/
def Res0 (W : World) (g : Nat) : Prop := ∃ cs : Array Value, cs.size = 6 ∧ W.heap[g]? = some (.cells cs 36 (0, 0))

theorem res_new (w : World) : Res0 (w.alloc (.cells #[.int .i64 0, .string ⟨#[]⟩, .slice none 0 0, .int .i64 0, .int .i64 0, .slice none 0 0] 36)) w.heap.size := ⟨_, rfl, heap_alloc_new w _⟩

theorem Res0.kept {W W' : World} {g : Nat} (h : Res0 W g) (hk : W'.heap[g]? = W.heap[g]?) : Res0 W' g := by
  obtain ⟨cs, h1, h2⟩ := h
  exact ⟨cs, h1, hk.trans h2⟩

theorem Res0.lt {W : World} {g : Nat} (h : Res0 W g) : g < W.heap.size := by
  obtain ⟨cs, _, h2⟩ := h
  exact (Array.getElem?_eq_some_iff.1 h2).1

/-- The store into the result's block. -/
theorem store_res {ops : Array Oper} {rest : List Oper} {o : Oper} {a : Act} {w : World} {Q : Exit → Act → World → Prop} (hgd : o.guard = none) (x y : Operand) (ho : o.op = .store 36 x y)
    (g : Nat) (X : XV) (hx : a.eval x = .pointer (some ⟨g, 0, none⟩)) (hy : a.eval y = X.val) (hg : Res0 w g) (h1 : X.ns.oneCell' = true) (h2 : X.ks.oneCell' = true)
    (h : wpList Tryz.prog ops Q rest (a.put o.dst undef) (w.setRow g X.arr)) : wpList Tryz.prog ops Q (o :: rest) a w := by
  obtain ⟨cs, hs, hg⟩ := hg
  exact wpList_store_row hgd 36 x y ho g X.arr hx hy 36 cs hg sizeX (by rw [hs]; rfl) (by simp [XV.arr, h1, h2]; exact ⟨rfl, rfl, rfl, rfl⟩) h

theorem run_res {fn : Func} {p : Tmp} (h : fn.results = #[.cell p 36]) (tmps : Array Value) (w : World) (g : Nat) (X : XV) (hp : tmps.getD p undef = .pointer (some ⟨g, 0, none⟩)) (hg : Res0 w g) :
    (results fn tmps).run Tryz.prog (w.setRow g X.arr) = .ok X.val (w.setRow g X.arr) := by
  obtain ⟨cs, hs, hg⟩ := hg
  exact results_cell_row h tmps _ g 36 X.arr (0, 0) _ hp (setRow_heap _ _ _ _ _ _ hg) Tryz.underlying36 rfl sizeX

theorem grown_row {w w' : World} {row : Option Nat} (h : w.grownBy w' row) {g : Nat} (hg : w.heap.size ≤ g) (cs : Array Value) : w.grownBy (w'.setRow g cs) row :=
  ⟨h.os, h.tape, h.output, by simpa [World.setRow] using h.size, fun k hk hr => (setRow_other _ _ _ _ (by omega)).trans (h.block k hk hr)⟩

theorem TreeAt.set_row {W : World} {P : Nat → Prop} {x : XV} {t : Tree} (h : TreeAt W P x t) {g : Nat} (hg : ∀ b, P b → b ≠ g) (cs : Array Value) : TreeAt (W.setRow g cs) P x t :=
  h.kept (fun b hP hl => ⟨setRow_other _ _ _ _ (hg b hP), hP⟩) (by simp [World.setRow])

theorem RowIn.one {W : World} {P : Nat → Prop} {v : Value} {n : Nat} {xs : List Value} (h : RowIn W P v n xs) : v.oneCell' = true := by
  rcases h with ⟨rfl, _⟩ | ⟨g, cap, rfl, _⟩ <;> rfl

theorem one_cell_ns {W : World} {P : Nat → Prop} {x : XV} {t : Tree} (h : TreeAt W P x t) : x.ns.oneCell' = true := by
  cases h with
  | mk vs h1 h2 h3 h4 => exact h1.one

theorem one_cell_ks {W : World} {P : Nat → Prop} {x : XV} {t : Tree} (h : TreeAt W P x t) : x.ks.oneCell' = true := by
  cases h with
  | mk vs h1 h2 h3 h4 => exact h2.one

theorem grown_own {a b c : World} {R g : Nat} (h : a.grownBy b (some R)) (k : b.grownBy c (some g)) (hg : a.heap.size ≤ g) : a.grownBy c (some R) :=
  ⟨k.os.trans h.os, k.tape.trans h.tape, k.output.trans h.output, Nat.le_trans h.size k.size, fun i hi hne => (k.block i (Nat.lt_of_lt_of_le hi h.size) (fun e => by have := Option.some.inj e; omega)).trans (h.block i hi hne)⟩

theorem res_kept {W W' : World} {g h : Nat} (hr : Res0 W g) (hk : W.grownBy W' (some h)) (hne : g ≠ h) : Res0 W' g := hr.kept (hk.block g hr.lt (fun e => hne (Option.some.inj e)))

theorem res_alloc {W : World} {g : Nat} (hr : Res0 W g) (o : Obj) : Res0 (W.alloc o) g := hr.kept (Below.heap_alloc W o g hr.lt)

/-- Reading a whole expression out of a block. -/
theorem load_res {ops : Array Oper} {rest : List Oper} {o : Oper} {a : Act} {w : World} {Q : Exit → Act → World → Prop} (hgd : o.guard = none) (x : Operand) (ho : o.op = .load 36 x)
    (g : Nat) (X : XV) (hx : a.eval x = .pointer (some ⟨g, 0, none⟩)) (hg : w.heap[g]? = some (.cells X.arr 36 (0, 0)))
    (h : wpList Tryz.prog ops Q rest (a.put o.dst X.val) w) : wpList Tryz.prog ops Q (o :: rest) a w :=
  wpList_load_row hgd 36 x ho g hx 36 X.arr (0, 0) _ hg Tryz.underlying36 rfl sizeX h

theorem infoX : (Tryz.prog.info? 36).map (fun i => (i.zero, i.size, i.bytes)) = some (some (.agg #[.int .i64 0, .string ⟨#[]⟩, .slice none 0 0, .int .i64 0, .int .i64 0, .slice none 0 0]), 6, 88) := by kernel_rfl

theorem fill_one (X : XV) (h1 : X.ns.oneCell' = true) (h2 : X.ks.oneCell' = true) :
    Instr.fill (fun i => some (i * 6, 6)) ((Array.range (1 * 6)).map ((Value.agg #[.int .i64 0, .string ⟨#[]⟩, .slice none 0 0, .int .i64 0, .int .i64 0, .slice none 0 0]).cells[· % 6]!)) [(0, X.val)] = some X.arr := by
  cases X
  kernel_rfl

/-- A slice of one expression. -/
theorem build_one {ops : Array Oper} {rest : List Oper} {o : Oper} {a : Act} {w : World} {Q : Exit → Act → World → Prop} (hgd : o.guard = none) (y : Operand) (ho : o.op = .buildSlice 34 1 #[(0, y)])
    (X : XV) (hy : a.eval y = X.val) (h1 : X.ns.oneCell' = true) (h2 : X.ks.oneCell' = true)
    (h : wpList Tryz.prog ops Q rest (a.put o.dst (.slice (some ⟨w.heap.size, 0, none⟩) 1 1)) (w.alloc (.cells X.arr 36))) : wpList Tryz.prog ops Q (o :: rest) a w := by
  obtain ⟨i0, hi0, hi1⟩ := Option.map_eq_some_iff.1 infoX
  obtain ⟨hz0, hz1, hz2⟩ : i0.zero = some _ ∧ i0.size = 6 ∧ i0.bytes = _ := by simpa using hi1
  refine wpList_buildSlice hgd 34 36 1 #[(0, y)] ho X.arr i0 _ Tryz.underlying34 hi0 hz0 (by rw [hz1]; decide) (by rw [hz1]; decide) ?_ h
  rw [hz1]
  simp only [List.map_toArray, List.map_cons, List.map_nil, hy]
  exact fill_one X h1 h2

theorem res_put {W : World} {g h : Nat} (hr : Res0 W g) (cs : Array Value) (hne : g ≠ h) : Res0 (W.setRow h cs) g := hr.kept (setRow_other _ _ _ _ hne)

theorem res_row {W : World} {g : Nat} (hr : Res0 W g) (cs : Array Value) : (W.setRow g cs).heap[g]? = some (.cells cs 36 (0, 0)) := by
  obtain ⟨c, _, h⟩ := hr
  exact setRow_heap _ _ _ _ _ _ h

theorem cells_new {w : World} {g : Nat} {x : XV} (hb : w.heap[g]? = some (.cells x.arr 36 (0, 0))) : ∀ (j : Nat) (u : Value), x.cells[j]? = some u → w.cell? ((⟨g, 0, none⟩ : Addr).add j) = some u := by
  intro j u hj
  have e : (⟨g, 0, none⟩ : Addr).add j = ⟨g, j, none⟩ := by cases j <;> simp [Addr.add]
  rw [e]
  simp only [World.cell?, hb]
  have : x.arr.toList = x.cells := rfl
  rw [← this] at hj
  simpa using hj

/-- Appending one expression to a row of the call's own. -/
theorem push_kids {ops : Array Oper} {rest : List Oper} {o : Oper} {a : Act} {w : World} {Q : Exit → Act → World → Prop} (hgd : o.guard = none) (sx xx : Operand)
    (ho : o.op = .call { callee := .builtin .append, args := #[sx, xx], argTypes := #[34, 34] }) (base : Nat) (v : Value) (l : List Tree) (t : Tree) (x : XV) (g : Nat)
    (hs : a.eval sx = v) (hx : a.eval xx = .slice (some ⟨g, 0, none⟩) 1 1) (hk : KidsAt w base v l) (ht : TreeAt w (fun b => base ≤ b ∧ some b ≠ v.ownBlock) x t)
    (hb : w.heap[g]? = some (.cells x.arr 36 (0, 0))) (hl : l.length ≤ 100000) (hbase : base ≤ w.heap.size)
    (h : ∀ v' w', KidsAt w' base v' (l ++ [t]) → w.grownBy w' v.ownBlock → wpList Tryz.prog ops Q rest (a.put o.dst v') w') : wpList Tryz.prog ops Q (o :: rest) a w := by
  obtain ⟨i0, hi0, hi1⟩ := Option.map_eq_some_iff.1 infoX
  obtain ⟨hz0, hz1, hz2⟩ : i0.zero = some _ ∧ i0.size = 6 ∧ i0.bytes = _ := by simpa using hi1
  obtain ⟨vs, h1, h2, h3⟩ := hk
  have o2 := one_cell_ns ht
  have o5 := one_cell_ks ht
  refine wpList_append_own_at _ hgd sx xx 34 ho base 36 i0 _ 6 88 Tryz.underlying34 hi0 hz0 hz1 hz2 rfl (by decide) v l.length (vs.flatMap XV.cells) hs h2 ⟨g, 0, none⟩ 1 1 x.cells hx rfl (cells_new hb) ?_ (by unfold maxLen; omega) (by omega) hbase ?_
  · intro u hu
    simp [XV.cells] at hu
    rcases hu with rfl | rfl | rfl | rfl | rfl | rfl
    all_goals first | rfl | assumption
  · intro v' w' hown hgrow _ hat
    exact h v' w' (KidsAt.push h1 h2 h3 ht hown hgrow (hat.imp id (fun e => ⟨_, e, Nat.le_refl _⟩))) hgrow

/-- What an append leaves as it was. -/
theorem kids_grown {W w w' : World} {base R : Nat} {v : Value} {l : List Tree} (hk : KidsAt w base v l) (h : W.grownBy w (some R)) (hg : w.grownBy w' v.ownBlock) (hW : W.heap.size ≤ base) : W.grownBy w' (some R) := by
  obtain ⟨vs, _, h2, _⟩ := hk
  rcases row_forms h2 with ⟨rfl, _⟩ | ⟨g, cap, rfl⟩
  · exact h.trans ⟨hg.os, hg.tape, hg.output, hg.size, fun k hk _ => hg.block k hk (by simp [Value.ownBlock])⟩
  · have hb := (row_base h2).1
    exact grown_own h hg (show W.heap.size ≤ g by omega)

theorem kids_res {w w' : World} {base g : Nat} {v : Value} {l : List Tree} (hk : KidsAt w base v l) (h : Res0 w g) (hg : w.grownBy w' v.ownBlock) (hR : g < base) : Res0 w' g := by
  obtain ⟨vs, _, h2, _⟩ := hk
  refine h.kept (hg.block g h.lt (fun e => ?_))
  rcases row_forms h2 with ⟨rfl, _⟩ | ⟨k, cap, rfl⟩
  · simp [Value.ownBlock] at e
  · have hb := (row_base h2).1
    have := Option.some.inj e
    simp at this
    omega

theorem kids_sep {w w1 : World} {base : Nat} {v : Value} {l : List Tree} {x : XV} {t : Tree} (hk : KidsAt w base v l) (ht : TreeAt w1 (fun b => w.heap.size ≤ b) x t) (hb : base ≤ w.heap.size) : TreeAt w1 (fun b => base ≤ b ∧ some b ≠ v.ownBlock) x t := by
  obtain ⟨vs, _, h2, _⟩ := hk
  refine ht.weak (fun b hP _ => ⟨by omega, fun e => ?_⟩)
  rcases row_forms h2 with ⟨rfl, _⟩ | ⟨k, cap, rfl⟩
  · simp [Value.ownBlock] at e
  · have hb := (row_base h2).2.2.2
    have := Option.some.inj e
    simp at this
    omega

end Go.Proofs.YtddbaacibdmnaaaGreatDoor
