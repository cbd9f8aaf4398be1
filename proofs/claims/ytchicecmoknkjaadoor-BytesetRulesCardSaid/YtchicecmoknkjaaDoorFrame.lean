/- How a set among a law's arguments is opened and read again; what a law owes behind its walk. For all sets. -/
import Derived.Test.YtchicecmoknkjaaDoorCards
import Derived.Test.YtchicecmoknkjaaDoorTie
import Derived.Test.YtchicecmoknkjaaDoorAwk
import Derived.WalkKit
import Derived.ProofKit
import Derived.OpenShut
import Derived.Laws.IdiomArrays
import Derived.LaidMore
import Derived.Lay
import Derived.Carry
import Derived.ChangeSlices
import Derived.ChangeMaps5
import Derived.SevenTiedAt
import Derived.Stop.Joined
import Derived.LaidSub
import Derived.Lib.LaidTab
namespace Go.Proofs.YtchicecmoknkjaaDoor
open Go.ChangeShapes Go.WideShapes Go.ChangeAt Go.RowKit

theorem noKnob : ownKnob Tryd.prog.godebug = none := by kernel_rfl
theorem cellsWord : Tryd.prog.cellsOf 22 = 1 := by kernel_rfl
theorem cellsSet : Tryd.prog.cellsOf 24 = 4 := by kernel_rfl

set_option maxRecDepth 100000 in
theorem list4 {α : Type} (l : List α) (h : (⟨l⟩ : Array α).size = 4) : ∃ a b c d, l = [a, b, c, d] := by
  match l, h with
  | [a, b, c, d], _ => exact ⟨a, b, c, d, rfl⟩

theorem laidOutP : laidOutB Tryd.prog = true := by kernel_rfl
theorem tab_of_laid {l : List (String × DataW Unit)} {W : World} (h : laidMetH Tryd.prog l W) (hp : laidMetH Tryd.prog l W = laidMet Tryd.prog l W)
    (e1 : l.filter (fun x => x.1 == "math/bits.deBruijn64tab") = [("math/bits.deBruijn64tab", Lib.tabData .u8 bruijnTab)]) : TabD W := by
  rw [hp] at h
  have h1 := laidMet.filter (fun x => x.1 == "math/bits.deBruijn64tab") h
  rw [e1] at h1
  exact Lib.tabIs_of_head (g := 0) (t := 121) (e := 5) (n := 64) (by kernel_rfl) (by kernel_rfl) Tryd.underlying121 Tryd.underlying5 (by kernel_rfl) (by kernel_rfl) h1

section
variable {H : Type} {enc : TypeId × Value → H}

/-- The datum of a set. -/
def setD (a0 a1 a2 a3 : Int) : DataW H := .agg [.lit (.int .u64 a0), .lit (.int .u64 a1), .lit (.int .u64 a2), .lit (.int .u64 a3)]

theorem bounds_u8 {x : Int} (h : (Lit.int .u8 x).wf = true) : 0 ≤ x ∧ x ≤ 255 := by simpa [Lit.wf, IntKind.min, IntKind.max, IntKind.signed, IntKind.bits] using h
theorem bounds_i64 {x : Int} (h : (Lit.int .i64 x).wf = true) : -9223372036854775808 ≤ x ∧ x ≤ 9223372036854775807 := by simpa [Lit.wf, IntKind.min, IntKind.max, IntKind.signed, IntKind.bits] using h
theorem wf_u64 {x : Int} (h : (Lit.int .u64 x).wf = true) : 0 ≤ x ∧ x ≤ 18446744073709551615 := by simpa [Lit.wf, IntKind.min, IntKind.max, IntKind.signed, IntKind.bits] using h

set_option maxRecDepth 100000 in
theorem open_set {W : World} {base b0 : Nat} {sp : Nat → Bool} {v : Value} {d : DataW H} {p : List MemPlace} (hval : Value.okWide Tryd.prog W .any base 24 v) (h : DataW.Trod enc Tryd.prog W b0 sp true 24 v d p) :
    ∃ a0 a1 a2 a3 : Int, v = .agg #[.int .u64 a0, .int .u64 a1, .int .u64 a2, .int .u64 a3] ∧ d = setD a0 a1 a2 a3 ∧ p = [] ∧ ((Lit.int .u64 a0).wf = true ∧ (Lit.int .u64 a1).wf = true ∧ (Lit.int .u64 a2).wf = true ∧ (Lit.int .u64 a3).wf = true) ∧ IsSet a0 a1 a2 a3 (memb a0 a1 a2 a3) := by
  obtain ⟨cs, rfl, hsz, _⟩ : ∃ cs, v = .agg cs ∧ cs.size = Tryd.prog.cellsOf 24 ∧ Row.okWide Tryd.prog W .any base 24 cs := by
    simpa [Value.okWide, Tryd.underlying24] using hval
  rw [cellsSet] at hsz
  obtain ⟨l⟩ := cs
  obtain ⟨c0, c1, c2, c3, rfl⟩ := list4 l hsz
  obtain ⟨fuel, hf⟩ := h
  obtain ⟨y0, y1, y2, y3, m, hx, hy0, hy1, hy2, hy3⟩ := trod_array4 Tryd.underlying24 cellsWord hf
  obtain ⟨x0, e0, rfl, w0⟩ := DataW.trod_int Tryd.underlying22 hy0
  obtain ⟨x1, e1, rfl, w1⟩ := DataW.trod_int Tryd.underlying22 hy1
  obtain ⟨x2, e2, rfl, w2⟩ := DataW.trod_int Tryd.underlying22 hy2
  obtain ⟨x3, e3, rfl, w3⟩ := DataW.trod_int Tryd.underlying22 hy3
  simp at e0 e1 e2 e3
  subst e0 e1 e2 e3
  simp only [Prod.mk.injEq] at hx
  obtain ⟨rfl, rfl⟩ := hx
  exact ⟨x0, x1, x2, x3, rfl, rfl, rfl, ⟨w0, w1, w2, w3⟩, IsSet.of _ _ _ _ (wf_u64 w0) (wf_u64 w1) (wf_u64 w2) (wf_u64 w3)⟩

set_option maxRecDepth 100000 in
theorem shut_set {W : World} {b0 : Nat} {sp : Nat → Bool} {hd : Bool} {a0 a1 a2 a3 : Int} (h : (Lit.int .u64 a0).wf = true ∧ (Lit.int .u64 a1).wf = true ∧ (Lit.int .u64 a2).wf = true ∧ (Lit.int .u64 a3).wf = true) :
    DataW.Trod enc Tryd.prog W b0 sp hd 24 (.agg #[.int .u64 a0, .int .u64 a1, .int .u64 a2, .int .u64 a3]) (setD a0 a1 a2 a3) [] := by
  obtain ⟨w0, w1, w2, w3⟩ := h
  exact ⟨2, by simp [setD, DataW.trod, Value.cells, Tryd.underlying24, Tryd.underlying22, cellsSet, cellsWord, w0, w1, w2, w3, show List.range 4 = [0, 1, 2, 3] from rfl]⟩

/-- What a law owes behind its walk, where its arguments are read by value. -/
theorem post_of_below {P : Program} {f : Func} {s : ChangeSpec} {fresh handsOn : Bool} {W W' : World} {args : Array Value} {v : Value} {ds gs : List (DataW H)} {before pa pv : List MemPlace}
    (hW : DataW.Whole enc P f.params.toList s.vars false W args.toList ds gs before)
    (hres : ∀ (b : Nat) (sp : Nat → Bool) (hd : Bool), DataW.TrodAll enc P W' b sp hd f.resultTypes.toList (v.resultList f.resultTypes.size) (s.fn H (ds ++ gs)).results [])
    (hargs : ∀ sp : Nat → Bool, DataW.TrodAll enc P W' 0 sp true f.params.toList args.toList (s.fn H (ds ++ gs)).args pa)
    (hvars : ∀ sp : Nat → Bool, DataW.TrodVars enc P W' sp s.vars (s.fn H (ds ++ gs)).vars pv)
    (hps : before = pa ++ pv) (hb : Below W.heap.size W W') :
    s.post enc P f false fresh handsOn false W args v W' := by
  refine ⟨ds, gs, before, [], pa, pv, hW, hres _ _ _, hargs _, hvars _, World.keptBut_mono (fun p hp => ⟨hp, ?_⟩) (hb.frame _), fun h => by cases h⟩
  rw [hps, List.mem_append] at hp
  exact Or.inr hp
/-- What a law owes behind its walk, where an argument lies in memory. -/
theorem post_of_old {P : Program} {f : Func} {s : ChangeSpec} {fresh handsOn : Bool} {W W' : World} {args : Array Value} {v : Value} {ds gs : List (DataW H)} {before pa pv : List MemPlace}
    (hW : DataW.Whole enc P f.params.toList s.vars false W args.toList ds gs before)
    (hres : ∀ (b : Nat) (sp : Nat → Bool) (hd : Bool), DataW.TrodAll enc P W' b sp hd f.resultTypes.toList (v.resultList f.resultTypes.size) (s.fn H (ds ++ gs)).results [])
    (hargs : DataW.TrodAll enc P W' 0 (fun b => decide (b < W.heap.size)) true f.params.toList args.toList (s.fn H (ds ++ gs)).args pa)
    (hvars : ∀ sp : Nat → Bool, DataW.TrodVars enc P W' sp s.vars (s.fn H (ds ++ gs)).vars pv)
    (hps : before = pa ++ pv) (hb : Below W.heap.size W W') :
    s.post enc P f false fresh handsOn false W args v W' := by
  refine ⟨ds, gs, before, [], pa, pv, hW, hres _ _ _, hargs, hvars _, World.keptBut_mono (fun p hp => ⟨hp, ?_⟩) (hb.frame _), fun h => by cases h⟩
  rw [hps, List.mem_append] at hp
  exact Or.inr hp
end

/-! ### Two boxes, each with a set, through whatever calls -/

/-- Block B holds a set, cell by cell. -/
def Cells4 (W : World) (B : Nat) (a0 a1 a2 a3 : Int) : Prop :=
  W.cell? ⟨B, 0, none⟩ = some (.int .u64 a0) ∧ W.cell? ⟨B, 1, none⟩ = some (.int .u64 a1) ∧ W.cell? ⟨B, 2, none⟩ = some (.int .u64 a2) ∧ W.cell? ⟨B, 3, none⟩ = some (.int .u64 a3)

theorem Box4.cells {W : World} {B : Nat} {a0 a1 a2 a3 : Int} (h : Box4 W B a0 a1 a2 a3) : Cells4 W B a0 a1 a2 a3 := ⟨h.cell0, h.cell1, h.cell2, h.cell3⟩

def One (w : World) (a0 a1 a2 a3 : Int) (W : World) : Prop := Cells4 W w.heap.size a0 a1 a2 a3 ∧ Box4 W w.heap.size a0 a1 a2 a3 ∧ Below w.heap.size w W

theorem One.of {w W : World} {a0 a1 a2 a3 : Int} (ha : Box4 W w.heap.size a0 a1 a2 a3) (h : Below w.heap.size w W) : One w a0 a1 a2 a3 W := ⟨ha.cells, ha, h⟩
theorem One.step {w : World} {a0 a1 a2 a3 : Int} {W W' : World} (hb : Below W.heap.size W W') (h : One w a0 a1 a2 a3 W) : One w a0 a1 a2 a3 W' :=
  One.of (h.2.1.below hb h.2.1.lt) (below_step h.2.2 hb)
theorem One.drew {w : World} {a0 a1 a2 a3 : Int} {W : World} (h : One w a0 a1 a2 a3 W) : One w a0 a1 a2 a3 W.drew := One.of h.2.1.drew h.2.2.drew

def Two (w : World) (a0 a1 a2 a3 b0 b1 b2 b3 : Int) (W : World) : Prop :=
  Cells4 W w.heap.size a0 a1 a2 a3 ∧ Cells4 W (w.heap.size + 1) b0 b1 b2 b3 ∧ Box4 W w.heap.size a0 a1 a2 a3 ∧ Box4 W (w.heap.size + 1) b0 b1 b2 b3 ∧ Below w.heap.size w W

theorem Two.of {w W : World} {a0 a1 a2 a3 b0 b1 b2 b3 : Int} (ha : Box4 W w.heap.size a0 a1 a2 a3) (hb : Box4 W (w.heap.size + 1) b0 b1 b2 b3) (h : Below w.heap.size w W) : Two w a0 a1 a2 a3 b0 b1 b2 b3 W := ⟨ha.cells, hb.cells, ha, hb, h⟩
theorem Two.step {w : World} {a0 a1 a2 a3 b0 b1 b2 b3 : Int} {W W' : World} (hb : Below W.heap.size W W') (h : Two w a0 a1 a2 a3 b0 b1 b2 b3 W) : Two w a0 a1 a2 a3 b0 b1 b2 b3 W' :=
  Two.of (h.2.2.1.below hb h.2.2.1.lt) (h.2.2.2.1.below hb h.2.2.2.1.lt) (below_step h.2.2.2.2 hb)
theorem Two.drew {w : World} {a0 a1 a2 a3 b0 b1 b2 b3 : Int} {W : World} (h : Two w a0 a1 a2 a3 b0 b1 b2 b3 W) : Two w a0 a1 a2 a3 b0 b1 b2 b3 W.drew := Two.of h.2.2.1.drew h.2.2.2.1.drew h.2.2.2.2.drew

def Three (w : World) (a0 a1 a2 a3 b0 b1 b2 b3 c0 c1 c2 c3 : Int) (W : World) : Prop :=
  Cells4 W w.heap.size a0 a1 a2 a3 ∧ Cells4 W (w.heap.size + 1) b0 b1 b2 b3 ∧ Cells4 W (w.heap.size + 1 + 1) c0 c1 c2 c3 ∧ Box4 W w.heap.size a0 a1 a2 a3 ∧ Box4 W (w.heap.size + 1) b0 b1 b2 b3 ∧ Box4 W (w.heap.size + 1 + 1) c0 c1 c2 c3 ∧ Below w.heap.size w W

theorem Three.of {w W : World} {a0 a1 a2 a3 b0 b1 b2 b3 c0 c1 c2 c3 : Int} (ha : Box4 W w.heap.size a0 a1 a2 a3) (hb : Box4 W (w.heap.size + 1) b0 b1 b2 b3) (hc : Box4 W (w.heap.size + 1 + 1) c0 c1 c2 c3) (h : Below w.heap.size w W) : Three w a0 a1 a2 a3 b0 b1 b2 b3 c0 c1 c2 c3 W := ⟨ha.cells, hb.cells, hc.cells, ha, hb, hc, h⟩
theorem Three.step {w : World} {a0 a1 a2 a3 b0 b1 b2 b3 c0 c1 c2 c3 : Int} {W W' : World} (hb : Below W.heap.size W W') (h : Three w a0 a1 a2 a3 b0 b1 b2 b3 c0 c1 c2 c3 W) : Three w a0 a1 a2 a3 b0 b1 b2 b3 c0 c1 c2 c3 W' :=
  Three.of (h.2.2.2.1.below hb h.2.2.2.1.lt) (h.2.2.2.2.1.below hb h.2.2.2.2.1.lt) (h.2.2.2.2.2.1.below hb h.2.2.2.2.2.1.lt) (below_step h.2.2.2.2.2.2 hb)
theorem Three.drew {w : World} {a0 a1 a2 a3 b0 b1 b2 b3 c0 c1 c2 c3 : Int} {W : World} (h : Three w a0 a1 a2 a3 b0 b1 b2 b3 c0 c1 c2 c3 W) : Three w a0 a1 a2 a3 b0 b1 b2 b3 c0 c1 c2 c3 W.drew := Three.of h.2.2.2.1.drew h.2.2.2.2.1.drew h.2.2.2.2.2.1.drew h.2.2.2.2.2.2.drew

theorem One.tab {w W : World} {a0 a1 a2 a3 : Int} (hT : TabD w) (h : One w a0 a1 a2 a3 W) : TabD W := hT.stays h.2.2
theorem Two.tab {w W : World} {a0 a1 a2 a3 b0 b1 b2 b3 : Int} (hT : TabD w) (h : Two w a0 a1 a2 a3 b0 b1 b2 b3 W) : TabD W := hT.stays h.2.2.2.2
theorem Three.tab {w W : World} {a0 a1 a2 a3 b0 b1 b2 b3 c0 c1 c2 c3 : Int} (hT : TabD w) (h : Three w a0 a1 a2 a3 b0 b1 b2 b3 c0 c1 c2 c3 W) : TabD W := hT.stays h.2.2.2.2.2.2
/-- Contracts by number, hidden from the walk. -/
theorem count_h (a0 a1 a2 a3 : Int) (f : Nat → Bool) (N : Nat) (w : World) (ha : IsSet a0 a1 a2 a3 f) (hN : Hid (N = cnt f 256)) (hT : TabD w) :
    Calls Tryd.prog 24 #[.agg #[.int .u64 a0, .int .u64 a1, .int .u64 a2, .int .u64 a3]] w (RetNum N w) := by
  rw [hN.out]; exact count_any a0 a1 a2 a3 f w ha hT
theorem refcount_h (a0 a1 a2 a3 : Int) (f : Nat → Bool) (N : Nat) (w : World) (ha : IsSet a0 a1 a2 a3 f) (hN : Hid (N = cnt f 256)) :
    Calls Tryd.prog 25 #[.agg #[.int .u64 a0, .int .u64 a1, .int .u64 a2, .int .u64 a3]] w (RetNum N w) := by
  rw [hN.out]; exact refcount_any a0 a1 a2 a3 f w ha
theorem has_b (a0 a1 a2 a3 b : Int) (f : Nat → Bool) (w : World) (ha : IsSet a0 a1 a2 a3 f) :
    Calls Tryd.prog 26 #[.agg #[.int .u64 a0, .int .u64 a1, .int .u64 a2, .int .u64 a3], .int .i64 b] w (RetBool (hasB f b) w) :=
  (has_any a0 a1 a2 a3 b f w ha).mono fun e w' ⟨he, hw⟩ => ⟨he, by subst hw; exact (Below.refl _ _).alloc (Nat.le_refl _) _⟩
theorem refhas_b (a0 a1 a2 a3 b : Int) (f : Nat → Bool) (w : World) (ha : IsSet a0 a1 a2 a3 f) :
    Calls Tryd.prog 27 #[.agg #[.int .u64 a0, .int .u64 a1, .int .u64 a2, .int .u64 a3], .int .i64 b] w (RetBool (hasB f b) w) :=
  (refhas_any a0 a1 a2 a3 b f w ha).mono fun e w' ⟨he, hw⟩ => ⟨he, by subst hw; exact (Below.refl _ _).alloc (Nat.le_refl _) _⟩

/-- Two sets compared by '=='. -/
theorem eql_set (a0 a1 a2 a3 b0 b1 b2 b3 : Int) (w : World) :
    (Op.equalIn 10000 24 (.agg #[.int .u64 a0, .int .u64 a1, .int .u64 a2, .int .u64 a3]) (.agg #[.int .u64 b0, .int .u64 b1, .int .u64 b2, .int .u64 b3])).run Tryd.prog w = .ok (a0 == b0 && (a1 == b1 && (a2 == b2 && a3 == b3))) w := by
  rw [Op.equalIn]
  simp only [Sem.run_bind, run_underlying Tryd.underlying24, Result.andThen_ok]
  simp [Std.Legacy.Range.forIn_eq_forIn_range', List.range', go_sem]
  by_cases h0 : a0 = b0 <;> by_cases h1 : a1 = b1 <;> by_cases h2 : a2 = b2 <;> by_cases h3 : a3 = b3 <;> simp [h0, h1, h2, h3]

end Go.Proofs.YtchicecmoknkjaaDoor
