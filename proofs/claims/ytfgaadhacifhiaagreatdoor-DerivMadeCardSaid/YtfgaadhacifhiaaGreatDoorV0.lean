/- Joined texts; each begins with what it says. -/
import Derived.Test.YtfgaadhacifhiaaGreatDoorCards
import Derived.Test.YtfgaadhacifhiaaGreatDoorTie
import Derived.Test.YtfgaadhacifhiaaGreatDoorOwed
import Derived.Test.YtfgaadhacifhiaaGreatDoorW5
import Derived.Laws.IdiomArrays
import Derived.ProofKit
import Derived.OpenShut
import Derived.LaidMore
import Derived.Lay
import Derived.Carry
import Derived.ChangeSlices
import Derived.ChangeMaps5
import Derived.SevenTiedAt
import Derived.Stop.Joined
import Derived.LaidSub
import Derived.Lib.LaidTab
import Derived.Deep.MidRow
import Derived.Laws.Tables
import Derived.Test.YtfgaadhacifhiaaGreatDoorW3
import Derived.Test.YtfgaadhacifhiaaGreatDoorW0
/-! What a law of layer 8 owes besides its walk: its arguments, opened and handed back. No condition. -/
namespace Go.Proofs.YtfgaadhacifhiaaGreatDoor
open Go.ChangeShapes Go.WideShapes Go.ChangeAt Go.RowKit Go.Lib
set_option linter.unusedVariables false
set_option linter.unusedSimpArgs false

theorem laidOutP : laidOutB Tryz.prog = true := by kernel_rfl
theorem cellsByte : Tryz.prog.cellsOf 5 = 1 := by kernel_rfl

theorem bounds_u8 {x : Int} (h : (Lit.int .u8 x).wf = true) : 0 ≤ x ∧ x ≤ 255 := by simpa [Lit.wf, IntKind.min, IntKind.max, IntKind.signed, IntKind.bits] using h
theorem bounds_u16 {x : Int} (h : (Lit.int .u16 x).wf = true) : 0 ≤ x ∧ x ≤ 65535 := by simpa [Lit.wf, IntKind.min, IntKind.max, IntKind.signed, IntKind.bits] using h

/-- A slice of bytes that reads so. -/
def BytesAt (W : World) (v : Value) (zs : List Int) : Prop :=
  ∃ a cap, v = .slice a zs.length cap ∧ zs.length ≤ cap ∧ zs.length ≤ maxLen ∧ (∀ z ∈ zs, 0 ≤ z ∧ z ≤ 255) ∧
    (0 < zs.length → ∃ b off, a = some ⟨b, off, none⟩ ∧ b < W.heap.size ∧ ∀ (i : Nat) (z : Int), zs[i]? = some z → W.cell? ⟨b, off + i, none⟩ = some (.int .u8 z))

theorem BytesAt.below {W W' : World} {v : Value} {zs : List Int} (h : BytesAt W v zs) (hb : Below W.heap.size W W') : BytesAt W' v zs := by
  obtain ⟨a, cap, h1, h2, h3, h4, h5⟩ := h
  refine ⟨a, cap, h1, h2, h3, h4, fun hn => ?_⟩
  obtain ⟨b, off, ha, hlt, hc⟩ := h5 hn
  exact ⟨b, off, ha, Nat.lt_of_lt_of_le hlt hb.size, fun i z hz => (hb.cell (p := ⟨b, off + i, none⟩) hlt).trans (hc i z hz)⟩

theorem bounds_i64 {x : Int} (h : (Lit.int .i64 x).wf = true) : -9223372036854775808 ≤ x ∧ x ≤ 9223372036854775807 := by simpa [Lit.wf, IntKind.min, IntKind.max, IntKind.signed, IntKind.bits] using h

theorem tabs_of_laid {l : List (String × DataW Unit)} {W : World} (h : laidMetH Tryz.prog l W) (hp : laidMetH Tryz.prog l W = laidMet Tryz.prog l W)
    (e1 : l.filter (fun x => x.1 == "math/bits.deBruijn64tab") = [("math/bits.deBruijn64tab", Lib.tabData .u8 bruijnTab)])
    (e2 : l.filter (fun x => x.1 == "internal/strconv.uint64pow10") = [("internal/strconv.uint64pow10", Lib.tabData .u64 Lib.pow10Tab)]) : Tab1 W := by
  rw [hp] at h
  have h1 := laidMet.filter (fun x => x.1 == "math/bits.deBruijn64tab") h
  have h2 := laidMet.filter (fun x => x.1 == "internal/strconv.uint64pow10") h
  rw [e1] at h1
  rw [e2] at h2
  have t1 := Lib.tabIs_of_head (g := 1) (t := 152) (e := 5) (n := 64) (by kernel_rfl) (by kernel_rfl) Tryz.underlying152 Tryz.underlying5 (by kernel_rfl) (by kernel_rfl) h1
  have t2 := Lib.tabIs_of_head (g := 2) (t := 158) (e := 23) (n := 20) (by kernel_rfl) (by kernel_rfl) Tryz.underlying158 Tryz.underlying23 (by kernel_rfl) (by kernel_rfl) h2
  exact ⟨t2, t1⟩

theorem BytesAt.low {W W' : World} {a : Option Addr} {cap : Nat} {zs : List Int} {n : Nat} (h : BytesAt W (.slice a n cap) zs) (hb : Below W.heap.size W W') : n = zs.length ∧ BytesLow W' W'.heap.size (.slice a zs.length cap) zs := by
  obtain ⟨a', cap', h1, h2, h3, h4, h5⟩ := h
  cases h1
  refine ⟨rfl, a, cap, rfl, h2, h3, h4, fun hn => ?_⟩
  obtain ⟨b, off, ha, hlt, hc⟩ := h5 hn
  exact ⟨b, off, ha, Nat.lt_of_lt_of_le hlt hb.size, fun i z hz => (hb.cell (p := ⟨b, off + i, none⟩) hlt).trans (hc i z hz)⟩

theorem cellsWord : Tryz.prog.cellsOf 23 = 1 := by kernel_rfl
theorem cellsSet : Tryz.prog.cellsOf 25 = 4 := by kernel_rfl

theorem list4 {α : Type} (l : List α) (h : (⟨l⟩ : Array α).size = 4) : ∃ a b c d, l = [a, b, c, d] := by
  match l, h with
  | [a, b, c, d], _ => exact ⟨a, b, c, d, rfl⟩

section
variable {H : Type} {enc : TypeId × Value → H}

/-- The datum of a set. -/
def setD (a0 a1 a2 a3 : Int) : DataW H := .agg [.lit (.int .u64 a0), .lit (.int .u64 a1), .lit (.int .u64 a2), .lit (.int .u64 a3)]

theorem wfu64r {x : Int} (h : (Lit.int .u64 x).wf = true) : 0 ≤ x ∧ x ≤ 18446744073709551615 := by simpa [Lit.wf, IntKind.min, IntKind.max, IntKind.signed, IntKind.bits] using h

set_option maxRecDepth 100000 in
theorem open_set {W : World} {base b0 : Nat} {sp : Nat → Bool} {v : Value} {d : DataW H} {p : List MemPlace} (hval : Value.okWide Tryz.prog W .any base 25 v) (h : DataW.Trod enc Tryz.prog W b0 sp true 25 v d p) :
    ∃ a0 a1 a2 a3 : Int, v = .agg #[.int .u64 a0, .int .u64 a1, .int .u64 a2, .int .u64 a3] ∧ d = setD a0 a1 a2 a3 ∧ p = [] ∧ ((Lit.int .u64 a0).wf = true ∧ (Lit.int .u64 a1).wf = true ∧ (Lit.int .u64 a2).wf = true ∧ (Lit.int .u64 a3).wf = true) ∧ IsSet a0 a1 a2 a3 (memb a0 a1 a2 a3) := by
  obtain ⟨cs, rfl, hsz, _⟩ : ∃ cs, v = .agg cs ∧ cs.size = Tryz.prog.cellsOf 25 ∧ Row.okWide Tryz.prog W .any base 25 cs := by
    simpa [Value.okWide, Tryz.underlying25] using hval
  rw [cellsSet] at hsz
  obtain ⟨l⟩ := cs
  obtain ⟨c0, c1, c2, c3, rfl⟩ := list4 l hsz
  obtain ⟨fuel, hf⟩ := h
  obtain ⟨y0, y1, y2, y3, m, hx, hy0, hy1, hy2, hy3⟩ := trod_array4 Tryz.underlying25 cellsWord hf
  obtain ⟨x0, e0, rfl, w0⟩ := DataW.trod_int Tryz.underlying23 hy0
  obtain ⟨x1, e1, rfl, w1⟩ := DataW.trod_int Tryz.underlying23 hy1
  obtain ⟨x2, e2, rfl, w2⟩ := DataW.trod_int Tryz.underlying23 hy2
  obtain ⟨x3, e3, rfl, w3⟩ := DataW.trod_int Tryz.underlying23 hy3
  simp at e0 e1 e2 e3
  subst e0 e1 e2 e3
  simp only [Prod.mk.injEq] at hx
  obtain ⟨rfl, rfl⟩ := hx
  exact ⟨x0, x1, x2, x3, rfl, rfl, rfl, ⟨w0, w1, w2, w3⟩, IsSet.of _ _ _ _ (wfu64r w0) (wfu64r w1) (wfu64r w2) (wfu64r w3)⟩

set_option maxRecDepth 100000 in
theorem shut_set {W : World} {b0 : Nat} {sp : Nat → Bool} {hd : Bool} {a0 a1 a2 a3 : Int} (h : (Lit.int .u64 a0).wf = true ∧ (Lit.int .u64 a1).wf = true ∧ (Lit.int .u64 a2).wf = true ∧ (Lit.int .u64 a3).wf = true) :
    DataW.Trod enc Tryz.prog W b0 sp hd 25 (.agg #[.int .u64 a0, .int .u64 a1, .int .u64 a2, .int .u64 a3]) (setD a0 a1 a2 a3) [] := by
  obtain ⟨w0, w1, w2, w3⟩ := h
  exact ⟨2, by simp [setD, DataW.trod, Value.cells, Tryz.underlying25, Tryz.underlying23, cellsSet, cellsWord, w0, w1, w2, w3, show List.range 4 = [0, 1, 2, 3] from rfl]⟩


set_option maxRecDepth 100000 in
theorem open_bytes {W : World} {base : Nat} {v : Value} {d : DataW H} {p : List MemPlace} (hval : Value.okWide Tryz.prog W .any base 22 v) (h : DataW.Trod enc Tryz.prog W 0 (fun _ => true) true 22 v d p) :
    ∃ zs, BytesAt W v zs := by
  obtain ⟨a0, len, cap, rfl⟩ := okWide_slice Tryz.underlying22 hval
  obtain ⟨fuel, hf⟩ := h
  rcases open_ints Tryz.underlying22 Tryz.underlying5 cellsByte hf with ⟨hcs, hx⟩ | ⟨a, len', cap', zs, hcs, _, hl, hm, hz, hx, hc, hw⟩
  · simp [Value.cells] at hcs
    obtain ⟨rfl, rfl, rfl⟩ := hcs
    exact ⟨[], none, 0, rfl, Nat.le_refl _, Nat.zero_le _, fun z hz => by simp at hz, fun h => by simp at h⟩
  · simp [Value.cells] at hcs
    obtain ⟨rfl, rfl, rfl⟩ := hcs
    simp only [if_true] at hz

    have hlen : (zs.take len).length = len := by rw [List.length_take]; omega
    refine ⟨zs.take len, some a, cap, by rw [hlen], by omega, Nat.le_trans (by omega : (zs.take len).length ≤ cap) hm, fun z hz => bounds_u8 (hw z (List.mem_of_mem_take hz)), fun hn => ?_⟩
    obtain ⟨b, off, spot⟩ := a
    have h0 := hc 0 (by omega)
    have hspot : spot = none := by simpa [Addr.add] using World.cell?_spot h0
    subst hspot
    have hlt : b < W.heap.size := by
      have := World.block_lt_of_cell? W _ h0
      simpa [Addr.add] using this
    refine ⟨b, off, rfl, hlt, fun i z hzi => ?_⟩
    have hi : i < len := by
      have := (List.getElem?_eq_some_iff.1 hzi).1
      omega
    have hci := hc i (by omega)
    rw [List.getElem?_take_of_lt hi] at hzi
    have e : (⟨b, off, none⟩ : Addr).add i = ⟨b, off + i, none⟩ := by cases i <;> simp [Addr.add]
    rw [e, List.getD_eq_getElem?_getD, hzi] at hci
    exact hci

/-- What a law owes behind its walk, where an argument lies in memory. -/
theorem post_of_old {P : Program} {f : Func} {s : ChangeSpec} {fresh handsOn : Bool} {W W' : World} {args : Array Value} {v : Value} {ds gs : List (DataW H)} {before pa pv : List MemPlace}
    (hW : DataW.Whole enc P f.params.toList s.vars false W args.toList ds gs before)
    (hres : ∀ (b : Nat) (sp : Nat → Bool) (hd : Bool), DataW.TrodAll enc P W' b sp hd f.resultTypes.toList (v.resultList f.resultTypes.size) (s.fn H (ds ++ gs)).results [])
    (hargs : DataW.TrodAll enc P W' 0 (fun b => decide (b < W.heap.size)) true f.params.toList args.toList (s.fn H (ds ++ gs)).args pa)
    (hvars : ∀ sp : Nat → Bool, DataW.TrodVars enc P W' sp s.vars (s.fn H (ds ++ gs)).vars pv)
    (hps : before = pa ++ pv) (hb : Below W.heap.size W W') :
    s.post enc P f false fresh handsOn false W args v W' := by
  refine ⟨ds, gs, before, [], pa, pv, hW, hres _ _ _, hargs, hvars _, World.keptBut_mono (fun p hp => ⟨hp, ?_⟩) (hb.frame _), fun h => by cases h⟩
  rw [hps, List.mem_append] at hp
  exact Or.inr hp
end

end Go.Proofs.YtfgaadhacifhiaaGreatDoor

/-! More kinds of operations of a region held by an invariant: fields' places, their slices, lengths, expressions in a row. No condition. -/
namespace Go.Proofs.YtfgaadhacifhiaaGreatDoor
open Go.RowKit Go.Lib
set_option linter.unusedVariables false
set_option linter.unusedSimpArgs false

/-- The operations of a region, wherever it stands. -/
noncomputable def opsIn (n : Nat) : Code → Array Oper
  | .region m ops _ => if m = n then ops else #[]
  | .seq a b => if (opsIn n a).size = 0 then opsIn n b else opsIn n a
  | .cond _ a b => if (opsIn n a).size = 0 then opsIn n b else opsIn n a
  | .block _ c => opsIn n c
  | .loop c => opsIn n c
  | .scope c => opsIn n c
  | _ => #[]
section
variable {ops : Array Oper} {W w w' : World} {v : Value} {i j : Nat} {L : Array Bool} {a : Act} {s : SD} {K : Act → World → Prop} {Q : Exit → Act → World → Prop} {o : Oper}
theorem fa2 (B : Nat) (w : World) : (Instr.fieldAt 28 (.pointer (some ⟨B, 0, none⟩)) 2).run Tryz.prog w = .ok (.pointer (some ⟨B, 5, none⟩)) w := by
  kernel_rfl
theorem opFA {c : Tmp} {B : Nat} (hc : a.tmps.getD c undef = .pointer (some ⟨B, 0, none⟩)) (ho : o.op = .fieldAddr 28 (.tmp c) 2) (hK : ∀ v w', (SD.v (.pointer (some ⟨B, 5, none⟩))).at w' v → Below w.heap.size w w' → K (a.put o.dst v) w') : o.wp Tryz.prog a w K Q := by
  have hx : a.eval (.tmp c) = .pointer (some ⟨B, 0, none⟩) := hc
  have hk := hK (.pointer (some ⟨B, 5, none⟩)) w rfl (Below.refl _ _)
  unfold Oper.wp
  generalize a.eval = ev at hx ⊢
  simp [execOp, ho, hx, fa2]
  exact hk
theorem opLoadS {c : Tmp} {p : Addr} {q : Option Addr} {m cp : Nat} (hc : a.tmps.getD c undef = .pointer (some p)) (hp : w.cell? p = some (.slice q m cp)) (ho : o.op = .load 26 (.tmp c)) (hK : ∀ v w', (SD.v (.slice q m cp)).at w' v → Below w.heap.size w w' → K (a.put o.dst v) w') : o.wp Tryz.prog a w K Q := by
  have hx : a.eval (.tmp c) = .pointer (some p) := hc
  have hk := hK (.slice q m cp) w rfl (Below.refl _ _)
  have hu := Tryz.underlying26
  unfold Oper.wp
  generalize a.eval = ev at hx ⊢
  simp [execOp, ho, hx, hu, hp, go_sem]
  exact hk
theorem opLenS {c : Tmp} {q : Option Addr} {m cp : Nat} (hc : a.tmps.getD c undef = .slice q m cp) (ho : o.op = .call { callee := .builtin .len, args := #[.tmp c], argTypes := #[26] }) (hK : ∀ v w', (SD.v (.int .i64 (m : Int))).at w' v → Below w.heap.size w w' → K (a.put o.dst v) w') : o.wp Tryz.prog a w K Q := by
  have hx : a.eval (.tmp c) = .slice q m cp := hc
  have hk := hK (.int .i64 (m : Int)) w rfl (Below.refl _ _)
  have hu := Tryz.underlying26
  unfold Oper.wp
  generalize a.eval = ev at hx ⊢
  simp [execOp, ho, hx, hu, go_sem]
  exact hk
theorem opPickB {c d : Tmp} {b : Bool} (hc : a.tmps.getD c undef = tt) (hd : a.tmps.getD d undef = .bool b) (ho : o.op = .pick (.tmp c) (.tmp d) (.const (.bool false))) (hK : ∀ v w', (SD.v (.bool b)).at w' v → Below w.heap.size w w' → K (a.put o.dst v) w') : o.wp Tryz.prog a w K Q := by
  have hx : a.eval (.tmp c) = .bool true := hc
  have hy : a.eval (.tmp d) = .bool b := hd
  have hk := hK (.bool b) w rfl (Below.refl _ _)
  unfold Oper.wp
  generalize a.eval = ev at hx hy ⊢
  simp [execOp, ho, hx, hy, go_sem]
  exact hk
theorem opGtI {c : Tmp} {n : Nat} {z : Int} (hz : z < (n : Int)) (hc : a.tmps.getD c undef = .int .i64 (n : Int)) (ho : o.op = .binOp .gtr 3 (.tmp c) (.const (.int .i64 z)) 3) (hK : ∀ v w', (SD.v tt).at w' v → Below w.heap.size w w' → K (a.put o.dst v) w') : o.wp Tryz.prog a w K Q := by
  have hx : a.eval (.tmp c) = .int .i64 (n : Int) := hc
  have hy : a.eval (.const (.int .i64 z)) = .int .i64 z := rfl
  have hk := hK (.bool true) w rfl (Below.refl _ _)
  unfold Oper.wp
  generalize a.eval = ev at hx hy ⊢
  simp [execOp, ho, hx, hy, go_sem, hz]
  exact hk
theorem opIdx0 {c : Tmp} {g off m cp : Nat} (hm : 0 < m) (hc : a.tmps.getD c undef = .slice (some ⟨g, off, none⟩) m cp) (ho : o.op = .indexAddr 26 (.tmp c) (.const (.int .i64 0))) (hK : ∀ v w', (SD.v (.pointer (some ⟨g, off, none⟩))).at w' v → Below w.heap.size w w' → K (a.put o.dst v) w') : o.wp Tryz.prog a w K Q := by
  have hx : a.eval (.tmp c) = .slice (some ⟨g, off, none⟩) m cp := hc
  have hy : a.eval (.const (.int .i64 0)) = .int .i64 0 := rfl
  have hk := hK (.pointer (some ⟨g, off, none⟩)) w rfl (Below.refl _ _)
  have hu := Tryz.underlying26
  unfold Oper.wp
  generalize a.eval = ev at hx hy ⊢
  simp [execOp, ho, hx, hy, hu, hm, go_sem]
  exact hk
theorem opLoadAt {d : Tmp} {g off : Nat} {y : ReV} {t : RT} {P : Nat → Prop} (hd : a.tmps.getD d undef = .pointer (some ⟨g, off, none⟩)) (hp : PlaceR w g off y) (hr : RAt w P y t) (ho : o.op = .load 28 (.tmp d))
    (hK : ∀ v w', (SD.x t).at w' v → Below w.heap.size w w' → K (a.put o.dst v) w') : o.wp Tryz.prog a w K Q := by
  have hv : y.val = .agg y.cells.toArray := by cases y; rfl
  have hcl : y.cells.length = 6 := by cases y; rfl
  refine wp_load_mid 28 (.tmp d) ho g off hd y.cells _ (fun j u hj => hp.2 j u hj) Tryz.underlying28 rfl (by rw [infoReD, hcl]) (hK _ _ ⟨y, hv.symm, hr.weak fun _ _ _ => trivial⟩ (Below.refl _ _))
end

end Go.Proofs.YtfgaadhacifhiaaGreatDoor

/-! A region that draws its order, calls twice and lays both answers into boxes of its own. No condition. -/
namespace Go.Proofs.YtfgaadhacifhiaaGreatDoor
open Go.RowKit Go.Lib
set_option linter.unusedVariables false
set_option linter.unusedSimpArgs false

abbrev zeroC : Array Value := #[.int .i64 0, .int .u64 0, .int .u64 0, .int .u64 0, .int .u64 0, .slice none 0 0]
def ptrTo (g : Nat) : Value := .pointer (some ⟨g, 0, none⟩)
theorem ptr_inj {g h : Nat} : ptrTo g = ptrTo h ↔ g = h := by unfold ptrTo; simp
/-- No box of the region's own, and none that G rules out. -/
def AP (G : Nat → Prop) (L : Array Bool) (a : Act) (g : Nat) : Prop := ((L.getD 12 false = true → a.tmps.getD 8 undef ≠ ptrTo g) ∧ (L.getD 13 false = true → a.tmps.getD 9 undef ≠ ptrTo g)) ∧ G g
/-- What a slot holds: a value; an expression apart from the boxes. -/
def SD.ap (A : Nat → Prop) : SD → World → Value → Prop
  | .v u, _, z => z = u
  | .x t, W, z => ∃ y : ReV, z = y.val ∧ RAt W A y t
  | _, _, _ => False
theorem SD.ap_kept {A A' : Nat → Prop} {s : SD} {W W' : World} {z : Value} (h : s.ap A W z) (hk : Keeps W W' A A') : s.ap A' W' z := by
  cases s with
  | v u => exact h
  | x t => obtain ⟨y, e, h⟩ := h; exact ⟨y, e, h.kept hk⟩
  | b c => exact h
  | k t u => exact h
/-- A box: as it was made, or with the answer. -/
def BoxAt (W : World) (A : Nat → Prop) (w : World) (full : Bool) (t : RT) (v : Value) : Prop :=
  ∃ C, v = ptrTo C ∧ W.heap.size ≤ C ∧ C < w.heap.size ∧ (full = false → w.heap[C]? = some (.cells zeroC 28 (0, 0))) ∧ (full = true → ∃ y : ReV, w.heap[C]? = some (.cells y.cells.toArray 28 (0, 0)) ∧ RAt w A y t)
structure JX (G : Nat → Prop) (S : List SD) (F : Array Value) (ta tb : RT) (W : World) (L : Array Bool) (a : Act) (w : World) : Prop where
  num : a.tmps.size = 45
  dfr : a.defers = []
  low : Below W.heap.size W w
  fix : ∀ k, (k < 20 ∨ 32 ≤ k) → k ≠ 8 → k ≠ 9 → a.tmps.getD k undef = F.getD k undef
  slot : ∀ (i : Nat) (s : SD), i < 12 → S[i]? = some s → L.getD i false = true → s.ap (AP G L a) w (a.tmps.getD (20 + i) undef)
  bx8 : L.getD 12 false = true → BoxAt W (AP G L a) w (L.getD 14 false) ta (a.tmps.getD 8 undef)
  bx9 : L.getD 13 false = true → BoxAt W (AP G L a) w (L.getD 15 false) tb (a.tmps.getD 9 undef)
  apart : L.getD 12 false = true → L.getD 13 false = true → a.tmps.getD 8 undef ≠ a.tmps.getD 9 undef
  in8 : L.getD 14 false = true → L.getD 12 false = true
  in9 : L.getD 15 false = true → L.getD 13 false = true
section
variable {G : Nat → Prop} {S : List SD} {F : Array Value} {ta tb : RT} {W w w' : World} {v : Value} {i j : Nat} {L : Array Bool} {a : Act} {s : SD} {K : Act → World → Prop} {Q : Exit → Act → World → Prop} {o : Oper}
theorem getD_set_ne (h : i ≠ j) : (L.setIfInBounds i true).getD j false = L.getD j false := by
  rw [Array.getD_eq_getD_getElem?, Array.getElem?_setIfInBounds_ne h, ← Array.getD_eq_getD_getElem?]
theorem getD_set_eq (h : i < L.size) : (L.setIfInBounds i true).getD i false = true := by
  rw [Array.getD_eq_getD_getElem?, Array.getElem?_setIfInBounds_self_of_lt h]; rfl
theorem put_ne {d k : Nat} (h : d ≠ k) : (a.put (some d) v).tmps.getD k undef = a.tmps.getD k undef := by
  simp only [Act.put]
  rw [Array.getD_eq_getD_getElem?, Array.getElem?_setIfInBounds_ne h, ← Array.getD_eq_getD_getElem?]
theorem put_eq {d : Nat} (h : d < a.tmps.size) : (a.put (some d) v).tmps.getD d undef = v := by
  simp only [Act.put]
  rw [Array.getD_eq_getD_getElem?, Array.getElem?_setIfInBounds_self_of_lt h]; rfl
theorem BoxAt.kept {A A' : Nat → Prop} {full : Bool} {t : RT} (h : BoxAt W A w full t v) (hk : Keeps w w' A A') (hb : ∀ C, v = ptrTo C → C < w.heap.size → w'.heap[C]? = w.heap[C]?) (hs : w.heap.size ≤ w'.heap.size) : BoxAt W A' w' full t v := by
  obtain ⟨C, e, h1, h2, h3, h4⟩ := h
  refine ⟨C, e, h1, by omega, fun hf => (hb C e h2).trans (h3 hf), fun hf => ?_⟩
  obtain ⟨y, h5, h6⟩ := h4 hf
  exact ⟨y, (hb C e h2).trans h5, h6.kept hk⟩
theorem below_row {B C : Nat} {x : World} {cs : Array Value} (h : Below B x w) (hC : B ≤ C) : Below B x (w.setRow C cs) :=
  ⟨h.os, h.tape, h.output, by simpa using h.size, fun k hk => (setRow_other w C k cs (by omega)).trans (h.block k hk)⟩
/-- An operation that fills a slot of its own. -/
theorem JX.step (h : JX G S F ta tb W L a w) (hi : i < 12) (hS : S[i]? = some s) (hL : L.size = 16) (hs : s.ap (AP G L a) w' v) (hb : Below w.heap.size w w') : JX G S F ta tb W (L.setIfInBounds i true) (a.put (some (20 + i)) v) w' := by
  have hap : ∀ g, AP G (L.setIfInBounds i true) (a.put (some (20 + i)) v) g ↔ AP G L a g := fun g => by
    unfold AP
    rw [getD_set_ne (by omega), getD_set_ne (by omega), put_ne (by omega), put_ne (by omega)]
  have hk : Keeps w w' (AP G L a) (AP G (L.setIfInBounds i true) (a.put (some (20 + i)) v)) := Keeps.of hb.size fun g hg hl => ⟨hb.block g hl, (hap g).2 hg⟩
  have hk2 : Keeps w' w' (AP G L a) (AP G (L.setIfInBounds i true) (a.put (some (20 + i)) v)) := Keeps.of (Nat.le_refl _) fun g hg hl => ⟨rfl, (hap g).2 hg⟩
  refine ⟨by simpa [Act.put] using h.num, h.dfr, h.low.trans (hb.mono h.low.size), fun k h1 h2 h3 => ?_, fun k s' hk' hS' hl => ?_, fun hl => ?_, fun hl => ?_, ?_, ?_, ?_⟩
  · rw [put_ne (by omega)]
    exact h.fix k h1 h2 h3
  · by_cases e : k = i
    · subst e
      rw [hS] at hS'
      obtain rfl := Option.some.inj hS'
      rw [put_eq (by rw [h.num]; omega)]
      exact SD.ap_kept hs hk2
    · rw [put_ne (by omega)]
      rw [getD_set_ne (Ne.symm e)] at hl
      exact SD.ap_kept (h.slot k s' hk' hS' hl) hk
  · rw [getD_set_ne (by omega)] at hl
    rw [getD_set_ne (by omega), put_ne (by omega)]
    exact (h.bx8 hl).kept hk (fun C _ hC => hb.block C hC) hb.size
  · rw [getD_set_ne (by omega)] at hl
    rw [getD_set_ne (by omega), put_ne (by omega)]
    exact (h.bx9 hl).kept hk (fun C _ hC => hb.block C hC) hb.size
  · rw [getD_set_ne (by omega), getD_set_ne (by omega), put_ne (by omega), put_ne (by omega)]
    exact h.apart
  · rw [getD_set_ne (by omega), getD_set_ne (by omega)]
    exact h.in8
  · rw [getD_set_ne (by omega), getD_set_ne (by omega)]
    exact h.in9
/-- A box is made. -/
theorem JX.alloc8 (h : JX G S F ta tb W L a w) (hL : L.size = 16) (hn : L.getD 12 true = false) : JX G S F ta tb W (L.setIfInBounds 12 true) (a.put (some 8) (ptrTo w.heap.size)) (w.alloc (.cells zeroC 28)) := by
  have hn0 : L.getD 12 false = false := by
    rw [Array.getD_eq_getD_getElem?, Array.getElem?_eq_getElem (by omega)] at hn ⊢
    exact hn
  have hb : Below w.heap.size w (w.alloc (.cells zeroC 28)) := (Below.refl _ _).alloc (Nat.le_refl _) _
  have hap : ∀ g, AP G L a g → g < w.heap.size → AP G (L.setIfInBounds 12 true) (a.put (some 8) (ptrTo w.heap.size)) g := fun g hg hl => by
    refine ⟨⟨fun _ => ?_, fun h13 => ?_⟩, hg.2⟩
    · rw [put_eq (by rw [h.num]; omega)]
      intro e
      have := ptr_inj.1 e
      omega
    · rw [getD_set_ne (by omega)] at h13
      rw [put_ne (by omega)]
      exact hg.1.2 h13
  have hk : Keeps w (w.alloc (.cells zeroC 28)) (AP G L a) (AP G (L.setIfInBounds 12 true) (a.put (some 8) (ptrTo w.heap.size))) := Keeps.of hb.size fun g hg hl => ⟨hb.block g hl, hap g hg hl⟩
  have h14 : L.getD 14 false = false := by
    cases e : L.getD 14 false with
    | false => rfl
    | true => rw [h.in8 e] at hn0; cases hn0
  refine ⟨by simpa [Act.put] using h.num, h.dfr, h.low.trans (hb.mono h.low.size), fun k h1 h2 h3 => ?_, fun k s' hk' hS' hl => ?_, fun hl => ?_, fun hl => ?_, fun _ h13 => ?_, fun h14 => ?_, ?_⟩
  · rw [put_ne (by omega)]
    exact h.fix k h1 h2 h3
  · rw [put_ne (by omega)]
    rw [getD_set_ne (by omega)] at hl
    exact SD.ap_kept (h.slot k s' hk' hS' hl) hk
  · rw [getD_set_ne (by omega), h14, put_eq (by rw [h.num]; omega)]
    exact ⟨w.heap.size, rfl, h.low.size, by simp, fun _ => heap_alloc_new _ _, (fun e => by cases e)⟩
  · rw [getD_set_ne (by omega)] at hl
    rw [getD_set_ne (by omega), put_ne (by omega)]
    exact (h.bx9 hl).kept hk (fun C _ hC => hb.block C hC) hb.size
  · rw [getD_set_ne (by omega)] at h13
    rw [put_eq (by rw [h.num]; omega), put_ne (by omega)]
    obtain ⟨C, e, _, hC, _⟩ := h.bx9 h13
    rw [e]
    intro e2
    have := ptr_inj.1 e2
    omega
  · exact getD_set_eq (by omega)
  · rw [getD_set_ne (by omega), getD_set_ne (by omega)]
    exact h.in9
theorem JX.alloc9 (h : JX G S F ta tb W L a w) (hL : L.size = 16) (hn : L.getD 13 true = false) : JX G S F ta tb W (L.setIfInBounds 13 true) (a.put (some 9) (ptrTo w.heap.size)) (w.alloc (.cells zeroC 28)) := by
  have hn0 : L.getD 13 false = false := by
    rw [Array.getD_eq_getD_getElem?, Array.getElem?_eq_getElem (by omega)] at hn ⊢
    exact hn
  have hb : Below w.heap.size w (w.alloc (.cells zeroC 28)) := (Below.refl _ _).alloc (Nat.le_refl _) _
  have hap : ∀ g, AP G L a g → g < w.heap.size → AP G (L.setIfInBounds 13 true) (a.put (some 9) (ptrTo w.heap.size)) g := fun g hg hl => by
    refine ⟨⟨fun h12 => ?_, fun _ => ?_⟩, hg.2⟩
    · rw [getD_set_ne (by omega)] at h12
      rw [put_ne (by omega)]
      exact hg.1.1 h12
    · rw [put_eq (by rw [h.num]; omega)]
      intro e
      have := ptr_inj.1 e
      omega
  have hk : Keeps w (w.alloc (.cells zeroC 28)) (AP G L a) (AP G (L.setIfInBounds 13 true) (a.put (some 9) (ptrTo w.heap.size))) := Keeps.of hb.size fun g hg hl => ⟨hb.block g hl, hap g hg hl⟩
  have h15 : L.getD 15 false = false := by
    cases e : L.getD 15 false with
    | false => rfl
    | true => rw [h.in9 e] at hn0; cases hn0
  refine ⟨by simpa [Act.put] using h.num, h.dfr, h.low.trans (hb.mono h.low.size), fun k h1 h2 h3 => ?_, fun k s' hk' hS' hl => ?_, fun hl => ?_, fun hl => ?_, fun h12 _ => ?_, ?_, fun h15 => ?_⟩
  · rw [put_ne (by omega)]
    exact h.fix k h1 h2 h3
  · rw [put_ne (by omega)]
    rw [getD_set_ne (by omega)] at hl
    exact SD.ap_kept (h.slot k s' hk' hS' hl) hk
  · rw [getD_set_ne (by omega)] at hl
    rw [getD_set_ne (by omega), put_ne (by omega)]
    exact (h.bx8 hl).kept hk (fun C _ hC => hb.block C hC) hb.size
  · rw [getD_set_ne (by omega), h15, put_eq (by rw [h.num]; omega)]
    exact ⟨w.heap.size, rfl, h.low.size, by simp, fun _ => heap_alloc_new _ _, (fun e => by cases e)⟩
  · rw [getD_set_ne (by omega)] at h12
    rw [put_eq (by rw [h.num]; omega), put_ne (by omega)]
    obtain ⟨C, e, _, hC, _⟩ := h.bx8 h12
    rw [e]
    intro e2
    have := ptr_inj.1 e2
    omega
  · rw [getD_set_ne (by omega), getD_set_ne (by omega)]
    exact h.in8
  · exact getD_set_eq (by omega)
/-- An answer goes into its box. -/
theorem JX.store8 (h : JX G S F ta tb W L a w) (hL : L.size = 16) (h12 : L.getD 12 false = true) {C : Nat} {y : ReV} (hC : a.tmps.getD 8 undef = ptrTo C) (hW : W.heap.size ≤ C) (hl : C < w.heap.size) {old : Array Value} (hold : w.heap[C]? = some (.cells old 28 (0, 0))) (hy : RAt w (AP G L a) y ta) : JX G S F ta tb W (L.setIfInBounds 14 true) a (w.setRow C y.cells.toArray) := by
  have hap : ∀ g, AP G L a g → AP G (L.setIfInBounds 14 true) a g := fun g hg => by
    unfold AP
    rw [getD_set_ne (by omega), getD_set_ne (by omega)]
    exact hg
  have hk : Keeps w (w.setRow C y.cells.toArray) (AP G L a) (AP G (L.setIfInBounds 14 true) a) := Keeps.of (by simp) fun g hg hl => ⟨setRow_other w C g _ (fun e => hg.1.1 h12 (by rw [hC, e])), hap g hg⟩
  have hsz : (w.setRow C y.cells.toArray).heap.size = w.heap.size := by simp
  refine ⟨h.num, h.dfr, below_row h.low hW, h.fix, fun k s' hk' hS' hl => ?_, fun _ => ?_, fun hl' => ?_, ?_, fun _ => ?_, ?_⟩
  · rw [getD_set_ne (by omega)] at hl
    exact SD.ap_kept (h.slot k s' hk' hS' hl) hk
  · rw [getD_set_eq (by omega), hC]
    exact ⟨C, rfl, hW, by rw [hsz]; exact hl, (fun e => by cases e), fun _ => ⟨y, setRow_heap w C old _ _ _ hold, hy.kept hk⟩⟩
  · rw [getD_set_ne (by omega)] at hl'
    rw [getD_set_ne (by omega)]
    refine (h.bx9 hl').kept hk (fun D hD _ => setRow_other w C D _ (fun e => h.apart h12 hl' (by rw [hC, hD, e]))) (by rw [hsz]; exact Nat.le_refl _)
  · rw [getD_set_ne (by omega), getD_set_ne (by omega)]
    exact h.apart
  · rw [getD_set_ne (by omega)]
    exact h12
  · rw [getD_set_ne (by omega), getD_set_ne (by omega)]
    exact h.in9
theorem JX.store9 (h : JX G S F ta tb W L a w) (hL : L.size = 16) (h13 : L.getD 13 false = true) {C : Nat} {y : ReV} (hC : a.tmps.getD 9 undef = ptrTo C) (hW : W.heap.size ≤ C) (hl : C < w.heap.size) {old : Array Value} (hold : w.heap[C]? = some (.cells old 28 (0, 0))) (hy : RAt w (AP G L a) y tb) : JX G S F ta tb W (L.setIfInBounds 15 true) a (w.setRow C y.cells.toArray) := by
  have hap : ∀ g, AP G L a g → AP G (L.setIfInBounds 15 true) a g := fun g hg => by
    unfold AP
    rw [getD_set_ne (by omega), getD_set_ne (by omega)]
    exact hg
  have hk : Keeps w (w.setRow C y.cells.toArray) (AP G L a) (AP G (L.setIfInBounds 15 true) a) := Keeps.of (by simp) fun g hg hl => ⟨setRow_other w C g _ (fun e => hg.1.2 h13 (by rw [hC, e])), hap g hg⟩
  have hsz : (w.setRow C y.cells.toArray).heap.size = w.heap.size := by simp
  refine ⟨h.num, h.dfr, below_row h.low hW, h.fix, fun k s' hk' hS' hl => ?_, fun hl' => ?_, fun _ => ?_, ?_, ?_, fun _ => ?_⟩
  · rw [getD_set_ne (by omega)] at hl
    exact SD.ap_kept (h.slot k s' hk' hS' hl) hk
  · rw [getD_set_ne (by omega)] at hl'
    rw [getD_set_ne (by omega)]
    refine (h.bx8 hl').kept hk (fun D hD _ => setRow_other w C D _ (fun e => h.apart hl' h13 (by rw [hC, hD, e]))) (by rw [hsz]; exact Nat.le_refl _)
  · rw [getD_set_eq (by omega), hC]
    exact ⟨C, rfl, hW, by rw [hsz]; exact hl, (fun e => by cases e), fun _ => ⟨y, setRow_heap w C old _ _ _ hold, hy.kept hk⟩⟩
  · rw [getD_set_ne (by omega), getD_set_ne (by omega)]
    exact h.apart
  · rw [getD_set_ne (by omega), getD_set_ne (by omega)]
    exact h.in8
  · rw [getD_set_ne (by omega)]
    exact h13
end

end Go.Proofs.YtfgaadhacifhiaaGreatDoor

/-! The region of DerivMade that calls both Derivs, whatever order its operations take. No condition. -/
namespace Go.Proofs.YtfgaadhacifhiaaGreatDoor
open Go.RowKit Go.Lib
set_option linter.unusedVariables false
set_option linter.unusedSimpArgs false

noncomputable def opsMd : Array Oper := ((Tryz.prog.funcs[3]?.bind (·.body)).map (opsIn 6)).getD #[]
theorem opsMd_size : opsMd.size = 16 := by kernel_rfl
theorem opsMd_elder : (opsMd.toList.zipIdx.all fun x => x.1.after.all fun e => decide (e.on < x.2)) = true := by kernel_rfl
theorem opsMd_acy (i : Nat) (o : Oper) (h : opsMd[i]? = some o) : ∀ e ∈ o.after, e.on < i := by
  have h1 := List.all_eq_true.1 opsMd_elder (o, i) (by rw [List.mem_zipIdx_iff_getElem?]; simpa using h)
  intro e he
  simpa using (Array.all_eq_true_iff_forall_mem.1 h1) e he
theorem entRD : ∀ args w, (callFunc 10 args).run Tryz.prog w = .ok (.enter 10 args) w := enters_of Tryz.func10 (by kernel_rfl) rfl
section
variable {ops : Array Oper} {W w w' : World} {v : Value} {i j : Nat} {L : Array Bool} {a : Act} {s : SD} {K : Act → World → Prop} {Q : Exit → Act → World → Prop} {o : Oper} {G : Nat → Prop} {S : List SD} {F : Array Value} {ta tb : RT}
set_option maxRecDepth 100000 in
theorem atN {X : Op} {dd : Option Tmp} (hm : ((ops[i]?).map fun o => (o.dst, o.op, o.guard)) = some (dd, X, none)) (h : ∀ o : Oper, o.op = X → o.dst = dd → o.wp Tryz.prog a w K Q) : wpOp Tryz.prog ops Q i K a w := by
  obtain ⟨o, ho, he⟩ := Option.map_eq_some_iff.1 hm
  simp only [Prod.mk.injEq] at he
  unfold wpOp
  rw [ho]
  show if Region.wanted o _ then _ else _
  rw [if_pos (by unfold Region.wanted; rw [he.2.2])]
  exact .inl (h o he.2.1 he.1)
theorem dep_on (hr : i ∈ Region.ready .any ops L) (hd : ((ops[i]?).map fun o => o.after.any fun e => decide (e.on = j) && Region.binds .any e) = some true) : L.getD j false = true := by
  obtain ⟨_, _, o, ho, h3⟩ := ready_iff.1 hr
  rw [ho] at hd
  have hd' : (o.after.any fun e => decide (e.on = j) && Region.binds .any e) = true := Option.some.inj hd
  rw [← Array.any_toList] at hd'
  obtain ⟨e, he, hc⟩ := List.any_eq_true.1 hd'
  have he := Array.mem_toList_iff.1 he
  simp only [Bool.and_eq_true, decide_eq_true_eq] at hc
  have := h3 e he hc.2
  rwa [hc.1] at this
theorem conv_int (k : Nat) (hk : k < 256) (w : World) : (convert 5 3 (.int .u8 (k : Int))).run Tryz.prog w = .ok (.int .i64 (k : Int)) w := by
  have h2 : Tryz.prog.intKind 3 = .i64 := by kernel_rfl
  have h1 := run_convert_int (P := Tryz.prog) w 5 3 .u8 (k : Int) (by rw [Tryz.underlying5]; rfl) (by rw [Tryz.underlying3, h2])
  rw [h2] at h1
  rw [h1]
  have : IntKind.i64.wrap (k : Int) = (k : Int) := by rw [IntKind.wrap_i64]; omega
  rw [this]
theorem opConvI {c : Tmp} {k : Nat} (hk8 : k < 256) (hc : a.tmps.getD c undef = .int .u8 (k : Int)) (ho : o.op = .convert 5 3 (.tmp c)) (hK : ∀ v w', v = .int .i64 (k : Int) → Below w.heap.size w w' → K (a.put o.dst v) w') : o.wp Tryz.prog a w K Q := by
  have hx : a.eval (.tmp c) = .int .u8 (k : Int) := hc
  have hk := hK (.int .i64 (k : Int)) w rfl (Below.refl _ _)
  have hw := conv_int k hk8 w
  unfold Oper.wp
  generalize a.eval = ev at hx ⊢
  simp [execOp, ho, hx, hw]
  exact hk
theorem opIdxS {c d : Tmp} {T : ByteArray} {k : Nat} {b : UInt8} (hk9 : k < T.size) (hb : ∀ h : k < T.size, T[k]'h = b) (hc : a.tmps.getD c undef = .string T) (hd : a.tmps.getD d undef = .int .i64 (k : Int)) (ho : o.op = .index 9 (.tmp c) (.tmp d)) (hK : ∀ v w', v = .int .u8 (b.toNat : Int) → Below w.heap.size w w' → K (a.put o.dst v) w') : o.wp Tryz.prog a w K Q := by
  have hx : a.eval (.tmp c) = .string T := hc
  have hy : a.eval (.tmp d) = .int .i64 (k : Int) := hd
  have hk := hK (.int .u8 (b.toNat : Int)) w rfl (Below.refl _ _)
  have z1 : (k : Int) < (T.size : Int) := by omega
  have z2 : (0 : Int) ≤ (k : Int) := by omega
  unfold Oper.wp
  generalize a.eval = ev at hx hy ⊢
  simp [execOp, ho, hx, hy, go_sem, z1, z2, hk9, hb]
  exact hk
theorem opAlloc (ho : o.op = .alloc 28) (hK : K (a.put o.dst (ptrTo w.heap.size)) (w.alloc (.cells zeroC 28))) : o.wp Tryz.prog a w K Q := by
  obtain ⟨i0, hi0, hz0, hz1, hz2⟩ := re_parts
  unfold Oper.wp
  simp [execOp, ho, go_sem, hi0, hz0, hz1]
  exact hK
set_option maxRecDepth 100000 in
theorem opCallG {Fn : FuncId} {x x' : Operand} {u u' : Value} {T : Array TypeId} {R : Ending → World → Prop} {G : Value → World → Prop} (hx : a.eval x = u) (hx' : a.eval x' = u') (ho : o.op = .call { callee := .value (.func Fn), args := #[x, x'], argTypes := T }) (hc : Calls Tryz.prog Fn #[u, u'] w R)
    (hF : ∀ args w, (callFunc Fn args).run Tryz.prog w = .ok (.enter Fn args) w)
    (hR : ∀ e w', R e w' → ∃ v, e = .returned v ∧ G v w') (hK : ∀ v w', G v w' → K (a.put o.dst v) w') : o.wp Tryz.prog a w K Q := by
  unfold Oper.wp
  have hf : a.eval (.func Fn) = .func (.func Fn) #[] #[] := rfl
  generalize a.eval = ev at hx hx' hf ⊢
  simp [execOp, ho, hx, hx', hf, go_sem, hF, resolve, invoke]
  refine hc.mono (fun e w' hr => ?_)
  obtain ⟨v, rfl, hg⟩ := hR e w' hr
  exact hK v w' hg
theorem JX.low_ap (h : JX G S F ta tb W L a w) : ∀ g, G g → g < W.heap.size → AP G L a g := fun g hG hg => by
  refine ⟨⟨fun h12 => ?_, fun h13 => ?_⟩, hG⟩
  · obtain ⟨C, e, h1, _⟩ := h.bx8 h12
    rw [e]
    intro e2
    have := ptr_inj.1 e2
    omega
  · obtain ⟨C, e, h1, _⟩ := h.bx9 h13
    rw [e]
    intro e2
    have := ptr_inj.1 e2
    omega
theorem JX.high_ap (h : JX G S F ta tb W L a w) (hG : ∀ g, W.heap.size ≤ g → G g) : ∀ g, w.heap.size ≤ g → AP G L a g := fun g hg => by
  refine ⟨⟨fun h12 => ?_, fun h13 => ?_⟩, hG g (Nat.le_trans h.low.size hg)⟩
  · obtain ⟨C, e, _, h1, _⟩ := h.bx8 h12
    rw [e]
    intro e2
    have := ptr_inj.1 e2
    omega
  · obtain ⟨C, e, _, h1, _⟩ := h.bx9 h13
    rw [e]
    intro e2
    have := ptr_inj.1 e2
    omega
end
theorem one_cells (y : ReV) : ∀ v ∈ y.cells, v.oneCell' = true := fun v hv => by
  cases y
  simp [ReV.cells] at hv
  rcases hv with rfl | rfl | rfl | rfl | rfl | rfl <;> rfl
noncomputable def sMd (r ta tb : RT) (s : ByteArray) (i c : Nat) : List SD := [.x r, .v (.string s), .v (.int .i64 (i : Int)), .v (.int .u8 (c : Int)), .v (.int .i64 (c : Int)), .x ta, .x r, .v (.string s), .v (.int .i64 (i : Int)), .v (.int .u8 (c : Int)), .v (.int .i64 (c : Int)), .x tb]
theorem uncons {α : Type} {l : List α} {n : Nat} (h : l.length = n + 1) : ∃ a m, l = a :: m ∧ m.length = n := by
  cases l with
  | nil => simp at h
  | cons a m => exact ⟨a, m, rfl, by simpa using h⟩
theorem list45 {α : Type} (l : List α) (h : l.length = 45) : ∃ t0 t1 t2 t3 t4 t5 t6 t7 t8 t9 t10 t11 t12 t13 t14 t15 t16 t17 t18 t19 t20 t21 t22 t23 t24 t25 t26 t27 t28 t29 t30 t31 t32 t33 t34 t35 t36 t37 t38 t39 t40 t41 t42 t43 t44, l = [t0, t1, t2, t3, t4, t5, t6, t7, t8, t9, t10, t11, t12, t13, t14, t15, t16, t17, t18, t19, t20, t21, t22, t23, t24, t25, t26, t27, t28, t29, t30, t31, t32, t33, t34, t35, t36, t37, t38, t39, t40, t41, t42, t43, t44] := by
  obtain ⟨t0, l0, rfl, h0⟩ := uncons h
  obtain ⟨t1, l1, rfl, h1⟩ := uncons h0
  obtain ⟨t2, l2, rfl, h2⟩ := uncons h1
  obtain ⟨t3, l3, rfl, h3⟩ := uncons h2
  obtain ⟨t4, l4, rfl, h4⟩ := uncons h3
  obtain ⟨t5, l5, rfl, h5⟩ := uncons h4
  obtain ⟨t6, l6, rfl, h6⟩ := uncons h5
  obtain ⟨t7, l7, rfl, h7⟩ := uncons h6
  obtain ⟨t8, l8, rfl, h8⟩ := uncons h7
  obtain ⟨t9, l9, rfl, h9⟩ := uncons h8
  obtain ⟨t10, l10, rfl, h10⟩ := uncons h9
  obtain ⟨t11, l11, rfl, h11⟩ := uncons h10
  obtain ⟨t12, l12, rfl, h12⟩ := uncons h11
  obtain ⟨t13, l13, rfl, h13⟩ := uncons h12
  obtain ⟨t14, l14, rfl, h14⟩ := uncons h13
  obtain ⟨t15, l15, rfl, h15⟩ := uncons h14
  obtain ⟨t16, l16, rfl, h16⟩ := uncons h15
  obtain ⟨t17, l17, rfl, h17⟩ := uncons h16
  obtain ⟨t18, l18, rfl, h18⟩ := uncons h17
  obtain ⟨t19, l19, rfl, h19⟩ := uncons h18
  obtain ⟨t20, l20, rfl, h20⟩ := uncons h19
  obtain ⟨t21, l21, rfl, h21⟩ := uncons h20
  obtain ⟨t22, l22, rfl, h22⟩ := uncons h21
  obtain ⟨t23, l23, rfl, h23⟩ := uncons h22
  obtain ⟨t24, l24, rfl, h24⟩ := uncons h23
  obtain ⟨t25, l25, rfl, h25⟩ := uncons h24
  obtain ⟨t26, l26, rfl, h26⟩ := uncons h25
  obtain ⟨t27, l27, rfl, h27⟩ := uncons h26
  obtain ⟨t28, l28, rfl, h28⟩ := uncons h27
  obtain ⟨t29, l29, rfl, h29⟩ := uncons h28
  obtain ⟨t30, l30, rfl, h30⟩ := uncons h29
  obtain ⟨t31, l31, rfl, h31⟩ := uncons h30
  obtain ⟨t32, l32, rfl, h32⟩ := uncons h31
  obtain ⟨t33, l33, rfl, h33⟩ := uncons h32
  obtain ⟨t34, l34, rfl, h34⟩ := uncons h33
  obtain ⟨t35, l35, rfl, h35⟩ := uncons h34
  obtain ⟨t36, l36, rfl, h36⟩ := uncons h35
  obtain ⟨t37, l37, rfl, h37⟩ := uncons h36
  obtain ⟨t38, l38, rfl, h38⟩ := uncons h37
  obtain ⟨t39, l39, rfl, h39⟩ := uncons h38
  obtain ⟨t40, l40, rfl, h40⟩ := uncons h39
  obtain ⟨t41, l41, rfl, h41⟩ := uncons h40
  obtain ⟨t42, l42, rfl, h42⟩ := uncons h41
  obtain ⟨t43, l43, rfl, h43⟩ := uncons h42
  obtain ⟨t44, l44, rfl, h44⟩ := uncons h43
  have e : l44 = [] := List.eq_nil_of_length_eq_zero h44
  subst e
  exact ⟨t0, t1, t2, t3, t4, t5, t6, t7, t8, t9, t10, t11, t12, t13, t14, t15, t16, t17, t18, t19, t20, t21, t22, t23, t24, t25, t26, t27, t28, t29, t30, t31, t32, t33, t34, t35, t36, t37, t38, t39, t40, t41, t42, t43, t44, rfl⟩
/-- What is known. -/
structure HMd (G : Nat → Prop) (C : Nat) (x : ReV) (r ta tb : RT) (s : ByteArray) (i : Nat) (b : UInt8) (W : World) : Prop where
  hC : W.heap[C]? = some (.cells x.cells.toArray 28 (0, 0))
  hx : RAt W G x r
  hG : ∀ g, W.heap.size ≤ g → G g
  hi : i < s.size
  hb : ∀ h : i < s.size, s[i]'h = b
  hDa : ∀ (A : Nat → Prop) (w : World) (y : ReV), Below W.heap.size W w → RAt w A y r → Calls Tryz.prog 9 #[y.val, .int .i64 (b.toNat : Int)] w (GivesRe (fun g => A g ∨ w.heap.size ≤ g) ta w)
  hDb : ∀ (A : Nat → Prop) (w : World) (y : ReV), Below W.heap.size W w → RAt w A y r → Calls Tryz.prog 10 #[y.val, .int .i64 (b.toNat : Int)] w (GivesRe (fun g => A g ∨ w.heap.size ≤ g) tb w)
set_option maxRecDepth 100000 in
set_option maxHeartbeats 8000000 in
theorem stepMd {G : Nat → Prop} {C : Nat} {x : ReV} {r ta tb : RT} {s : ByteArray} {i : Nat} {b : UInt8} {W w : World} {L : Array Bool} {a : Act} {k : Nat} {Q : Exit → Act → World → Prop} {F : Array Value} (g5 : F.getD 5 undef = ptrTo C) (g6 : F.getD 6 undef = .string s) (g7 : F.getD 7 undef = .int .i64 (i : Int)) (hH : HMd G C x r ta tb s i b W) (hL : L.size = 16) (hJ : JX G (sMd r ta tb s i b.toNat) F ta tb W L a w) (hr : k ∈ Region.ready .any opsMd L) (hk : k < 16) :
    wpOp Tryz.prog opsMd Q k (JX G (sMd r ta tb s i b.toNat) F ta tb W (L.setIfInBounds k true)) a w := by
  have f5 : a.tmps.getD 5 undef = ptrTo C := (hJ.fix 5 (by decide) (by decide) (by decide)).trans g5
  have f6 : a.tmps.getD 6 undef = .string s := (hJ.fix 6 (by decide) (by decide) (by decide)).trans g6
  have f7 : a.tmps.getD 7 undef = .int .i64 (i : Int) := (hJ.fix 7 (by decide) (by decide) (by decide)).trans g7
  have hb8 := UInt8.toNat_lt b
  have hCl : C < W.heap.size := (Array.getElem?_eq_some_iff.1 hH.hC).1
  have hld : ∀ (o : Oper) (m : Nat) (K : Act → World → Prop), o.op = .load 28 (.tmp 5) → (∀ v, SD.ap (AP G L a) (.x r) w v → K (a.put o.dst v) w) → o.wp Tryz.prog a w K Q := fun o m K ho hK =>
    wp_load_row 28 (.tmp 5) ho C f5 _ _ (0, 0) _ ((hJ.low.block C hCl).trans hH.hC) Tryz.underlying28 rfl (by rw [infoReD]; cases x; rfl) (hK _ ⟨x, by cases x; rfl, (hH.hx.weak fun g hG hg => hJ.low_ap g hG hg).under hJ.low⟩)
  match k, hk with
  | 0, _ => exact atP (d := 20) (by kernel_rfl) fun o ho hd => hld o 0 _ ho fun v hs => by rw [hd]; exact hJ.step (i := 0) (s := .x r) (by decide) rfl hL hs (Below.refl _ _)
  | 1, _ => exact atP (d := 21) (by kernel_rfl) fun o ho hd => opMove (d := 6) (s := .v (.string s)) f6 ho (fun v w' hs hb => by rw [hd]; exact hJ.step (i := 1) (s := .v (.string s)) (by decide) rfl hL hs hb)
  | 2, _ => exact atP (d := 22) (by kernel_rfl) fun o ho hd => opMove (d := 7) (s := .v (.int .i64 (i : Int))) f7 ho (fun v w' hs hb => by rw [hd]; exact hJ.step (i := 2) (s := .v (.int .i64 (i : Int))) (by decide) rfl hL hs hb)
  | 3, _ => exact atP (d := 23) (by kernel_rfl) fun o ho hd => opIdxS (c := 21) (d := 22) hH.hi hH.hb (hJ.slot 1 _ (by decide) rfl (dep_on hr (by kernel_rfl))) (hJ.slot 2 _ (by decide) rfl (dep_on hr (by kernel_rfl))) ho (fun v w' hs hb => by rw [hd]; exact hJ.step (i := 3) (s := .v (.int .u8 (b.toNat : Int))) (by decide) rfl hL hs hb)
  | 4, _ => exact atP (d := 24) (by kernel_rfl) fun o ho hd => opConvI (c := 23) hb8 (hJ.slot 3 _ (by decide) rfl (dep_on hr (by kernel_rfl))) ho (fun v w' hs hb => by rw [hd]; exact hJ.step (i := 4) (s := .v (.int .i64 (b.toNat : Int))) (by decide) rfl hL hs hb)
  | 5, _ =>
    refine atP (d := 25) (X := .call { callee := .value (.func 9), args := #[.tmp 20, .tmp 24], argTypes := #[28, 3] }) (by kernel_rfl) fun o ho hd => ?_
    obtain ⟨y, he, hy⟩ := hJ.slot 0 (.x r) (by decide) rfl (dep_on hr (by kernel_rfl))
    have h24 : a.tmps.getD 24 undef = .int .i64 (b.toNat : Int) := hJ.slot 4 _ (by decide) rfl (dep_on hr (by kernel_rfl))
    exact opCallG (x := .tmp 20) (x' := .tmp 24) (T := #[28, 3]) (G := fun v w' => SD.ap (AP G L a) (.x ta) w' v ∧ Below w.heap.size w w') he h24 ho (hH.hDa _ w y hJ.low hy) entD (fun e w' hg => by
      obtain ⟨z, h1, h2, h3⟩ := hg
      exact ⟨_, h1, ⟨z, rfl, h2.weak fun g hg _ => by rcases hg with hg | hg; exact hg; exact hJ.high_ap hH.hG g hg⟩, h3⟩) (fun v w' hs => by rw [hd]; exact hJ.step (i := 5) (s := .x ta) (by decide) rfl hL hs.1 hs.2)
  | 6, _ => exact atP (d := 26) (by kernel_rfl) fun o ho hd => hld o 0 _ ho fun v hs => by rw [hd]; exact hJ.step (i := 6) (s := .x r) (by decide) rfl hL hs (Below.refl _ _)
  | 7, _ => exact atP (d := 27) (by kernel_rfl) fun o ho hd => opMove (d := 6) (s := .v (.string s)) f6 ho (fun v w' hs hb => by rw [hd]; exact hJ.step (i := 7) (s := .v (.string s)) (by decide) rfl hL hs hb)
  | 8, _ => exact atP (d := 28) (by kernel_rfl) fun o ho hd => opMove (d := 7) (s := .v (.int .i64 (i : Int))) f7 ho (fun v w' hs hb => by rw [hd]; exact hJ.step (i := 8) (s := .v (.int .i64 (i : Int))) (by decide) rfl hL hs hb)
  | 9, _ => exact atP (d := 29) (by kernel_rfl) fun o ho hd => opIdxS (c := 27) (d := 28) hH.hi hH.hb (hJ.slot 7 _ (by decide) rfl (dep_on hr (by kernel_rfl))) (hJ.slot 8 _ (by decide) rfl (dep_on hr (by kernel_rfl))) ho (fun v w' hs hb => by rw [hd]; exact hJ.step (i := 9) (s := .v (.int .u8 (b.toNat : Int))) (by decide) rfl hL hs hb)
  | 10, _ => exact atP (d := 30) (by kernel_rfl) fun o ho hd => opConvI (c := 29) hb8 (hJ.slot 9 _ (by decide) rfl (dep_on hr (by kernel_rfl))) ho (fun v w' hs hb => by rw [hd]; exact hJ.step (i := 10) (s := .v (.int .i64 (b.toNat : Int))) (by decide) rfl hL hs hb)
  | 11, _ =>
    refine atP (d := 31) (X := .call { callee := .value (.func 10), args := #[.tmp 26, .tmp 30], argTypes := #[28, 3] }) (by kernel_rfl) fun o ho hd => ?_
    obtain ⟨y, he, hy⟩ := hJ.slot 6 (.x r) (by decide) rfl (dep_on hr (by kernel_rfl))
    have h30 : a.tmps.getD 30 undef = .int .i64 (b.toNat : Int) := hJ.slot 10 _ (by decide) rfl (dep_on hr (by kernel_rfl))
    exact opCallG (x := .tmp 26) (x' := .tmp 30) (T := #[28, 3]) (G := fun v w' => SD.ap (AP G L a) (.x tb) w' v ∧ Below w.heap.size w w') he h30 ho (hH.hDb _ w y hJ.low hy) entRD (fun e w' hg => by
      obtain ⟨z, h1, h2, h3⟩ := hg
      exact ⟨_, h1, ⟨z, rfl, h2.weak fun g hg _ => by rcases hg with hg | hg; exact hg; exact hJ.high_ap hH.hG g hg⟩, h3⟩) (fun v w' hs => by rw [hd]; exact hJ.step (i := 11) (s := .x tb) (by decide) rfl hL hs.1 hs.2)
  | 12, _ => exact atN (dd := some 8) (by kernel_rfl) fun o ho hd => opAlloc ho (by rw [hd]; exact hJ.alloc8 hL (ready_iff.1 hr).2.1)
  | 13, _ => exact atN (dd := some 9) (by kernel_rfl) fun o ho hd => opAlloc ho (by rw [hd]; exact hJ.alloc9 hL (ready_iff.1 hr).2.1)
  | 14, _ =>
    refine atN (dd := none) (X := .store 28 (.tmp 8) (.tmp 25)) (by kernel_rfl) fun o ho hd => ?_
    have h12 : L.getD 12 false = true := dep_on hr (by kernel_rfl)
    obtain ⟨y, he, hy⟩ := hJ.slot 5 (.x ta) (by decide) rfl (dep_on hr (by kernel_rfl))
    obtain ⟨D, hD, h1, h2, h3, h4⟩ := hJ.bx8 h12
    have hn := (ready_iff.1 hr).2.1
    have hn0 : L.getD 14 false = false := by
      rw [Array.getD_eq_getD_getElem?, Array.getElem?_eq_getElem (by omega)] at hn ⊢
      exact hn
    have hv : y.val = .agg y.cells.toArray := by cases y; rfl
    refine wp_store_row 28 (.tmp 8) (.tmp 25) ho D y.cells.toArray hD (he.trans hv) _ _ (h3 hn0) (by rw [infoReD]; cases y; rfl) (by cases y; rfl) (all_oneCell_toArray (one_cells y)) ?_
    rw [hd]
    exact hJ.store8 hL h12 hD h1 h2 (h3 hn0) hy
  | 15, _ =>
    refine atN (dd := none) (X := .store 28 (.tmp 9) (.tmp 31)) (by kernel_rfl) fun o ho hd => ?_
    have h13 : L.getD 13 false = true := dep_on hr (by kernel_rfl)
    obtain ⟨y, he, hy⟩ := hJ.slot 11 (.x tb) (by decide) rfl (dep_on hr (by kernel_rfl))
    obtain ⟨D, hD, h1, h2, h3, h4⟩ := hJ.bx9 h13
    have hn := (ready_iff.1 hr).2.1
    have hn0 : L.getD 15 false = false := by
      rw [Array.getD_eq_getD_getElem?, Array.getElem?_eq_getElem (by omega)] at hn ⊢
      exact hn
    have hv : y.val = .agg y.cells.toArray := by cases y; rfl
    refine wp_store_row 28 (.tmp 9) (.tmp 31) ho D y.cells.toArray hD (he.trans hv) _ _ (h3 hn0) (by rw [infoReD]; cases y; rfl) (by cases y; rfl) (all_oneCell_toArray (one_cells y)) ?_
    rw [hd]
    exact hJ.store9 hL h13 hD h1 h2 (h3 hn0) hy
  | n + 16, h => omega
set_option maxRecDepth 100000 in
/-- The region, whatever order its operations take: both answers stand in boxes of their own. -/
theorem regMd {G : Nat → Prop} {C : Nat} {x : ReV} {r ta tb : RT} {s : ByteArray} {i : Nat} {b : UInt8} {W : World} {tmps : Array Value} {ops : Array Oper} {Q : Exit → Act → World → Prop} (hH : HMd G C x r ta tb s i b W) (hops : opsMd = ops) (hsz : tmps.size = 45) (g5 : tmps.getD 5 undef = ptrTo C) (g6 : tmps.getD 6 undef = .string s) (g7 : tmps.getD 7 undef = .int .i64 (i : Int))
    (hQ : ∀ (tm : Array Value) (w : World) (D E : Nat) (y z : ReV), tm.size = 45 → (∀ k, (k < 20 ∨ 32 ≤ k) → k ≠ 8 → k ≠ 9 → tm.getD k undef = tmps.getD k undef) → tm.getD 8 undef = ptrTo D → tm.getD 9 undef = ptrTo E → D ≠ E → W.heap.size ≤ D → W.heap.size ≤ E →
      w.heap[D]? = some (.cells y.cells.toArray 28 (0, 0)) → RAt w (fun g => (g ≠ D ∧ g ≠ E) ∧ G g) y ta → w.heap[E]? = some (.cells z.cells.toArray 28 (0, 0)) → RAt w (fun g => (g ≠ D ∧ g ≠ E) ∧ G g) z tb → Below W.heap.size W w → Q .normal ⟨tm, []⟩ w) :
    (Code.region 6 ops true).wp Tryz.prog Q ⟨tmps, []⟩ W := by
  subst hops
  have hm : Tryz.prog.follows .mixedOrders = true := by kernel_rfl
  have hno : ∀ k, (Array.replicate opsMd.size false).getD k false = false := fun k => by
    rw [Array.getD_eq_getD_getElem?, Array.getElem?_replicate]
    split <;> rfl
  refine wp_region_inv (JX G (sMd r ta tb s i b.toNat) tmps ta tb W) hm ⟨hsz, rfl, ⟨rfl, rfl, rfl, Nat.le_refl _, fun k _ => rfl⟩, fun k _ _ _ => rfl, fun k s' _ _ hl => ?_, fun hl => ?_, fun hl => ?_, fun hl => ?_, fun hl => ?_, fun hl => ?_⟩ (fun L a w k hL hJ hr => ?_) (fun L a w hL hJ hr => ?_)
  · rw [hno] at hl; cases hl
  · rw [hno] at hl; cases hl
  · rw [hno] at hl; cases hl
  · rw [hno] at hl; cases hl
  · rw [hno] at hl; cases hl
  · rw [hno] at hl; cases hl
  · have hi := (ready_iff.1 hr).1
    rw [opsMd_size] at hi hL
    exact stepMd g5 g6 g7 hH hL hJ hr hi
  · have hl := all_listed opsMd_acy hL hr
    rw [opsMd_size] at hl
    obtain ⟨tm, df⟩ := a
    have hdf := hJ.dfr
    simp only at hdf
    subst hdf
    obtain ⟨D, hD, d1, _, _, d4⟩ := hJ.bx8 (hl 12 (by decide))
    obtain ⟨E, hE, e1, _, _, e4⟩ := hJ.bx9 (hl 13 (by decide))
    obtain ⟨y, d5, d6⟩ := d4 (hl 14 (by decide))
    obtain ⟨z, e5, e6⟩ := e4 (hl 15 (by decide))
    have hap : ∀ g, AP G L ⟨tm, []⟩ g → (g ≠ D ∧ g ≠ E) ∧ G g := fun g hg => ⟨⟨fun e => hg.1.1 (hl 12 (by decide)) (by rw [hD, e]), fun e => hg.1.2 (hl 13 (by decide)) (by rw [hE, e])⟩, hg.2⟩
    exact hQ tm w D E y z hJ.num hJ.fix hD hE (fun e => hJ.apart (hl 12 (by decide)) (hl 13 (by decide)) (by rw [hD, hE, e])) d1 e1 d5 (d6.weak fun g hg _ => hap g hg) e5 (e6.weak fun g hg _ => hap g hg) hJ.low

end Go.Proofs.YtfgaadhacifhiaaGreatDoor

/-! What is left of an expression by the law's picker behind some letters: good, and not too big. No condition. -/
namespace Go.Proofs.YtfgaadhacifhiaaGreatDoor
open Go.RowKit Go.Lib
set_option linter.unusedVariables false
set_option linter.unusedSimpArgs false

theorem byteQ_size (s : ByteArray) : (byteL s).length = s.size := by unfold byteL; rw [List.length_map]; rfl
theorem dersQ_snoc : ∀ (r : RT) (l : List Nat) (c : Nat), dersM r (l ++ [c]) = derivM c (dersM r l)
  | r, [], c => rfl
  | r, b :: l, c => dersQ_snoc (derivM b r) l c
theorem dersQ_T : ∀ (l : List Nat) (r : RT), good r → good (dersM r l) ∧ ∀ j, T j (seqOf (dersM r l)) ≤ T (j + l.length) (seqOf r) + l.length
  | [], r, hg => ⟨hg, fun j => Nat.le_refl _⟩
  | c :: l, r, hg => by
    obtain ⟨h1, h2⟩ := dersQ_T l (derivM c r) (good_deriv c r hg)
    refine ⟨h1, fun j => ?_⟩
    have h3 := h2 j
    have h4 := T_deriv c (j + l.length) hg
    show T j (seqOf (dersM (derivM c r) l)) ≤ _
    rw [List.length_cons]
    rw [show j + l.length + 1 = j + (l.length + 1) from rfl] at h4
    omega
theorem dersQ_fit {r : RT} (h : Lv 161 4842888568831 5008 5766931476091 4966 r) (l : List Nat) (hl : l.length ≤ 4) : good (dersM r l) ∧ Dm 0 (dersM r l) [] + (dersM r l).sz + 1 ≤ 900000000 := by
  obtain ⟨hg, h1, _⟩ := lv4_T h
  obtain ⟨h2, h3⟩ := dersQ_T l r hg
  refine ⟨h2, ?_⟩
  have h4 := h3 0
  have h5 := h3 1
  rw [Nat.zero_add] at h4
  have h6 := h1 l.length (by omega)
  have h7 := h1 (1 + l.length) (by omega)
  have h8 := (seq_sz h2).2.1
  have h9 := T_seq 0 (dersM r l) []
  rw [List.append_nil] at h9
  have h10 : T (0 + 1) ([] : List RT) = 0 := rfl
  rw [h10] at h9
  simp at h9
  omega

end Go.Proofs.YtfgaadhacifhiaaGreatDoor

/-! The document's Nullable, of any expression. No condition but size. -/
namespace Go.Proofs.YtfgaadhacifhiaaGreatDoor
open Go.RowKit Go.Lib
set_option linter.unusedVariables false
set_option linter.unusedSimpArgs false

theorem kid_len_le (L : List RT) : L.length ≤ (L.map RT.sz).sum := by
  induction L with
  | nil => simp
  | cons a l ih => have := sz_pos a; simp only [List.length_cons, List.map_cons, List.sum_cons]; omega
set_option maxRecDepth 100000 in
set_option maxHeartbeats 16000000 in
theorem refnull_any {P : Nat → Prop} : ∀ (N : Nat) (t : RT) (x : ReV) (W : World), t.dep ≤ N → t.sz ≤ 9000000000 → RAt W P x t → Calls Tryz.prog 13 #[x.val] W (GivesBool (nullM t) W) := by
  intro N
  induction N with
  | zero => intro t x W h; have := dep_pos t; omega
  | succ N ih =>
    intro t x W hdep hsz ht
    obtain ⟨vs, et, hok, hk⟩ := ht.kids
    have hkd : ∀ v ∈ t.kids, v.dep ≤ N := by
      obtain ⟨k', s', l'⟩ := t
      exact dep_mk.1 hdep
    have hks : (t.kids.map RT.sz).sum < t.sz := by
      obtain ⟨k', s', l'⟩ := t
      rw [sz_mk]
      show (l'.map RT.sz).sum < _
      omega
    obtain ⟨L, hL⟩ : ∃ L, L = t.kids := ⟨_, rfl⟩
    rw [← hL] at hk hkd et hks
    obtain ⟨k, a, b, c, d, p, n, cap⟩ := x
    simp only [ReV.w4] at hok hk et
    obtain ⟨R, hR⟩ : ∃ R, R = nullM t := ⟨_, rfl⟩
    rw [← hR]
    have hRM : R = if k = 1 ∨ k = 5 then true else if k = 3 then L.all nullM else if k = 4 then L.any nullM else false := by rw [hR, et, null_mk]
    have hnum := hk.num
    obtain ⟨B0, hB0⟩ : ∃ B0, B0 = W.heap.size := ⟨_, rfl⟩
    obtain ⟨w1, hw1⟩ : ∃ w1 : World, w1 = W.alloc (.cells #[.int .i64 k, .int .u64 a, .int .u64 b, .int .u64 c, .int .u64 d, .slice p n cap] 28) := ⟨_, rfl⟩
    have hb1 : Below W.heap.size W w1 := by rw [hw1]; exact (Below.refl _ _).alloc (Nat.le_refl _) _
    have hn1 : w1.heap[B0]? = some (.cells #[.int .i64 k, .int .u64 a, .int .u64 b, .int .u64 c, .int .u64 d, .slice p n cap] 28 (0, 0)) := by rw [hw1, hB0]; exact heap_alloc_new _ _
    have hB1 : B0 < w1.heap.size := (Array.getElem?_eq_some_iff.1 hn1).1
    have hnb : n ≤ 9000000000 := by have := kid_len_le L; omega
    have HRM := Lib.hid hRM
    have HK := Lib.hid (hk.under hb1)
    have HB1 := Lib.hid hb1
    have HN1 := Lib.hid hn1
    have HL1 := Lib.hid hB1
    have HW1 := Lib.hid hw1
    have HB0 := Lib.hid hB0
    have HKS : Hid ((L.map RT.sz).sum ≤ 9000000000) := by unfold Hid; omega
    have HKD := Lib.hid hkd
    have HNU := Lib.hid hnum
    have HIH := Lib.hid ih
    obtain ⟨k0, k1, k2, k3, k4, k5⟩ := six_at hn1
    clear et hok hk hnum hL ht hdep hsz hks ih hw1 hb1 hn1 hB0 hB1 hkd hR hRM
    unfold ReV.val
    simp only []
    by_cases e1 : k = 1
    · subst e1
      have hr : R = true := by rw [HRM.out]; simp
      subst hr
      go_enter Tryz.func13, Tryz.ntmps13
      go_wp2_with fail
      rw [← HW1.out, ← HB0.out]
      go_wp2_with fail
      go_ret
      exact ⟨rfl, HB1.out⟩
    by_cases e5 : k = 5
    · subst e5
      have hr : R = true := by rw [HRM.out]; simp
      subst hr
      go_enter Tryz.func13, Tryz.ntmps13
      go_wp2_with fail
      rw [← HW1.out, ← HB0.out]
      go_wp2_with fail
      go_ret
      exact ⟨rfl, HB1.out⟩
    have z1 : (k == 1) = false := by simpa using e1
    have z5 : (k == 5) = false := by simpa using e5
    by_cases e3 : k = 3
    · subst e3
      have hr : R = L.all nullM := by rw [HRM.out]; simp
      have HR := Lib.hid hr
      clear hr
      go_enter Tryz.func13, Tryz.ntmps13
      go_wp2_with fail
      rw [← HW1.out, ← HB0.out]
      go_wp2_with fail
      clear k0 k1 k2 k3 k4 k5
      go_loopg [3] n (fun gk vi wr => ∃ i : Nat, vi = .int .i64 (i : Int) ∧ i ≤ n ∧ n - i ≤ gk ∧ Hid (∀ j t, j < i → L[j]? = some t → nullM t = true) ∧ Hid (Below w1.heap.size w1 wr))
      case atStart => exact ⟨0, rfl, by omega, by omega, fun j t hj => absurd hj (Nat.not_lt_zero j), Below.refl _ _⟩
      case round =>
        obtain ⟨i, rfl, hi, hgk, HE, HB⟩ := hrel
        obtain ⟨k0, k1, k2, k3, k4, k5⟩ := six_at ((HB.out.block B0 HL1.out).trans HN1.out)
        by_cases hlt : i < n
        · have hltz : (i : Int) < (n : Int) := by omega
          obtain ⟨g, off, rfl⟩ := HK.out.rowv.some_of hlt
          have hil : i < L.length := by rw [← HNU.out]; exact hlt
          obtain ⟨y, hy⟩ : ∃ y, vs[i]? = some y := ⟨_, List.getElem?_eq_getElem (by rw [HK.out.len]; exact hil)⟩
          obtain ⟨u, hu⟩ : ∃ u, L[i]? = some u := ⟨_, List.getElem?_eq_getElem hil⟩
          have hpl := (HK.out.place hy).under HB.out
          have hra := (HK.out.each i y u hy hu).under HB.out
          have CALL : Hid (Calls Tryz.prog 13 #[y.val] wr (GivesBool (nullM u) wr)) :=
            HIH.out u y wr (HKD.out u (List.mem_of_getElem? hu)) (by have := sum_mem (List.mem_of_getElem? hu); have := HKS.out; omega) hra
          have HU := Lib.hid hu
          obtain ⟨y0, y1, y2, y3, y4, y5, y6, y7⟩ := y
          obtain ⟨q0, q1, q2, q3, q4, q5⟩ := hpl.six
          simp only at q0 q1 q2 q3 q4 q5
          unfold ReV.val at CALL
          simp only at CALL
          clear hpl hra hy hu hil
          cases eu : nullM u with
          | true =>
            rw [eu] at CALL
            have HE2 : Hid (∀ j t, j < i + 1 → L[j]? = some t → nullM t = true) := fun j t hj ht => by
              by_cases e : j < i
              · exact HE.out j t e ht
              · have : j = i := by omega
                subst this
                obtain rfl := Option.some.inj (ht.symm.trans HU.out)
                exact eu
            clear eu
            go_wp2_with fail
            refine (CALL.out).mono ?_
            rintro e w3 ⟨rfl, hb3⟩
            have HB3 : Hid (Below w1.heap.size w1 w3) := HB.out.trans (hb3.mono HB.out.size)
            clear hb3 k0 k1 k2 k3 k4 k5 q0 q1 q2 q3 q4 q5
            go_wp2_with fail
            go_roundg (n - (i + 1))
            case measure => omega
            case rel => exact ⟨i + 1, by go_num, by omega, Nat.le_refl _, HE2, HB3⟩
          | false =>
            rw [eu] at CALL
            have hr : R = false := by
              rw [HR.out]
              cases h : L.all nullM with
              | false => rfl
              | true => rw [List.all_eq_true.1 h u (List.mem_of_getElem? HU.out)] at eu; cases eu
            subst hr
            clear eu
            go_wp2_with fail
            refine (CALL.out).mono ?_
            rintro e w3 ⟨rfl, hb3⟩
            have HB3 : Hid (Below w1.heap.size w1 w3) := HB.out.trans (hb3.mono HB.out.size)
            clear hb3 k0 k1 k2 k3 k4 k5 q0 q1 q2 q3 q4 q5
            go_wp2_with fail
            go_ret
            exact ⟨rfl, HB1.out.trans (HB3.out.mono HB1.out.size)⟩
        · have hltz : ¬ (i : Int) < (n : Int) := by omega
          have hr : R = true := by
            rw [HR.out]
            refine List.all_eq_true.2 fun u hu => ?_
            obtain ⟨j, hj⟩ := List.getElem?_of_mem hu
            exact HE.out j u (by have := (List.getElem?_eq_some_iff.1 hj).1; have := HNU.out; omega) hj
          subst hr
          go_wp2_with fail
          go_ret
          exact ⟨rfl, HB1.out.trans (HB.out.mono HB1.out.size)⟩
    have z3 : (k == 3) = false := by simpa using e3
    by_cases e4 : k = 4
    · subst e4
      have hr : R = L.any nullM := by rw [HRM.out]; simp
      have HR := Lib.hid hr
      clear hr
      go_enter Tryz.func13, Tryz.ntmps13
      go_wp2_with fail
      rw [← HW1.out, ← HB0.out]
      go_wp2_with fail
      clear k0 k1 k2 k3 k4 k5
      go_loopg [4] n (fun gk vi wr => ∃ i : Nat, vi = .int .i64 (i : Int) ∧ i ≤ n ∧ n - i ≤ gk ∧ Hid (∀ j t, j < i → L[j]? = some t → nullM t = false) ∧ Hid (Below w1.heap.size w1 wr))
      case atStart => exact ⟨0, rfl, by omega, by omega, fun j t hj => absurd hj (Nat.not_lt_zero j), Below.refl _ _⟩
      case round =>
        obtain ⟨i, rfl, hi, hgk, HE, HB⟩ := hrel
        obtain ⟨k0, k1, k2, k3, k4, k5⟩ := six_at ((HB.out.block B0 HL1.out).trans HN1.out)
        by_cases hlt : i < n
        · have hltz : (i : Int) < (n : Int) := by omega
          obtain ⟨g, off, rfl⟩ := HK.out.rowv.some_of hlt
          have hil : i < L.length := by rw [← HNU.out]; exact hlt
          obtain ⟨y, hy⟩ : ∃ y, vs[i]? = some y := ⟨_, List.getElem?_eq_getElem (by rw [HK.out.len]; exact hil)⟩
          obtain ⟨u, hu⟩ : ∃ u, L[i]? = some u := ⟨_, List.getElem?_eq_getElem hil⟩
          have hpl := (HK.out.place hy).under HB.out
          have hra := (HK.out.each i y u hy hu).under HB.out
          have CALL : Hid (Calls Tryz.prog 13 #[y.val] wr (GivesBool (nullM u) wr)) :=
            HIH.out u y wr (HKD.out u (List.mem_of_getElem? hu)) (by have := sum_mem (List.mem_of_getElem? hu); have := HKS.out; omega) hra
          have HU := Lib.hid hu
          obtain ⟨y0, y1, y2, y3, y4, y5, y6, y7⟩ := y
          obtain ⟨q0, q1, q2, q3, q4, q5⟩ := hpl.six
          simp only at q0 q1 q2 q3 q4 q5
          unfold ReV.val at CALL
          simp only at CALL
          clear hpl hra hy hu hil
          cases eu : nullM u with
          | false =>
            rw [eu] at CALL
            have HE2 : Hid (∀ j t, j < i + 1 → L[j]? = some t → nullM t = false) := fun j t hj ht => by
              by_cases e : j < i
              · exact HE.out j t e ht
              · have : j = i := by omega
                subst this
                obtain rfl := Option.some.inj (ht.symm.trans HU.out)
                exact eu
            clear eu
            go_wp2_with fail
            refine (CALL.out).mono ?_
            rintro e w3 ⟨rfl, hb3⟩
            have HB3 : Hid (Below w1.heap.size w1 w3) := HB.out.trans (hb3.mono HB.out.size)
            clear hb3 k0 k1 k2 k3 k4 k5 q0 q1 q2 q3 q4 q5
            go_wp2_with fail
            go_roundg (n - (i + 1))
            case measure => omega
            case rel => exact ⟨i + 1, by go_num, by omega, Nat.le_refl _, HE2, HB3⟩
          | true =>
            rw [eu] at CALL
            have hr : R = true := by
              rw [HR.out]
              exact List.any_eq_true.2 ⟨u, List.mem_of_getElem? HU.out, eu⟩
            subst hr
            clear eu
            go_wp2_with fail
            refine (CALL.out).mono ?_
            rintro e w3 ⟨rfl, hb3⟩
            have HB3 : Hid (Below w1.heap.size w1 w3) := HB.out.trans (hb3.mono HB.out.size)
            clear hb3 k0 k1 k2 k3 k4 k5 q0 q1 q2 q3 q4 q5
            go_wp2_with fail
            go_ret
            exact ⟨rfl, HB1.out.trans (HB3.out.mono HB1.out.size)⟩
        · have hltz : ¬ (i : Int) < (n : Int) := by omega
          have hr : R = false := by
            rw [HR.out]
            cases h : L.any nullM with
            | false => rfl
            | true =>
              obtain ⟨u, hu, e⟩ := List.any_eq_true.1 h
              obtain ⟨j, hj⟩ := List.getElem?_of_mem hu
              rw [HE.out j u (by have := (List.getElem?_eq_some_iff.1 hj).1; have := HNU.out; omega) hj] at e
              cases e
          subst hr
          go_wp2_with fail
          go_ret
          exact ⟨rfl, HB1.out.trans (HB.out.mono HB1.out.size)⟩
    have z4 : (k == 4) = false := by simpa using e4
    have hr : R = false := by rw [HRM.out, if_neg (by simp [e1, e5]), if_neg e3, if_neg e4]
    subst hr
    go_enter Tryz.func13, Tryz.ntmps13
    go_wp2_with fail
    rw [← HW1.out, ← HB0.out]
    go_wp2_with fail
    go_ret
    exact ⟨rfl, HB1.out⟩

end Go.Proofs.YtfgaadhacifhiaaGreatDoor

/-! What the document's Deriv of a Cat puts together, and how big that is. Condition: the expression is good. -/
namespace Go.Proofs.YtfgaadhacifhiaaGreatDoor
open Go.RowKit Go.Lib
set_option linter.unusedVariables false
set_option linter.unusedSimpArgs false

noncomputable def docTo (c : Nat) : List RT → Nat → List RT
  | _, 0 => []
  | [], _ + 1 => []
  | k :: l, i + 1 => catM (derivM c k :: l) :: docTo c l i
theorem docTo_len (c : Nat) : ∀ (kids : List RT) (i : Nat), i ≤ kids.length → (docTo c kids i).length = i
  | _, 0, _ => by simp [docTo]
  | [], i + 1, h => by simp at h
  | k :: l, i + 1, h => by rw [docTo, List.length_cons, docTo_len c l i (by simpa using h)]
theorem docTo_succ (c : Nat) : ∀ (kids : List RT) (i : Nat) (k : RT), kids[i]? = some k → docTo c kids (i + 1) = docTo c kids i ++ [catM (derivM c k :: kids.drop (i + 1))]
  | [], i, k, h => by simp at h
  | x :: l, 0, k, h => by
    simp at h
    subst h
    simp [docTo]
  | x :: l, i + 1, k, h => by
    have := docTo_succ c l i k (by simpa using h)
    rw [docTo, this]
    simp [docTo]
theorem docTo_all (c : Nat) : ∀ (kids : List RT), (∀ t ∈ kids, nullM t = true) → catsM (kids.map fun x => (x, derivM c x)) = docTo c kids kids.length
  | [], _ => rfl
  | k :: l, h => by
    have hm : (l.map fun x => (x, derivM c x)).map Prod.fst = l := by rw [List.map_map]; simp [Function.comp_def]
    show catM (derivM c k :: (l.map fun x => (x, derivM c x)).map Prod.fst) :: (if nullM k then catsM (l.map fun x => (x, derivM c x)) else []) = _
    rw [hm, if_pos (h k (by simp)), docTo_all c l fun t ht => h t (by simp [ht])]
    rfl
theorem docTo_stop (c : Nat) : ∀ (kids : List RT) (i : Nat) (k : RT), kids[i]? = some k → (∀ j t, j < i → kids[j]? = some t → nullM t = true) → nullM k = false → catsM (kids.map fun x => (x, derivM c x)) = docTo c kids (i + 1)
  | [], i, k, h, _, _ => by simp at h
  | x :: l, 0, k, h, _, hk => by
    simp at h
    subst h
    have hm : (l.map fun x => (x, derivM c x)).map Prod.fst = l := by rw [List.map_map]; simp [Function.comp_def]
    show catM (derivM c x :: (l.map fun x => (x, derivM c x)).map Prod.fst) :: (if nullM x then catsM (l.map fun x => (x, derivM c x)) else []) = _
    rw [hm, hk]
    simp [docTo]
  | x :: l, i + 1, k, h, ha, hk => by
    have hm : (l.map fun x => (x, derivM c x)).map Prod.fst = l := by rw [List.map_map]; simp [Function.comp_def]
    show catM (derivM c x :: (l.map fun x => (x, derivM c x)).map Prod.fst) :: (if nullM x then catsM (l.map fun x => (x, derivM c x)) else []) = _
    rw [hm, if_pos (ha 0 x (by omega) rfl), docTo_stop c l i k (by simpa using h) (fun j t hj ht => ha (j + 1) t (by omega) (by simpa using ht)) hk]
    rfl
theorem seq_one {k : RT} (h1 : k.kind ≠ 1) (h3 : k.kind ≠ 3) : seqOf k = [k] := by
  unfold seqOf
  rw [if_neg h3, if_neg h1]
theorem Dq_kid {k : RT} (h1 : k.kind ≠ 1) (h3 : k.kind ≠ 3) (l : List RT) : Dq 0 (k :: l) [] = Dm 0 k l + (if nullM k then Dq 0 l [] else 0) := by
  have h := Dq_cons 0 k l []
  rw [seq_one h1 h3, List.append_nil] at h
  exact h
theorem doc_one {c : Nat} {k : RT} (hg : good k) (l : List RT) : (catM (derivM c k :: l)).sz ≤ Dm 0 k l + 1 := by
  obtain ⟨h1, h2⟩ := sz_left (c := c) hg l
  have h3 : T 0 l = (l.map RT.sz).sum := rfl
  by_cases h : (derivM c k).kind = 0
  · rw [cat_none h]
    show (RT.mk 0 W4.zero []).sz ≤ _
    rw [sz_mk]
    simp
  · have h4 := sz_cat (derivM c k :: l)
    have h5 := h2 h
    simp only [List.map_cons, List.sum_cons] at h4
    omega
/-- What is reached is not too big. -/
theorem doc_reach : ∀ (kids : List RT) (i : Nat) (k : RT), (∀ t ∈ kids, t.kind ≠ 1 ∧ t.kind ≠ 3) → kids[i]? = some k → (∀ j t, j < i → kids[j]? = some t → nullM t = true) → Dm 0 k (kids.drop (i + 1)) ≤ Dq 0 kids []
  | [], i, k, _, h, _ => by simp at h
  | x :: l, 0, k, hk, h, _ => by
    simp at h
    subst h
    rw [Dq_kid (hk x (by simp)).1 (hk x (by simp)).2]
    simp
  | x :: l, i + 1, k, hk, h, ha => by
    have h1 := doc_reach l i k (fun t ht => hk t (by simp [ht])) (by simpa using h) (fun j t hj ht => ha (j + 1) t (by omega) (by simpa using ht))
    rw [Dq_kid (hk x (by simp)).1 (hk x (by simp)).2, if_pos (ha 0 x (by omega) rfl)]
    simp only [List.drop_succ_cons]
    omega
theorem docTo_sz (c : Nat) : ∀ (kids : List RT) (i : Nat), (∀ t ∈ kids, good t ∧ t.kind ≠ 1 ∧ t.kind ≠ 3) → i ≤ kids.length → (∀ j t, j + 1 < i → kids[j]? = some t → nullM t = true) → ((docTo c kids i).map RT.sz).sum ≤ Dq 0 kids [] + i
  | _, 0, _, _, _ => by simp [docTo]
  | [], i + 1, _, h, _ => by simp at h
  | k :: l, i + 1, hk, hi, ha => by
    obtain ⟨g, k1, k3⟩ := hk k (by simp)
    rw [docTo, List.map_cons, List.sum_cons, Dq_kid k1 k3]
    have h1 := doc_one (c := c) g l
    by_cases h0 : i = 0
    · subst h0
      simp [docTo]
      omega
    · have h2 := docTo_sz c l i (fun t ht => hk t (by simp [ht])) (by simpa using hi) (fun j t hj ht => ha (j + 1) t (by omega) (by simpa using ht))
      rw [if_pos (ha 0 k (by omega) rfl)]
      omega
theorem Dm_cat (s : W4) (kids : List RT) : Dm 0 (.mk 3 s kids) [] = Dq 0 kids [] := by
  unfold Dm Dq
  rw [dl_mk, if_neg (by decide), if_pos rfl]
  rfl
theorem Dm_star (s : W4) (k : RT) : Dm 0 (.mk 5 s [k]) [] = Dm 0 k [.mk 5 s [k]] := by
  unfold Dm
  rw [dl_mk, if_neg (by decide), if_neg (by decide), if_neg (by decide), if_pos rfl]
  simp [Function.comp_def]
theorem eithers_sz (c : Nat) : ∀ (L : List RT), (∀ k ∈ L, good k) → ((L.map (derivM c)).map RT.sz).sum ≤ (L.map fun x => Dm 0 x []).sum + (L.map RT.sz).sum
  | [], _ => by simp
  | a :: L, hg => by
    have i1 := eithers_sz c L fun k hk => hg k (by simp [hk])
    have h1 := (sz_left (c := c) (hg a (by simp)) []).1
    have h2 := sz_pos a
    simp only [List.map_cons, List.sum_cons]
    omega

end Go.Proofs.YtfgaadhacifhiaaGreatDoor
