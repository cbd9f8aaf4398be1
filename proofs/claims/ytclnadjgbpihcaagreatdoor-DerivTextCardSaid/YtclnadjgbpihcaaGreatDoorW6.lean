/- Joined texts; each begins with what it says. -/
import Derived.Test.YtclnadjgbpihcaaGreatDoorCards
import Derived.Test.YtclnadjgbpihcaaGreatDoorTie
import Derived.Test.YtclnadjgbpihcaaGreatDoorOwed
import Derived.Test.YtclnadjgbpihcaaGreatDoorW5
import Derived.Laws.IdiomArrays
import Derived.ProofKit
import Derived.OpenShut
import Derived.LaidMore
import Derived.Lay
import Derived.Carry
import Derived.ChangeSlices
import Derived.ChangeMaps5
import Derived.SevenTiedAt
import Derived.Stop.Joined
import Derived.LaidSub
import Derived.Lib.LaidTab
import Derived.Test.YtclnadjgbpihcaaGreatDoorList
import Derived.Test.YtclnadjgbpihcaaGreatDoorW0
import Derived.Test.YtclnadjgbpihcaaGreatDoorOpen
import Derived.Laws.MakeOwn
import Derived.Laws.CopyRow
import Derived.Test.YtclnadjgbpihcaaGreatDoorW3
import Derived.Test.YtclnadjgbpihcaaGreatDoorW2
/-! What a law of layer 8 owes besides its walk: its arguments, opened and handed back. No condition. -/
namespace Go.Proofs.YtclnadjgbpihcaaGreatDoor
open Go.ChangeShapes Go.WideShapes Go.ChangeAt Go.RowKit Go.Lib
set_option linter.unusedVariables false
set_option linter.unusedSimpArgs false

theorem laidOutP : laidOutB Tryz.prog = true := by kernel_rfl
theorem cellsByte : Tryz.prog.cellsOf 5 = 1 := by kernel_rfl

theorem bounds_u8 {x : Int} (h : (Lit.int .u8 x).wf = true) : 0 ≤ x ∧ x ≤ 255 := by simpa [Lit.wf, IntKind.min, IntKind.max, IntKind.signed, IntKind.bits] using h
theorem bounds_u16 {x : Int} (h : (Lit.int .u16 x).wf = true) : 0 ≤ x ∧ x ≤ 65535 := by simpa [Lit.wf, IntKind.min, IntKind.max, IntKind.signed, IntKind.bits] using h

/-- A slice of bytes that reads so. -/
def BytesAt (W : World) (v : Value) (zs : List Int) : Prop :=
  ∃ a cap, v = .slice a zs.length cap ∧ zs.length ≤ cap ∧ zs.length ≤ maxLen ∧ (∀ z ∈ zs, 0 ≤ z ∧ z ≤ 255) ∧
    (0 < zs.length → ∃ b off, a = some ⟨b, off, none⟩ ∧ b < W.heap.size ∧ ∀ (i : Nat) (z : Int), zs[i]? = some z → W.cell? ⟨b, off + i, none⟩ = some (.int .u8 z))

theorem BytesAt.below {W W' : World} {v : Value} {zs : List Int} (h : BytesAt W v zs) (hb : Below W.heap.size W W') : BytesAt W' v zs := by
  obtain ⟨a, cap, h1, h2, h3, h4, h5⟩ := h
  refine ⟨a, cap, h1, h2, h3, h4, fun hn => ?_⟩
  obtain ⟨b, off, ha, hlt, hc⟩ := h5 hn
  exact ⟨b, off, ha, Nat.lt_of_lt_of_le hlt hb.size, fun i z hz => (hb.cell (p := ⟨b, off + i, none⟩) hlt).trans (hc i z hz)⟩

theorem bounds_i64 {x : Int} (h : (Lit.int .i64 x).wf = true) : -9223372036854775808 ≤ x ∧ x ≤ 9223372036854775807 := by simpa [Lit.wf, IntKind.min, IntKind.max, IntKind.signed, IntKind.bits] using h

theorem tabs_of_laid {l : List (String × DataW Unit)} {W : World} (h : laidMetH Tryz.prog l W) (hp : laidMetH Tryz.prog l W = laidMet Tryz.prog l W)
    (e1 : l.filter (fun x => x.1 == "math/bits.deBruijn64tab") = [("math/bits.deBruijn64tab", Lib.tabData .u8 bruijnTab)])
    (e2 : l.filter (fun x => x.1 == "internal/strconv.uint64pow10") = [("internal/strconv.uint64pow10", Lib.tabData .u64 Lib.pow10Tab)]) : Tab1 W := by
  rw [hp] at h
  have h1 := laidMet.filter (fun x => x.1 == "math/bits.deBruijn64tab") h
  have h2 := laidMet.filter (fun x => x.1 == "internal/strconv.uint64pow10") h
  rw [e1] at h1
  rw [e2] at h2
  have t1 := Lib.tabIs_of_head (g := 1) (t := 151) (e := 5) (n := 64) (by kernel_rfl) (by kernel_rfl) Tryz.underlying151 Tryz.underlying5 (by kernel_rfl) (by kernel_rfl) h1
  have t2 := Lib.tabIs_of_head (g := 2) (t := 157) (e := 23) (n := 20) (by kernel_rfl) (by kernel_rfl) Tryz.underlying157 Tryz.underlying23 (by kernel_rfl) (by kernel_rfl) h2
  exact ⟨t2, t1⟩

theorem BytesAt.low {W W' : World} {a : Option Addr} {cap : Nat} {zs : List Int} {n : Nat} (h : BytesAt W (.slice a n cap) zs) (hb : Below W.heap.size W W') : n = zs.length ∧ BytesLow W' W'.heap.size (.slice a zs.length cap) zs := by
  obtain ⟨a', cap', h1, h2, h3, h4, h5⟩ := h
  cases h1
  refine ⟨rfl, a, cap, rfl, h2, h3, h4, fun hn => ?_⟩
  obtain ⟨b, off, ha, hlt, hc⟩ := h5 hn
  exact ⟨b, off, ha, Nat.lt_of_lt_of_le hlt hb.size, fun i z hz => (hb.cell (p := ⟨b, off + i, none⟩) hlt).trans (hc i z hz)⟩

theorem cellsWord : Tryz.prog.cellsOf 23 = 1 := by kernel_rfl
theorem cellsSet : Tryz.prog.cellsOf 25 = 4 := by kernel_rfl

theorem list4 {α : Type} (l : List α) (h : (⟨l⟩ : Array α).size = 4) : ∃ a b c d, l = [a, b, c, d] := by
  match l, h with
  | [a, b, c, d], _ => exact ⟨a, b, c, d, rfl⟩

section
variable {H : Type} {enc : TypeId × Value → H}

/-- The datum of a set. -/
def setD (a0 a1 a2 a3 : Int) : DataW H := .agg [.lit (.int .u64 a0), .lit (.int .u64 a1), .lit (.int .u64 a2), .lit (.int .u64 a3)]

theorem wfu64r {x : Int} (h : (Lit.int .u64 x).wf = true) : 0 ≤ x ∧ x ≤ 18446744073709551615 := by simpa [Lit.wf, IntKind.min, IntKind.max, IntKind.signed, IntKind.bits] using h

set_option maxRecDepth 100000 in
theorem open_set {W : World} {base b0 : Nat} {sp : Nat → Bool} {v : Value} {d : DataW H} {p : List MemPlace} (hval : Value.okWide Tryz.prog W .any base 25 v) (h : DataW.Trod enc Tryz.prog W b0 sp true 25 v d p) :
    ∃ a0 a1 a2 a3 : Int, v = .agg #[.int .u64 a0, .int .u64 a1, .int .u64 a2, .int .u64 a3] ∧ d = setD a0 a1 a2 a3 ∧ p = [] ∧ ((Lit.int .u64 a0).wf = true ∧ (Lit.int .u64 a1).wf = true ∧ (Lit.int .u64 a2).wf = true ∧ (Lit.int .u64 a3).wf = true) ∧ IsSet a0 a1 a2 a3 (memb a0 a1 a2 a3) := by
  obtain ⟨cs, rfl, hsz, _⟩ : ∃ cs, v = .agg cs ∧ cs.size = Tryz.prog.cellsOf 25 ∧ Row.okWide Tryz.prog W .any base 25 cs := by
    simpa [Value.okWide, Tryz.underlying25] using hval
  rw [cellsSet] at hsz
  obtain ⟨l⟩ := cs
  obtain ⟨c0, c1, c2, c3, rfl⟩ := list4 l hsz
  obtain ⟨fuel, hf⟩ := h
  obtain ⟨y0, y1, y2, y3, m, hx, hy0, hy1, hy2, hy3⟩ := trod_array4 Tryz.underlying25 cellsWord hf
  obtain ⟨x0, e0, rfl, w0⟩ := DataW.trod_int Tryz.underlying23 hy0
  obtain ⟨x1, e1, rfl, w1⟩ := DataW.trod_int Tryz.underlying23 hy1
  obtain ⟨x2, e2, rfl, w2⟩ := DataW.trod_int Tryz.underlying23 hy2
  obtain ⟨x3, e3, rfl, w3⟩ := DataW.trod_int Tryz.underlying23 hy3
  simp at e0 e1 e2 e3
  subst e0 e1 e2 e3
  simp only [Prod.mk.injEq] at hx
  obtain ⟨rfl, rfl⟩ := hx
  exact ⟨x0, x1, x2, x3, rfl, rfl, rfl, ⟨w0, w1, w2, w3⟩, IsSet.of _ _ _ _ (wfu64r w0) (wfu64r w1) (wfu64r w2) (wfu64r w3)⟩

set_option maxRecDepth 100000 in
theorem shut_set {W : World} {b0 : Nat} {sp : Nat → Bool} {hd : Bool} {a0 a1 a2 a3 : Int} (h : (Lit.int .u64 a0).wf = true ∧ (Lit.int .u64 a1).wf = true ∧ (Lit.int .u64 a2).wf = true ∧ (Lit.int .u64 a3).wf = true) :
    DataW.Trod enc Tryz.prog W b0 sp hd 25 (.agg #[.int .u64 a0, .int .u64 a1, .int .u64 a2, .int .u64 a3]) (setD a0 a1 a2 a3) [] := by
  obtain ⟨w0, w1, w2, w3⟩ := h
  exact ⟨2, by simp [setD, DataW.trod, Value.cells, Tryz.underlying25, Tryz.underlying23, cellsSet, cellsWord, w0, w1, w2, w3, show List.range 4 = [0, 1, 2, 3] from rfl]⟩


set_option maxRecDepth 100000 in
theorem open_bytes {W : World} {base : Nat} {v : Value} {d : DataW H} {p : List MemPlace} (hval : Value.okWide Tryz.prog W .any base 22 v) (h : DataW.Trod enc Tryz.prog W 0 (fun _ => true) true 22 v d p) :
    ∃ zs, BytesAt W v zs := by
  obtain ⟨a0, len, cap, rfl⟩ := okWide_slice Tryz.underlying22 hval
  obtain ⟨fuel, hf⟩ := h
  rcases open_ints Tryz.underlying22 Tryz.underlying5 cellsByte hf with ⟨hcs, hx⟩ | ⟨a, len', cap', zs, hcs, _, hl, hm, hz, hx, hc, hw⟩
  · simp [Value.cells] at hcs
    obtain ⟨rfl, rfl, rfl⟩ := hcs
    exact ⟨[], none, 0, rfl, Nat.le_refl _, Nat.zero_le _, fun z hz => by simp at hz, fun h => by simp at h⟩
  · simp [Value.cells] at hcs
    obtain ⟨rfl, rfl, rfl⟩ := hcs
    simp only [if_true] at hz

    have hlen : (zs.take len).length = len := by rw [List.length_take]; omega
    refine ⟨zs.take len, some a, cap, by rw [hlen], by omega, Nat.le_trans (by omega : (zs.take len).length ≤ cap) hm, fun z hz => bounds_u8 (hw z (List.mem_of_mem_take hz)), fun hn => ?_⟩
    obtain ⟨b, off, spot⟩ := a
    have h0 := hc 0 (by omega)
    have hspot : spot = none := by simpa [Addr.add] using World.cell?_spot h0
    subst hspot
    have hlt : b < W.heap.size := by
      have := World.block_lt_of_cell? W _ h0
      simpa [Addr.add] using this
    refine ⟨b, off, rfl, hlt, fun i z hzi => ?_⟩
    have hi : i < len := by
      have := (List.getElem?_eq_some_iff.1 hzi).1
      omega
    have hci := hc i (by omega)
    rw [List.getElem?_take_of_lt hi] at hzi
    have e : (⟨b, off, none⟩ : Addr).add i = ⟨b, off + i, none⟩ := by cases i <;> simp [Addr.add]
    rw [e, List.getD_eq_getElem?_getD, hzi] at hci
    exact hci

/-- What a law owes behind its walk, where an argument lies in memory. -/
theorem post_of_old {P : Program} {f : Func} {s : ChangeSpec} {fresh handsOn : Bool} {W W' : World} {args : Array Value} {v : Value} {ds gs : List (DataW H)} {before pa pv : List MemPlace}
    (hW : DataW.Whole enc P f.params.toList s.vars false W args.toList ds gs before)
    (hres : ∀ (b : Nat) (sp : Nat → Bool) (hd : Bool), DataW.TrodAll enc P W' b sp hd f.resultTypes.toList (v.resultList f.resultTypes.size) (s.fn H (ds ++ gs)).results [])
    (hargs : DataW.TrodAll enc P W' 0 (fun b => decide (b < W.heap.size)) true f.params.toList args.toList (s.fn H (ds ++ gs)).args pa)
    (hvars : ∀ sp : Nat → Bool, DataW.TrodVars enc P W' sp s.vars (s.fn H (ds ++ gs)).vars pv)
    (hps : before = pa ++ pv) (hb : Below W.heap.size W W') :
    s.post enc P f false fresh handsOn false W args v W' := by
  refine ⟨ds, gs, before, [], pa, pv, hW, hres _ _ _, hargs, hvars _, World.keptBut_mono (fun p hp => ⟨hp, ?_⟩) (hb.frame _), fun h => by cases h⟩
  rw [hps, List.mem_append] at hp
  exact Or.inr hp
end

end Go.Proofs.YtclnadjgbpihcaaGreatDoor

/-! The last region of the law DerivMatch: whatever order its operations take, it says true. No condition. -/
namespace Go.Proofs.YtclnadjgbpihcaaGreatDoor
open Go.RowKit Go.Lib
set_option linter.unusedVariables false
set_option linter.unusedSimpArgs false

noncomputable def opsMt : Array Oper := ((Tryz.prog.funcs[3]?.bind (·.body)).map (opsAt 3)).getD #[]
set_option maxRecDepth 100000 in
theorem opCall0Mt {w : World} {o : Oper} {a : Act} {K : Act → World → Prop} {Q : Exit → Act → World → Prop} {Fn : FuncId} {T : Array TypeId} {R : Ending → World → Prop} {s : SD} (ho : o.op = .call { callee := .value (.func Fn), args := #[], argTypes := T }) (hc : Calls Tryz.prog Fn #[] w R)
    (hF : ∀ args w, (callFunc Fn args).run Tryz.prog w = .ok (.enter Fn args) w)
    (hR : ∀ e w', R e w' → ∃ v, e = .returned v ∧ s.at w' v ∧ Below w.heap.size w w') (hK : ∀ v w', s.at w' v → Below w.heap.size w w' → K (a.put o.dst v) w') : o.wp Tryz.prog a w K Q := by
  unfold Oper.wp
  have hf : a.eval (.func Fn) = .func (.func Fn) #[] #[] := rfl
  generalize a.eval = ev at hf ⊢
  simp [execOp, ho, hf, go_sem, hF, resolve, invoke]
  refine hc.mono (fun e w' hr => ?_)
  obtain ⟨v, rfl, hs, hb⟩ := hR e w' hr
  exact hK v w' hs hb
theorem entAMt : ∀ args w, (callFunc 7 args).run Tryz.prog w = .ok (.enter 7 args) w := enters_of Tryz.func7 (by kernel_rfl) rfl
theorem entRMt : ∀ args w, (callFunc 9 args).run Tryz.prog w = .ok (.enter 9 args) w := enters_of Tryz.func9 (by kernel_rfl) rfl
noncomputable def sMt (C : Nat) (x : ReV) (r : RT) (s : ByteArray) (m1 : Bool) : List SD := [.v tt, .v tt, .x r, .v (.string s), .v (.bool m1), .x r, .v (.string s), .v (.bool m1), .v tt, .v tt, .v tt]
noncomputable def fMt (C : Nat) (x : ReV) (r : RT) (s : ByteArray) (m1 : Bool) : List (Nat × Value) := [(5, .pointer (some ⟨C, 0, none⟩)), (6, .string s)]
theorem regKMt (C : Nat) (x : ReV) (r : RT) (s : ByteArray) (m1 : Bool) : RegK opsMt 11 21 4 11 (sMt C x r s m1) (fMt C x r s m1) :=
  ⟨by kernel_rfl, by kernel_rfl, rfl, by decide, by decide, (fun x hx => by simp [fMt] at hx; rcases hx with rfl | rfl <;> simp)⟩
/-- What is known. -/
structure HMt (C : Nat) (x : ReV) (r : RT) (s : ByteArray) (m1 : Bool) (W : World) : Prop where
  hC : W.heap[C]? = some (.cells x.cells.toArray 28 (0, 0))
  hx : RAt W (fun _ => True) x r
  hA : ∀ w, Below W.heap.size W w → Calls Tryz.prog 7 #[] w (GivesBool true w)
  hM : ∀ w, Below W.heap.size W w → ∀ y, RAt w (fun _ => True) y r → Calls Tryz.prog 8 #[y.val, .string s] w (GivesBool m1 w)
  hR : ∀ w, Below W.heap.size W w → ∀ y, RAt w (fun _ => True) y r → Calls Tryz.prog 9 #[y.val, .string s] w (GivesBool m1 w)
set_option maxRecDepth 100000 in
set_option maxHeartbeats 8000000 in
theorem stepMt (C : Nat) (x : ReV) (r : RT) (s : ByteArray) (m1 : Bool) {W w : World} {L : Array Bool} {a : Act} {i : Nat} {Q : Exit → Act → World → Prop} (hH : HMt C x r s m1 W) (hL : L.size = 11) (hJ : JR 11 21 4 11 (sMt C x r s m1) (fMt C x r s m1) W L a w) (hr : i ∈ Region.ready .any opsMt L) (hi : i < 11) : wpOp Tryz.prog opsMt Q i (JR 11 21 4 11 (sMt C x r s m1) (fMt C x r s m1) W (L.setIfInBounds i true)) a w := by
  have hk := regKMt C x r s m1
  match i, hi with
  | 0, _ => exact atP (d := 11) (by kernel_rfl) fun o ho hd => opCall0Mt (T := #[]) (s := (SD.v tt)) ho (hH.hA w hJ.2.2.1) entAMt (fun _ _ h => boolOf h) (fun v w' hs hb => by rw [hd]; exact hJ.step hk (i := 0) (s := .v tt) rfl hL hs hb)
  | 1, _ => exact atP (d := 12) (by kernel_rfl) fun o ho hd => opMove (d := 11) (s := (SD.v tt)) (hJ.get (i := 1) (j := 0) hr (by kernel_rfl) rfl) ho (fun v w' hs hb => by rw [hd]; exact hJ.step hk (i := 1) (s := .v tt) rfl hL hs hb)
  | 2, _ => exact atG (d := 13) (g := 1) (m := 12) (by kernel_rfl) (by kernel_rfl) (hJ.get (i := 2) (j := 1) hr (by kernel_rfl) rfl) fun o ho hd => opLoad (d := 5) (hJ.2.2.2.1 (5, .pointer (some ⟨C, 0, none⟩)) (by simp [fMt])) ((hJ.2.2.1.block _ (Array.getElem?_eq_some_iff.1 hH.hC).1).trans hH.hC) (hH.hx.under hJ.2.2.1) ho (fun v w' hs hb => by rw [hd]; exact hJ.step hk (i := 2) (s := .x r) rfl hL hs hb)
  | 3, _ => exact atG (d := 14) (g := 1) (m := 12) (by kernel_rfl) (by kernel_rfl) (hJ.get (i := 3) (j := 1) hr (by kernel_rfl) rfl) fun o ho hd => opMove (d := 6) (s := (SD.v (.string s))) (hJ.2.2.2.1 (6, .string s) (by simp [fMt])) ho (fun v w' hs hb => by rw [hd]; exact hJ.step hk (i := 3) (s := .v (.string s)) rfl hL hs hb)
  | 4, _ => exact atG (d := 15) (g := 1) (m := 12) (by kernel_rfl) (by kernel_rfl) (hJ.get (i := 4) (j := 1) hr (by kernel_rfl) rfl) fun o ho hd => opTreeV (T := #[28, 9]) (x' := .tmp 14) (d := 13) (s := (SD.v (.bool m1))) (u' := .string s) (hJ.get (i := 4) (j := 2) hr (by kernel_rfl) rfl) (hJ.get (i := 4) (j := 3) hr (by kernel_rfl) rfl) ho (fun y hy => hH.hM w hJ.2.2.1 y hy) entM (fun _ _ h => boolOf h) (fun v w' hs hb => by rw [hd]; exact hJ.step hk (i := 4) (s := .v (.bool m1)) rfl hL hs hb)
  | 5, _ => exact atG (d := 16) (g := 1) (m := 12) (by kernel_rfl) (by kernel_rfl) (hJ.get (i := 5) (j := 1) hr (by kernel_rfl) rfl) fun o ho hd => opLoad (d := 5) (hJ.2.2.2.1 (5, .pointer (some ⟨C, 0, none⟩)) (by simp [fMt])) ((hJ.2.2.1.block _ (Array.getElem?_eq_some_iff.1 hH.hC).1).trans hH.hC) (hH.hx.under hJ.2.2.1) ho (fun v w' hs hb => by rw [hd]; exact hJ.step hk (i := 5) (s := .x r) rfl hL hs hb)
  | 6, _ => exact atG (d := 17) (g := 1) (m := 12) (by kernel_rfl) (by kernel_rfl) (hJ.get (i := 6) (j := 1) hr (by kernel_rfl) rfl) fun o ho hd => opMove (d := 6) (s := (SD.v (.string s))) (hJ.2.2.2.1 (6, .string s) (by simp [fMt])) ho (fun v w' hs hb => by rw [hd]; exact hJ.step hk (i := 6) (s := .v (.string s)) rfl hL hs hb)
  | 7, _ => exact atG (d := 18) (g := 1) (m := 12) (by kernel_rfl) (by kernel_rfl) (hJ.get (i := 7) (j := 1) hr (by kernel_rfl) rfl) fun o ho hd => opTreeV (T := #[28, 9]) (x' := .tmp 17) (d := 16) (s := (SD.v (.bool m1))) (u' := .string s) (hJ.get (i := 7) (j := 5) hr (by kernel_rfl) rfl) (hJ.get (i := 7) (j := 6) hr (by kernel_rfl) rfl) ho (fun y hy => hH.hR w hJ.2.2.1 y hy) entRMt (fun _ _ h => boolOf h) (fun v w' hs hb => by rw [hd]; exact hJ.step hk (i := 7) (s := .v (.bool m1)) rfl hL hs hb)
  | 8, _ => exact atG (d := 19) (g := 1) (m := 12) (by kernel_rfl) (by kernel_rfl) (hJ.get (i := 8) (j := 1) hr (by kernel_rfl) rfl) fun o ho hd => opEqB (c := 15) (d := 18) (b := m1) (hJ.get (i := 8) (j := 4) hr (by kernel_rfl) rfl) (hJ.get (i := 8) (j := 7) hr (by kernel_rfl) rfl) ho (fun v w' hs hb => by rw [hd]; exact hJ.step hk (i := 8) (s := .v tt) rfl hL hs hb)
  | 9, _ => exact atP (d := 20) (by kernel_rfl) fun o ho hd => opPick (c := 12) (d := 19) (hJ.get (i := 9) (j := 1) hr (by kernel_rfl) rfl) (hJ.get (i := 9) (j := 8) hr (by kernel_rfl) rfl) ho (fun v w' hs hb => by rw [hd]; exact hJ.step hk (i := 9) (s := .v tt) rfl hL hs hb)
  | 10, _ => exact atP (d := 4) (by kernel_rfl) fun o ho hd => opAssign (d := 20) (s := (SD.v tt)) (hJ.get (i := 10) (j := 9) hr (by kernel_rfl) rfl) ho (fun v w' hs hb => by rw [hd]; exact hJ.step hk (i := 10) (s := .v tt) rfl hL hs hb)
  | n + 11, h => omega
set_option maxRecDepth 100000 in
/-- The region, whatever order its operations take. -/
theorem regMt (C : Nat) (x : ReV) (r : RT) (s : ByteArray) (m1 : Bool) {W : World} {tmps : Array Value} {ops : Array Oper} {Q : Exit → Act → World → Prop} (hH : HMt C x r s m1 W) (hops : opsMt = ops) (hsz : tmps.size = 21) (hf : ∀ q0 ∈ fMt C x r s m1, tmps.getD q0.1 undef = q0.2)
    (hQ : ∀ (tm : Array Value) (w : World), tm.size = 21 → tm.getD 4 undef = .bool true → Below W.heap.size W w → Q .normal ⟨tm, []⟩ w) : (Code.region 3 ops true).wp Tryz.prog Q ⟨tmps, []⟩ W :=
  region_all (regKMt C x r s m1) hops hsz hf (fun L a w i hL hJ hr hi => stepMt C x r s m1 hH hL hJ hr hi) (fun tm w h1 _ h3 h4 => hQ tm w h1 (h3 10 (.v (.bool true)) rfl) h4)

end Go.Proofs.YtclnadjgbpihcaaGreatDoor

/-! Plain facts on the ranges of a set: each rises, with a gap between two, and together they hold the set's bytes; no condition. -/
namespace Go.Proofs.YtclnadjgbpihcaaGreatDoor
open Go.RowKit

/-- Does one of the ranges hold b? -/
def inR (l : List (Nat × Nat)) (b : Nat) : Bool := l.any fun r => decide (r.1 ≤ b) && decide (b ≤ r.2)

theorem inR_snoc (l : List (Nat × Nat)) (r : Nat × Nat) (b : Nat) : inR (l ++ [r]) b = (inR l b || (decide (r.1 ≤ b) && decide (b ≤ r.2))) := by simp [inR]

/-- Each range rises and ends ahead of k; between two there is a gap. -/
def GoodR (k : Nat) (l : List (Nat × Nat)) : Prop := (∀ r ∈ l, r.1 ≤ r.2 ∧ r.2 < k) ∧ l.Pairwise (fun p r => p.2 + 1 < r.1)

theorem GoodR.ext {k : Nat} {l : List (Nat × Nat)} (h : GoodR k l) : GoodR (k + 1) (ext l k) := by
  rcases List.eq_nil_or_concat l with rfl | ⟨l', r, rfl⟩
  · simp [ext_nil, GoodR]
  · rw [List.concat_eq_append] at h ⊢
    obtain ⟨h1, h2⟩ := h
    rw [List.pairwise_append] at h2
    obtain ⟨p1, _, p3⟩ := h2
    have hr := h1 r (by simp)
    by_cases hk : r.2 + 1 = k
    · rw [ext_yes _ _ _ hk]
      refine ⟨?_, ?_⟩
      · intro q hq
        rcases List.mem_append.1 hq with hq | hq
        · have := h1 q (List.mem_append.2 (.inl hq)); omega
        · simp at hq; subst hq; simp; omega
      · rw [List.pairwise_append]
        refine ⟨p1, by simp, ?_⟩
        intro q hq s hs
        simp at hs; subst hs
        exact p3 q hq r (by simp)
    · rw [ext_no _ _ _ hk]
      refine ⟨?_, ?_⟩
      · intro q hq
        rcases List.mem_append.1 hq with hq | hq
        · have := h1 q hq; omega
        · simp at hq; subst hq; simp
      · rw [List.pairwise_append]
        refine ⟨by rw [List.pairwise_append]; exact ⟨p1, by simp, p3⟩, by simp, ?_⟩
        intro q hq s hs
        simp at hs; subst hs
        rcases List.mem_append.1 hq with hq | hq
        · have a := p3 q hq r (by simp); simp; omega
        · simp at hq; subst hq; simp; omega

theorem inR_ext {k : Nat} {l : List (Nat × Nat)} (h : GoodR k l) (b : Nat) : inR (ext l k) b = (inR l b || b == k) := by
  rcases List.eq_nil_or_concat l with rfl | ⟨l', r, rfl⟩
  · simp only [ext_nil, inR]
    rw [Bool.eq_iff_iff]; simp; omega
  · rw [List.concat_eq_append] at h ⊢
    have hr := h.1 r (by simp)
    by_cases hk : r.2 + 1 = k
    · rw [ext_yes _ _ _ hk, inR_snoc, inR_snoc, Bool.or_assoc]
      congr 1
      rw [Bool.eq_iff_iff]; simp; omega
    · rw [ext_no _ _ _ hk, inR_snoc]
      congr 1
      rw [Bool.eq_iff_iff]; simp; omega

theorem rgs_good (f : Nat → Bool) : ∀ k, GoodR k (rgs f k)
  | 0 => by simp [rgs, GoodR]
  | k + 1 => by
    have ih := rgs_good f k
    unfold rgs
    split
    · exact ih.ext
    · exact ⟨fun r hr => by have := ih.1 r hr; omega, ih.2⟩

theorem rgs_in (f : Nat → Bool) (b : Nat) : ∀ k, inR (rgs f k) b = (decide (b < k) && f b)
  | 0 => by simp [rgs, inR]
  | k + 1 => by
    have ih := rgs_in f b k
    unfold rgs
    cases hf : f k with
    | true =>
      simp only [if_true]
      rw [inR_ext (rgs_good f k), ih]
      by_cases hb : b = k
      · subst hb; simp [hf]
      · have e : decide (b < k) = decide (b < k + 1) := by rw [Bool.eq_iff_iff]; simp; omega
        simp [hb, e]
    | false =>
      simp only [Bool.false_eq_true, if_false]
      rw [ih]
      by_cases hb : b = k
      · subst hb; simp [hf]
      · have e : decide (b < k) = decide (b < k + 1) := by rw [Bool.eq_iff_iff]; simp; omega
        rw [e]

theorem good_at {k : Nat} {l : List (Nat × Nat)} (h : GoodR k l) (i : Nat) (hi : i < l.length) : l[i].1 ≤ l[i].2 ∧ l[i].2 < k := h.1 _ (List.getElem_mem hi)

theorem good_gap {k : Nat} {l : List (Nat × Nat)} (h : GoodR k l) (i : Nat) (hi : i + 1 < l.length) : (l[i]'(by omega)).2 + 1 < l[i + 1].1 :=
  (List.pairwise_iff_getElem.1 h.2) i (i + 1) (by omega) hi (by omega)

theorem inR_take (l : List (Nat × Nat)) (i : Nat) (hi : i < l.length) (b : Nat) : inR (l.take (i + 1)) b = (inR (l.take i) b || (decide (l[i].1 ≤ b) && decide (b ≤ l[i].2))) := by
  rw [List.take_succ_eq_append_getElem hi, inR_snoc]

end Go.Proofs.YtclnadjgbpihcaaGreatDoor

/-! The text of a good expression says which one it is. No condition. -/
namespace Go.Proofs.YtclnadjgbpihcaaGreatDoor
open Go.RowKit Go.Lib
set_option linter.unusedVariables false
set_option linter.unusedSimpArgs false

/-! ### numbers and ranges -/
theorem span_split {D : UInt8 → Prop} : ∀ (A B : Tx) (c d : UInt8) (u v : Tx), (∀ x ∈ A, D x) → (∀ x ∈ B, D x) → ¬ D c → ¬ D d → A ++ c :: u = B ++ d :: v → A = B ∧ c = d ∧ u = v
  | [], [], c, d, u, v, _, _, _, _, h => by
    simp at h
    exact ⟨rfl, h.1, h.2⟩
  | [], b :: B, c, d, u, v, _, hB, hc, _, h => by
    simp at h
    exact absurd (h.1 ▸ hB b (by simp)) hc
  | a :: A, [], c, d, u, v, hA, _, _, hd, h => by
    simp at h
    exact absurd (h.1 ▸ hA a (by simp)) hd
  | a :: A, b :: B, c, d, u, v, hA, hB, hc, hd, h => by
    simp only [List.cons_append, List.cons.injEq] at h
    obtain ⟨h1, h2, h3⟩ := span_split A B c d u v (fun x hx => hA x (by simp [hx])) (fun x hx => hB x (by simp [hx])) hc hd h.2
    exact ⟨by rw [h.1, h1], h2, h3⟩
def isDg (c : UInt8) : Prop := 48 ≤ c.toNat ∧ c.toNat ≤ 57
theorem dg_of (n : Nat) : isDg (UInt8.ofNat (48 + n % 10)) ∧ (UInt8.ofNat (48 + n % 10)).toNat = 48 + n % 10 := by
  have h : (UInt8.ofNat (48 + n % 10)).toNat = 48 + n % 10 := by simp; omega
  exact ⟨⟨by rw [h]; omega, by rw [h]; omega⟩, h⟩
theorem digF_dg : ∀ f n, ∀ c ∈ digF f n, isDg c
  | 0, n, c, hc => by rw [digF] at hc; rw [List.mem_singleton.1 hc]; exact (dg_of n).1
  | f + 1, n, c, hc => by
    rw [digF] at hc
    split at hc
    · rw [List.mem_singleton.1 hc]; exact (dg_of n).1
    · rcases List.mem_append.1 hc with h | h
      · exact digF_dg f _ c h
      · rw [List.mem_singleton.1 h]; exact (dg_of n).1
def valT (l : Tx) : Nat := l.foldl (fun v c => 10 * v + (c.toNat - 48)) 0
theorem digF_val : ∀ f n, n < 10 ^ (f + 1) → valT (digF f n) = n
  | 0, n, h => by
    have := (dg_of n).2
    simp only [digF, valT, List.foldl_cons, List.foldl_nil]
    rw [this]
    have h : n < 10 := by simpa using h
    omega
  | f + 1, n, h => by
    have h1 := (dg_of n).2
    rw [digF]
    split
    · simp only [valT, List.foldl_cons, List.foldl_nil]
      rw [h1]
      omega
    · have h2 := digF_val f (n / 10) (by rw [Nat.pow_succ] at h; omega)
      unfold valT at h2 ⊢
      rw [List.foldl_append, h2]
      simp only [List.foldl_cons, List.foldl_nil]
      rw [h1]
      omega
theorem dig_inj {n m : Nat} (hn : n < 1000) (hm : m < 1000) (h : dig n = dig m) : n = m := by
  have h1 := digF_val 2 n hn
  have h2 := digF_val 2 m hm
  unfold dig at h
  rw [h] at h1
  omega
theorem dig_ne (n : Nat) : dig n ≠ [] := by
  unfold dig
  rw [digF]
  split <;> simp
theorem no_dg {c : UInt8} (h : c = 44 ∨ c = 45 ∨ c = 93) : ¬ isDg c := by
  rcases h with rfl | rfl | rfl <;> (unfold isDg; decide)
theorem dig_split {n m : Nat} (hn : n < 1000) (hm : m < 1000) {c d : UInt8} {u v : Tx} (hc : c = 44 ∨ c = 45 ∨ c = 93) (hd : d = 44 ∨ d = 45 ∨ d = 93) (h : dig n ++ c :: u = dig m ++ d :: v) : n = m ∧ c = d ∧ u = v := by
  obtain ⟨h1, h2, h3⟩ := span_split (D := isDg) _ _ c d u v (digF_dg 2 n) (digF_dg 2 m) (no_dg hc) (no_dg hd) h
  exact ⟨dig_inj hn hm h1, h2, h3⟩
def rgT (r : Nat × Nat) : Tx := dig r.1 ++ 45 :: dig r.2
def tailR : List (Nat × Nat) → Tx → Tx
  | [], u => 93 :: u
  | r :: R, u => 44 :: (rgT r ++ tailR R u)
theorem sep_tailR : ∀ (R : List (Nat × Nat)) (r : Nat × Nat) (u : Tx), sepB [44] ((r :: R).map rgT) ++ 93 :: u = rgT r ++ tailR R u
  | [], r, u => rfl
  | s :: R, r, u => by
    have h := sep_tailR R s u
    show (rgT r ++ [44] ++ sepB [44] ((s :: R).map rgT)) ++ 93 :: u = rgT r ++ 44 :: (rgT s ++ tailR R u)
    rw [List.append_assoc, h]
    simp
theorem tail_head : ∀ (R : List (Nat × Nat)) (u : Tx), ∃ c w, tailR R u = c :: w ∧ (c = 44 ∨ c = 45 ∨ c = 93)
  | [], u => ⟨93, u, rfl, .inr (.inr rfl)⟩
  | r :: R, u => ⟨44, _, rfl, .inl rfl⟩
theorem rg_split {r s : Nat × Nat} (hr : r.1 < 1000 ∧ r.2 < 1000) (hs : s.1 < 1000 ∧ s.2 < 1000) {R S : List (Nat × Nat)} {u v : Tx} (h : rgT r ++ tailR R u = rgT s ++ tailR S v) : r = s ∧ tailR R u = tailR S v := by
  obtain ⟨c, w, e1, hc⟩ := tail_head R u
  obtain ⟨d, z, e2, hd⟩ := tail_head S v
  unfold rgT at h
  rw [List.append_assoc, List.append_assoc] at h
  obtain ⟨h1, _, h2⟩ := dig_split hr.1 hs.1 (.inr (.inl rfl)) (.inr (.inl rfl)) h
  rw [e1, e2] at h2
  obtain ⟨h3, h4, h5⟩ := dig_split hr.2 hs.2 hc hd h2
  exact ⟨Prod.ext h1 h3, by rw [e1, e2, h4, h5]⟩
theorem tail_split : ∀ (R S : List (Nat × Nat)) (u v : Tx), (∀ r ∈ R, r.1 < 1000 ∧ r.2 < 1000) → (∀ r ∈ S, r.1 < 1000 ∧ r.2 < 1000) → tailR R u = tailR S v → R = S ∧ u = v
  | [], [], u, v, _, _, h => by simp [tailR] at h; exact ⟨rfl, h⟩
  | [], s :: S, u, v, _, _, h => by simp [tailR] at h
  | r :: R, [], u, v, _, _, h => by simp [tailR] at h
  | r :: R, s :: S, u, v, hR, hS, h => by
    simp only [tailR, List.cons.injEq, true_and] at h
    obtain ⟨h1, h2⟩ := rg_split (hR r (by simp)) (hS s (by simp)) h
    obtain ⟨h3, h4⟩ := tail_split R S u v (fun x hx => hR x (by simp [hx])) (fun x hx => hS x (by simp [hx])) h2
    exact ⟨by rw [h1, h3], h4⟩
theorem ranges_split {R S : List (Nat × Nat)} {u v : Tx} (hR : ∀ r ∈ R, r.1 < 1000 ∧ r.2 < 1000) (hS : ∀ r ∈ S, r.1 < 1000 ∧ r.2 < 1000) (h : sepB [44] (R.map rgT) ++ 93 :: u = sepB [44] (S.map rgT) ++ 93 :: v) : R = S ∧ u = v := by
  have hh : ∀ (s : Nat × Nat) (S : List (Nat × Nat)) (u v : Tx), 93 :: u ≠ rgT s ++ tailR S v := fun s S u v e => by
    unfold rgT at e
    rw [List.append_assoc] at e
    have e : ([] : Tx) ++ 93 :: u = dig s.1 ++ 45 :: (dig s.2 ++ tailR S v) := e
    obtain ⟨e1, _⟩ := span_split (D := isDg) _ _ _ _ _ _ (fun _ h => by cases h) (digF_dg 2 s.1) (no_dg (.inr (.inr rfl))) (no_dg (.inr (.inl rfl))) e
    exact dig_ne _ e1.symm
  match R, S with
  | [], [] => simp [sepB] at h; exact ⟨rfl, h⟩
  | [], s :: S => rw [sep_tailR] at h; exact absurd h (hh _ _ _ _)
  | r :: R, [] => rw [sep_tailR] at h; exact absurd h.symm (hh _ _ _ _)
  | r :: R, s :: S =>
    rw [sep_tailR, sep_tailR] at h
    obtain ⟨h1, h2⟩ := rg_split (hR r (by simp)) (hS s (by simp)) h
    obtain ⟨h3, h4⟩ := tail_split R S u v (fun x hx => hR x (by simp [hx])) (fun x hx => hS x (by simp [hx])) h2
    exact ⟨by rw [h1, h3], h4⟩
theorem rgs_small (f : Nat → Bool) : ∀ r ∈ rgs f 256, r.1 < 1000 ∧ r.2 < 1000 := fun r hr => by
  have h := (rgs_good f 256).1 r hr
  omega
theorem rng_inj {s t : W4} (hs : s.Ok) (ht : t.Ok) {u v : Tx} (h : rngT s ++ 93 :: u = rngT t ++ 93 :: v) : s = t ∧ u = v := by
  obtain ⟨h1, h2⟩ := ranges_split (rgs_small s.mem) (rgs_small t.mem) h
  refine ⟨?_, h2⟩
  rw [← of_mem hs, ← of_mem ht]
  refine of_congr fun b hb => ?_
  have e1 := rgs_in s.mem b 256
  have e2 := rgs_in t.mem b 256
  rw [h1] at e1
  rw [e1] at e2
  simpa [hb] using e2

/-! ### trees -/
def headC (c : UInt8) : Prop := c = 48 ∨ c = 49 ∨ c = 91 ∨ c = 40 ∨ c = 123
theorem txt_head : ∀ t : RT, good t → ∃ c r, txt t = c :: r ∧ headC c := by
  intro t
  induction t using RT.ind with
  | h k s kids ih =>
    intro hg
    obtain ⟨⟨_, h2⟩, _, h3⟩ := good_mk.1 hg
    rw [txt_mk]
    unfold headC
    split
    · exact ⟨48, [], rfl, by simp⟩
    · split
      · exact ⟨49, [], rfl, by simp⟩
      · split
        · exact ⟨91, _, rfl, by simp⟩
        · split
          · exact ⟨40, _, rfl, by simp⟩
          · split
            · rename_i e
              have : kids.length = 1 := by
                rcases h2 with ⟨q, _⟩ | ⟨_, q, _⟩ | ⟨q, _⟩ | ⟨q, _⟩
                · omega
                · exact q
                · omega
                · omega
              match kids, this with
              | [x], _ =>
                obtain ⟨c, r, e, hc⟩ := ih x (by simp) (h3 x (by simp))
                exact ⟨c, r ++ [42], by simp [sepB, e], hc⟩
            · exact ⟨123, _, rfl, by simp⟩
def catT : List RT → Tx → Tx
  | [], u => 41 :: u
  | t :: l, u => txt t ++ catT l u
theorem sep_catT : ∀ (l : List RT) (u : Tx), sepB [] (l.map txt) ++ 41 :: u = catT l u
  | [], u => rfl
  | [x], u => rfl
  | x :: y :: l, u => by
    have h := sep_catT (y :: l) u
    show (txt x ++ [] ++ sepB [] ((y :: l).map txt)) ++ 41 :: u = txt x ++ catT (y :: l) u
    rw [← h]
    simp
def eitT : List RT → Tx → Tx
  | [], u => 125 :: u
  | t :: l, u => 124 :: (txt t ++ eitT l u)
theorem sep_eitT : ∀ (l : List RT) (x : RT) (u : Tx), sepB [124] ((x :: l).map txt) ++ 125 :: u = txt x ++ eitT l u
  | [], x, u => rfl
  | y :: l, x, u => by
    have h := sep_eitT l y u
    show (txt x ++ [124] ++ sepB [124] ((y :: l).map txt)) ++ 125 :: u = txt x ++ 124 :: (txt y ++ eitT l u)
    rw [List.append_assoc, h]
    simp
/-- No star stands here. -/
def noS (u : Tx) : Prop := u.head? ≠ some 42
theorem noS_cat {l : List RT} (hg : ∀ t ∈ l, good t) (u : Tx) : noS (catT l u) := by
  match l with
  | [] => unfold noS; simp [catT]
  | t :: l =>
    obtain ⟨c, r, e, hc⟩ := txt_head t (hg t (by simp))
    unfold noS catT
    rw [e]
    simp
    unfold headC at hc
    rcases hc with rfl | rfl | rfl | rfl | rfl <;> decide
theorem noS_eit (l : List RT) (u : Tx) : noS (eitT l u) := by
  match l with
  | [] => unfold noS; simp [eitT]
  | t :: l => unfold noS; simp [eitT]
theorem lists_cat {n : Nat} (hI : ∀ x y : RT, x.sz ≤ n → good x → x.ok → good y → y.ok → ∀ u v, noS u → noS v → txt x ++ u = txt y ++ v → x = y ∧ u = v) :
    ∀ (l m : List RT) (u v : Tx), (∀ t ∈ l, t.sz ≤ n ∧ good t ∧ t.ok) → (∀ t ∈ m, good t ∧ t.ok) → catT l u = catT m v → l = m ∧ u = v
  | [], [], u, v, _, _, h => by simp [catT] at h; exact ⟨rfl, h⟩
  | [], t :: m, u, v, _, hm, h => by
    obtain ⟨c, r, e, hc⟩ := txt_head t (hm t (by simp)).1
    simp only [catT] at h
    rw [e] at h
    simp at h
    unfold headC at hc
    obtain ⟨rfl, _⟩ := h
    exact absurd hc (by decide)
  | t :: l, [], u, v, hl, _, h => by
    obtain ⟨c, r, e, hc⟩ := txt_head t (hl t (by simp)).2.1
    simp only [catT] at h
    rw [e] at h
    simp at h
    unfold headC at hc
    obtain ⟨rfl, _⟩ := h
    exact absurd hc (by decide)
  | t :: l, s :: m, u, v, hl, hm, h => by
    obtain ⟨h1, h2, h3⟩ := hl t (by simp)
    obtain ⟨h4, h5⟩ := hm s (by simp)
    obtain ⟨e1, e2⟩ := hI t s h1 h2 h3 h4 h5 _ _ (noS_cat (fun x hx => (hl x (by simp [hx])).2.1) u) (noS_cat (fun x hx => (hm x (by simp [hx])).1) v) h
    obtain ⟨e3, e4⟩ := lists_cat hI l m u v (fun x hx => hl x (by simp [hx])) (fun x hx => hm x (by simp [hx])) e2
    exact ⟨by rw [e1, e3], e4⟩
theorem lists_eit {n : Nat} (hI : ∀ x y : RT, x.sz ≤ n → good x → x.ok → good y → y.ok → ∀ u v, noS u → noS v → txt x ++ u = txt y ++ v → x = y ∧ u = v) :
    ∀ (l m : List RT) (u v : Tx), (∀ t ∈ l, t.sz ≤ n ∧ good t ∧ t.ok) → (∀ t ∈ m, good t ∧ t.ok) → eitT l u = eitT m v → l = m ∧ u = v
  | [], [], u, v, _, _, h => by simp [eitT] at h; exact ⟨rfl, h⟩
  | [], t :: m, u, v, _, hm, h => by simp [eitT] at h
  | t :: l, [], u, v, hl, _, h => by simp [eitT] at h
  | t :: l, s :: m, u, v, hl, hm, h => by
    obtain ⟨h1, h2, h3⟩ := hl t (by simp)
    obtain ⟨h4, h5⟩ := hm s (by simp)
    simp only [eitT, List.cons.injEq, true_and] at h
    obtain ⟨e1, e2⟩ := hI t s h1 h2 h3 h4 h5 _ _ (noS_eit l u) (noS_eit m v) h
    obtain ⟨e3, e4⟩ := lists_eit hI l m u v (fun x hx => hl x (by simp [hx])) (fun x hx => hm x (by simp [hx])) e2
    exact ⟨by rw [e1, e3], e4⟩
/-- Two that are no stars. -/
theorem unit_inj {n : Nat} (hI : ∀ x y : RT, x.sz ≤ n → good x → x.ok → good y → y.ok → ∀ u v, noS u → noS v → txt x ++ u = txt y ++ v → x = y ∧ u = v) :
    ∀ x y : RT, x.sz ≤ n + 1 → good x → x.ok → good y → y.ok → x.kind ≠ 5 → y.kind ≠ 5 → ∀ u v, txt x ++ u = txt y ++ v → x = y ∧ u = v := by
  intro x y hx gx ox gy oy kx ky u v h
  obtain ⟨k, s, l⟩ := x
  obtain ⟨k', s', l'⟩ := y
  obtain ⟨⟨f1, f2⟩, _, f3⟩ := good_mk.1 gx
  obtain ⟨⟨g1, g2⟩, _, g3⟩ := good_mk.1 gy
  obtain ⟨o1, o2⟩ := ok_mk.1 ox
  obtain ⟨p1, p2⟩ := ok_mk.1 oy
  simp only [RT.kind] at kx ky
  have hl : ∀ t ∈ l, t.sz ≤ n ∧ good t ∧ t.ok := fun t ht => ⟨by have := sz_kid (k := k) (s := s) ht; omega, f3 t ht, o2 t ht⟩
  have hm : ∀ t ∈ l', good t ∧ t.ok := fun t ht => ⟨g3 t ht, p2 t ht⟩
  have hz : k ≠ 2 → s = W4.zero := f1.2
  have hz' : k' ≠ 2 → s' = W4.zero := g1.2
  have hk : k = 0 ∧ l = [] ∨ k = 1 ∧ l = [] ∨ k = 2 ∧ l = [] ∨ k = 3 ∨ k = 4 ∧ 2 ≤ l.length := by
    rcases f2 with ⟨q | q | q, e⟩ | ⟨q, _⟩ | ⟨q, _⟩ | ⟨q, e, _⟩
    · exact .inl ⟨q, e⟩
    · exact .inr (.inl ⟨q, e⟩)
    · exact .inr (.inr (.inl ⟨q, e⟩))
    · exact absurd q kx
    · exact .inr (.inr (.inr (.inl q)))
    · exact .inr (.inr (.inr (.inr ⟨q, e⟩)))
  have hk' : k' = 0 ∧ l' = [] ∨ k' = 1 ∧ l' = [] ∨ k' = 2 ∧ l' = [] ∨ k' = 3 ∨ k' = 4 ∧ 2 ≤ l'.length := by
    rcases g2 with ⟨q | q | q, e⟩ | ⟨q, _⟩ | ⟨q, _⟩ | ⟨q, e, _⟩
    · exact .inl ⟨q, e⟩
    · exact .inr (.inl ⟨q, e⟩)
    · exact .inr (.inr (.inl ⟨q, e⟩))
    · exact absurd q ky
    · exact .inr (.inr (.inr (.inl q)))
    · exact .inr (.inr (.inr (.inr ⟨q, e⟩)))
  have t0 : ∀ (s : W4) (l : List RT), txt (.mk 0 s l) = [48] := fun s l => by rw [txt_mk, if_pos rfl]
  have t1 : ∀ (s : W4) (l : List RT), txt (.mk 1 s l) = [49] := fun s l => by rw [txt_mk, if_neg (by decide), if_pos rfl]
  have t2 : ∀ (s : W4) (l : List RT), txt (.mk 2 s l) = 91 :: (rngT s ++ [93]) := fun s l => by rw [txt_mk, if_neg (by decide), if_neg (by decide), if_pos rfl]
  have t3 : ∀ (s : W4) (l : List RT), txt (.mk 3 s l) = 40 :: (sepB [] (l.map txt) ++ [41]) := fun s l => by rw [txt_mk, if_neg (by decide), if_neg (by decide), if_neg (by decide), if_pos rfl]
  have t4 : ∀ (s : W4) (l : List RT), txt (.mk 4 s l) = 123 :: (sepB [124] (l.map txt) ++ [125]) := fun s l => by rw [txt_mk, if_neg (by decide), if_neg (by decide), if_neg (by decide), if_neg (by decide), if_neg (by decide)]
  rcases hk with ⟨rfl, rfl⟩ | ⟨rfl, rfl⟩ | ⟨rfl, rfl⟩ | rfl | ⟨rfl, e⟩ <;> rcases hk' with ⟨rfl, rfl⟩ | ⟨rfl, rfl⟩ | ⟨rfl, rfl⟩ | rfl | ⟨rfl, e'⟩ <;> simp only [t0, t1, t2, t3, t4, List.cons_append, List.nil_append, List.append_assoc, List.cons.injEq] at h
  all_goals first
    | exact absurd h.1 (by decide)
    | skip
  · exact ⟨by rw [hz (by decide), hz' (by decide)], h.2⟩
  · exact ⟨by rw [hz (by decide), hz' (by decide)], h.2⟩
  · obtain ⟨e1, e2⟩ := rng_inj o1 p1 h.2
    exact ⟨by rw [e1], e2⟩
  · have h2 := h.2
    have e1 := sep_catT l u
    have e2 := sep_catT l' v
    have h3 : catT l u = catT l' v := by rw [← e1, ← e2]; exact h2
    obtain ⟨q1, q2⟩ := lists_cat hI l l' u v hl hm h3
    exact ⟨by rw [q1, hz (by decide), hz' (by decide)], q2⟩
  · match l, l', e, e' with
    | a :: l, b :: l', _, _ =>
      have h2 := h.2
      have e1 := sep_eitT l a u
      have e2 := sep_eitT l' b v
      have h3 : txt a ++ eitT l u = txt b ++ eitT l' v := by rw [← e1, ← e2]; exact h2
      obtain ⟨i1, i2, i3⟩ := hl a (by simp)
      obtain ⟨i4, i5⟩ := hm b (by simp)
      obtain ⟨q1, q2⟩ := hI a b i1 i2 i3 i4 i5 _ _ (noS_eit l u) (noS_eit l' v) h3
      obtain ⟨q3, q4⟩ := lists_eit hI l l' u v (fun x hx => hl x (by simp [hx])) (fun x hx => hm x (by simp [hx])) q2
      exact ⟨by rw [q1, q3, hz (by decide), hz' (by decide)], q4⟩
theorem star_is {t : RT} (h : good t) (hk : t.kind = 5) : ∃ x, t = .mk 5 W4.zero [x] ∧ x.kind ≠ 5 ∧ txt t = txt x ++ [42] := by
  obtain ⟨k, s, l⟩ := t
  simp only [RT.kind] at hk
  subst hk
  obtain ⟨⟨f1, f2⟩, _, _⟩ := good_mk.1 h
  have hs := f1.2 (by decide)
  subst hs
  rcases f2 with ⟨q | q | q, _⟩ | ⟨_, e, q⟩ | ⟨q, _⟩ | ⟨q, _⟩
  · omega
  · omega
  · omega
  · match l, e with
    | [x], _ => exact ⟨x, rfl, (q x (by simp)).2.2, by rw [txt_mk, if_neg (by decide), if_neg (by decide), if_neg (by decide), if_neg (by decide), if_pos rfl]; rfl⟩
  · omega
  · omega
theorem txt_inj_at : ∀ (n : Nat) (x y : RT), x.sz ≤ n → good x → x.ok → good y → y.ok → ∀ u v, noS u → noS v → txt x ++ u = txt y ++ v → x = y ∧ u = v
  | 0, x, _, hx, _, _, _, _, _, _, _, _, _ => by have := sz_pos x; omega
  | n + 1, x, y, hx, gx, ox, gy, oy, u, v, hu, hv, h => by
    have hU := unit_inj (txt_inj_at n)
    have kid : ∀ {a : RT}, good (.mk 5 W4.zero [a]) → RT.ok (.mk 5 W4.zero [a]) → good a ∧ a.ok := fun g o => ⟨(good_mk.1 g).2.2 _ (by simp), (ok_mk.1 o).2 _ (by simp)⟩
    have ssz : ∀ {a : RT} {m : Nat}, (RT.mk 5 W4.zero [a]).sz ≤ m → a.sz ≤ m := fun h => by rw [sz_mk] at h; simp at h; omega
    by_cases kx : x.kind = 5
    · obtain ⟨a, rfl, ka, ta⟩ := star_is gx kx
      obtain ⟨ga, oa⟩ := kid gx ox
      have hsa := ssz hx
      by_cases ky : y.kind = 5
      · obtain ⟨b, rfl, kb, tb⟩ := star_is gy ky
        obtain ⟨gb, ob⟩ := kid gy oy
        rw [ta, tb, List.append_assoc, List.append_assoc] at h
        obtain ⟨e1, e2⟩ := hU a b hsa ga oa gb ob ka kb _ _ h
        simp at e2
        exact ⟨by rw [e1], e2⟩
      · rw [ta, List.append_assoc] at h
        obtain ⟨e1, e2⟩ := hU a y hsa ga oa gy oy ka ky _ _ h
        exact absurd (by rw [← e2]; rfl) hv
    · by_cases ky : y.kind = 5
      · obtain ⟨b, rfl, kb, tb⟩ := star_is gy ky
        obtain ⟨gb, ob⟩ := kid gy oy
        rw [tb, List.append_assoc] at h
        obtain ⟨e1, e2⟩ := hU x b hx gx ox gb ob kx kb _ _ h
        exact absurd (by rw [e2]; rfl) hu
      · exact hU x y hx gx ox gy oy kx ky _ _ h
/-- THE TEXT SAYS WHICH IT IS. -/
theorem txt_inj {x y : RT} (gx : good x) (ox : x.ok) (gy : good y) (oy : y.ok) (h : txt x = txt y) : x = y :=
  (txt_inj_at x.sz x y (Nat.le_refl _) gx ox gy oy [] [] (by unfold noS; simp) (by unfold noS; simp) (by rw [h])).1

end Go.Proofs.YtclnadjgbpihcaaGreatDoor

/-! Which byte strings an expression derives, and that making, Nullable and Deriv keep to it. Condition of Either: its parts are good. -/
namespace Go.Proofs.YtclnadjgbpihcaaGreatDoor
open Go.RowKit Go.Lib
set_option linter.unusedVariables false
set_option linter.unusedSimpArgs false

def CatP : List (List Nat → Prop) → List Nat → Prop
  | [], w => w = []
  | P :: Ps, w => ∃ u v, w = u ++ v ∧ P u ∧ CatP Ps v
inductive StarP (P : List Nat → Prop) : List Nat → Prop
  | nil : StarP P []
  | more {u v : List Nat} : P u → StarP P v → StarP P (u ++ v)
/-- The byte strings that one derives. -/
def Lg : RT → List Nat → Prop
  | .mk k s kids => fun w => if k = 1 then w = [] else if k = 2 then ∃ c, c < 256 ∧ w = [c] ∧ s.mem c = true else if k = 3 then CatP (kids.map Lg) w else if k = 4 then ∃ P ∈ kids.map Lg, P w
    else if k = 5 then (match kids.map Lg with | [P] => StarP P w | _ => w = []) else False
theorem lg_mk (k : Int) (s : W4) (kids : List RT) (w : List Nat) : Lg (.mk k s kids) w = if k = 1 then w = [] else if k = 2 then ∃ c, c < 256 ∧ w = [c] ∧ s.mem c = true else if k = 3 then CatP (kids.map Lg) w else if k = 4 then ∃ P ∈ kids.map Lg, P w
    else if k = 5 then (match kids.map Lg with | [P] => StarP P w | _ => w = []) else False := by rw [Lg]
theorem lg_none (s : W4) (l : List RT) (w : List Nat) : ¬ Lg (.mk 0 s l) w := by rw [lg_mk]; simp
theorem lg_empty (s : W4) (l : List RT) (w : List Nat) : Lg (.mk 1 s l) w ↔ w = [] := by rw [lg_mk]; simp
theorem lg_byte (s : W4) (l : List RT) (w : List Nat) : Lg (.mk 2 s l) w ↔ ∃ c, c < 256 ∧ w = [c] ∧ s.mem c = true := by rw [lg_mk]; simp
theorem lg_cat (s : W4) (l : List RT) (w : List Nat) : Lg (.mk 3 s l) w ↔ CatP (l.map Lg) w := by rw [lg_mk]; simp
theorem lg_either (s : W4) (l : List RT) (w : List Nat) : Lg (.mk 4 s l) w ↔ ∃ t ∈ l, Lg t w := by
  rw [lg_mk, if_neg (by decide), if_neg (by decide), if_neg (by decide), if_pos rfl]
  constructor
  · rintro ⟨P, hP, h⟩
    obtain ⟨t, ht, rfl⟩ := List.mem_map.1 hP
    exact ⟨t, ht, h⟩
  · rintro ⟨t, ht, h⟩
    exact ⟨_, List.mem_map_of_mem ht, h⟩
theorem lg_star (s : W4) (x : RT) (w : List Nat) : Lg (.mk 5 s [x]) w ↔ StarP (Lg x) w := by rw [lg_mk]; simp
theorem lg_kind0 {t : RT} (h : t.kind = 0) (w : List Nat) : ¬ Lg t w := by
  obtain ⟨k, s, l⟩ := t
  simp only [RT.kind] at h
  subst h
  exact lg_none s l w
theorem lg_kind1 {t : RT} (h : t.kind = 1) (w : List Nat) : Lg t w ↔ w = [] := by
  obtain ⟨k, s, l⟩ := t
  simp only [RT.kind] at h
  subst h
  exact lg_empty s l w
theorem catp_append : ∀ (A B : List (List Nat → Prop)) (w : List Nat), CatP (A ++ B) w ↔ ∃ u v, w = u ++ v ∧ CatP A u ∧ CatP B v
  | [], B, w => by
    constructor
    · intro h; exact ⟨[], w, rfl, rfl, h⟩
    · rintro ⟨u, v, rfl, rfl, h⟩; exact h
  | P :: A, B, w => by
    simp only [List.cons_append, CatP]
    constructor
    · rintro ⟨u, v, rfl, hp, h⟩
      obtain ⟨x, y, rfl, hx, hy⟩ := (catp_append A B v).1 h
      exact ⟨u ++ x, y, by simp, ⟨u, x, rfl, hp, hx⟩, hy⟩
    · rintro ⟨u, v, rfl, ⟨a, b, rfl, hp, hb⟩, hv⟩
      exact ⟨a, b ++ v, by simp, hp, (catp_append A B _).2 ⟨b, v, rfl, hb, hv⟩⟩
theorem catp_one (P : List Nat → Prop) (w : List Nat) : CatP [P] w ↔ P w := by
  simp only [CatP]
  constructor
  · rintro ⟨u, v, rfl, hp, rfl⟩; simpa using hp
  · intro h; exact ⟨w, [], by simp, h, rfl⟩
theorem catp_flat : ∀ (l : List RT) (w : List Nat), CatP ((flatM 3 l).map Lg) w ↔ CatP (l.map Lg) w
  | [], w => Iff.rfl
  | r :: l, w => by
    have e : flatM 3 (r :: l) = (if r.kind = 3 then r.kids else [r]) ++ flatM 3 l := by unfold flatM; rw [List.flatMap_cons]
    rw [e, List.map_append, catp_append]
    have h1 : ∀ u, CatP ((if r.kind = 3 then r.kids else [r]).map Lg) u ↔ Lg r u := fun u => by
      split
      · rename_i hk
        obtain ⟨k, s, kids⟩ := r
        simp only [RT.kind] at hk
        subst hk
        exact (lg_cat s kids u).symm
      · exact catp_one _ _
    show (∃ u v, _) ↔ (∃ u v, _)
    constructor
    · rintro ⟨u, v, rfl, hu, hv⟩
      exact ⟨u, v, rfl, (h1 u).1 hu, (catp_flat l v).1 hv⟩
    · rintro ⟨u, v, rfl, hu, hv⟩
      exact ⟨u, v, rfl, (h1 u).2 hu, (catp_flat l v).2 hv⟩
theorem catp_no : ∀ {l : List RT}, (∃ t ∈ l, t.kind = 0) → ∀ w, ¬ CatP (l.map Lg) w
  | [], h, w => by obtain ⟨t, ht, _⟩ := h; cases ht
  | r :: l, h, w => by
    rintro ⟨u, v, rfl, hu, hv⟩
    obtain ⟨t, ht, hk⟩ := h
    rcases List.mem_cons.1 ht with rfl | ht
    · exact lg_kind0 hk u hu
    · exact catp_no ⟨t, ht, hk⟩ v hv
theorem catp_drop : ∀ (l : List RT) (w : List Nat), CatP ((l.filter fun r => !(r.kind == 1)).map Lg) w ↔ CatP (l.map Lg) w
  | [], w => Iff.rfl
  | r :: l, w => by
    rw [List.filter_cons]
    by_cases hk : r.kind = 1
    · rw [if_neg (by simp [hk]), catp_drop l w]
      show _ ↔ ∃ u v, _
      constructor
      · intro h; exact ⟨[], w, rfl, (lg_kind1 hk []).2 rfl, h⟩
      · rintro ⟨u, v, rfl, hu, hv⟩
        rw [(lg_kind1 hk u).1 hu]
        simpa using hv
    · rw [if_pos (by simp [hk])]
      show (∃ u v, _) ↔ ∃ u v, _
      constructor
      · rintro ⟨u, v, rfl, hu, hv⟩
        exact ⟨u, v, rfl, hu, (catp_drop l v).1 hv⟩
      · rintro ⟨u, v, rfl, hu, hv⟩
        exact ⟨u, v, rfl, hu, (catp_drop l v).2 hv⟩
theorem some_cat (l : List RT) (w : List Nat) : Lg (someM 3 1 l) w ↔ CatP (l.map Lg) w := by
  match l with
  | [] => exact lg_empty _ _ w
  | [x] => exact (catp_one _ w).symm
  | x :: y :: l => exact lg_cat _ _ w
/-- What a Cat derives. -/
theorem lg_catM (l : List RT) (w : List Nat) : Lg (catM l) w ↔ CatP (l.map Lg) w := by
  unfold catM
  split
  · rename_i h
    obtain ⟨t, ht, hk⟩ := List.any_eq_true.1 h
    have h1 := catp_no (l := flatM 3 l) ⟨t, ht, by simpa using hk⟩ w
    rw [catp_flat] at h1
    exact ⟨fun h => absurd h (lg_none _ _ _), fun h => absurd h h1⟩
  · rw [some_cat, catp_drop, catp_flat]
theorem StarP.append {P : List Nat → Prop} {u v : List Nat} (hu : StarP P u) (hv : StarP P v) : StarP P (u ++ v) := by
  induction hu with
  | nil => exact hv
  | more hp _ ih => rw [List.append_assoc]; exact .more hp ih
theorem StarP.one {P : List Nat → Prop} {u : List Nat} (h : P u) : StarP P u := by
  have := StarP.more h (StarP.nil (P := P))
  simpa using this
theorem StarP.congr {P Q : List Nat → Prop} (h : ∀ u, P u → StarP Q u) {w : List Nat} (hw : StarP P w) : StarP Q w := by
  induction hw with
  | nil => exact .nil
  | more hp _ ih => exact (h _ hp).append ih
/-- What a Star derives. -/
theorem lg_starM (t : RT) (w : List Nat) (h5 : t.kind = 5 → ∃ x, t.kids = [x]) : Lg (starM t) w ↔ StarP (Lg t) w := by
  unfold starM
  split
  · rename_i h
    rw [show emptyM = .mk 1 W4.zero [] from rfl, lg_empty]
    constructor
    · rintro rfl; exact .nil
    · intro hw
      induction hw with
      | nil => rfl
      | more hp _ ih =>
        rcases h with h | h
        · exact absurd hp (lg_kind0 h _)
        · rw [(lg_kind1 h _).1 hp, ih]; rfl
  · split
    · rename_i h
      obtain ⟨x, hx⟩ := h5 h
      obtain ⟨k, s, kids⟩ := t
      simp only [RT.kind, RT.kids] at h hx
      subst h hx
      constructor
      · exact fun h => .one h
      · intro hw
        rw [lg_star]
        exact hw.congr fun u hu => (lg_star s x u).1 hu
    · exact lg_star _ t w
/-! ### Either -/
theorem lg_flat4 : ∀ (l : List RT) (w : List Nat), (∃ t ∈ flatM 4 l, Lg t w) ↔ ∃ t ∈ l, Lg t w
  | [], w => by simp [flatM]
  | r :: l, w => by
    have e : flatM 4 (r :: l) = (if r.kind = 4 then r.kids else [r]) ++ flatM 4 l := by unfold flatM; rw [List.flatMap_cons]
    have h1 : (∃ t ∈ (if r.kind = 4 then r.kids else [r]), Lg t w) ↔ Lg r w := by
      split
      · rename_i hk
        obtain ⟨k, s, kids⟩ := r
        simp only [RT.kind] at hk
        subst hk
        exact (lg_either s kids w).symm
      · simp
    have h2 := lg_flat4 l w
    rw [e]
    constructor
    · rintro ⟨t, ht, h⟩
      rcases List.mem_append.1 ht with ht | ht
      · exact ⟨r, by simp, h1.1 ⟨t, ht, h⟩⟩
      · obtain ⟨u, hu, h⟩ := h2.1 ⟨t, ht, h⟩
        exact ⟨u, by simp [hu], h⟩
    · rintro ⟨t, ht, h⟩
      rcases List.mem_cons.1 ht with rfl | ht
      · obtain ⟨u, hu, h⟩ := h1.2 h
        exact ⟨u, List.mem_append.2 (.inl hu), h⟩
      · obtain ⟨u, hu, h⟩ := h2.2 ⟨t, ht, h⟩
        exact ⟨u, List.mem_append.2 (.inr hu), h⟩
theorem memW_of (f : Nat → Bool) {b : Nat} (hb : b < 256) : (W4.of f).mem b = f b := (W4.isSet (of_ok f)).inj (of_isSet f) b hb
theorem lg_kind2 {t : RT} (h : t.kind = 2) (w : List Nat) : Lg t w ↔ ∃ c, c < 256 ∧ w = [c] ∧ t.set.mem c = true := by
  obtain ⟨k, s, l⟩ := t
  simp only [RT.kind] at h
  subst h
  exact lg_byte s l w
theorem lg_bytes (F : List RT) (w : List Nat) : (∃ t ∈ byteM F, Lg t w) ↔ ∃ t ∈ F, t.kind = 2 ∧ Lg t w := by
  have h1 : (∃ t ∈ byteM F, Lg t w) ↔ ∃ c, c < 256 ∧ w = [c] ∧ (unionM F).mem c = true := by
    unfold byteM
    split
    · rename_i e
      rw [e]
      constructor
      · rintro ⟨t, ht, _⟩; cases ht
      · rintro ⟨c, hc, _, h⟩
        have : W4.zero.mem c = false := by unfold W4.mem W4.zero memb; simp
        rw [this] at h
        cases h
    · simp only [List.mem_singleton, exists_eq_left]
      exact lg_byte _ _ w
  rw [h1]
  constructor
  · rintro ⟨c, hc, hw, h⟩
    unfold unionM at h
    rw [memW_of _ hc] at h
    obtain ⟨t, ht, h2⟩ := List.any_eq_true.1 h
    simp only [Bool.and_eq_true, beq_iff_eq] at h2
    exact ⟨t, ht, h2.1, (lg_kind2 h2.1 w).2 ⟨c, hc, hw, h2.2⟩⟩
  · rintro ⟨t, ht, hk, h⟩
    obtain ⟨c, hc, hw, h2⟩ := (lg_kind2 hk w).1 h
    refine ⟨c, hc, hw, ?_⟩
    unfold unionM
    rw [memW_of _ hc]
    exact List.any_eq_true.2 ⟨t, ht, by simp [hk, h2]⟩
theorem lg_parts (F : List RT) (w : List Nat) : (∃ t ∈ byteM F ++ othersM F, Lg t w) ↔ ∃ t ∈ F, Lg t w := by
  have hb := lg_bytes F w
  constructor
  · rintro ⟨t, ht, h⟩
    rcases List.mem_append.1 ht with ht | ht
    · obtain ⟨u, hu, _, h⟩ := hb.1 ⟨t, ht, h⟩
      exact ⟨u, hu, h⟩
    · exact ⟨t, (List.mem_filter.1 ht).1, h⟩
  · rintro ⟨t, ht, h⟩
    by_cases h2 : t.kind = 2
    · obtain ⟨u, hu, h⟩ := hb.2 ⟨t, ht, h2, h⟩
      exact ⟨u, List.mem_append.2 (.inl hu), h⟩
    · have h0 : t.kind ≠ 0 := fun e => lg_kind0 e w h
      exact ⟨t, List.mem_append.2 (.inr (List.mem_filter.2 ⟨ht, by simp [h0, h2]⟩)), h⟩
theorem putsL_keys (L : List RT) (t : Tx) : t ∈ (putsM L).map txt ↔ t ∈ L.map txt := by
  suffices h : ∀ (L o : List RT), Asc txt o → (t ∈ (L.foldl (fun o r => putL txt r false o) o).map txt ↔ t ∈ o.map txt ∨ t ∈ L.map txt) by
    have := h L [] List.Pairwise.nil
    simpa [putsM] using this
  intro L
  induction L with
  | nil => intro o _; simp
  | cons r L ih =>
    intro o h
    obtain ⟨g1, g2⟩ := putL_asc tlt_trans r o h
    rw [List.foldl_cons, ih _ g1, List.map_cons, List.mem_cons]
    have e : t ∈ (putL txt r false o).map txt ↔ t ∈ o.map txt ∨ t = txt r := by
      constructor
      · intro ht
        obtain ⟨x, hx, rfl⟩ := List.mem_map.1 ht
        rcases (g2 x).1 hx with q | ⟨rfl, _⟩
        · exact .inl (List.mem_map.2 ⟨x, q, rfl⟩)
        · exact .inr rfl
      · rintro (ht | rfl)
        · obtain ⟨x, hx, rfl⟩ := List.mem_map.1 ht
          exact List.mem_map.2 ⟨x, (g2 x).2 (.inl hx), rfl⟩
        · by_cases hy : ∃ y ∈ o, txt y = txt r
          · obtain ⟨y, hy, e⟩ := hy
            exact List.mem_map.2 ⟨y, (g2 y).2 (.inl hy), e⟩
          · exact List.mem_map.2 ⟨r, (g2 r).2 (.inr ⟨rfl, fun y h e => hy ⟨y, h, e⟩⟩), rfl⟩
    rw [e, or_assoc]
theorem some_either (l : List RT) (w : List Nat) : Lg (someM 4 0 l) w ↔ ∃ t ∈ l, Lg t w := by
  match l with
  | [] => exact ⟨fun h => absurd h (lg_none _ _ _), fun ⟨t, ht, _⟩ => by cases ht⟩
  | [x] => simp [someM]
  | x :: y :: l => exact lg_either _ _ w
theorem lg_puts {X : List RT} (hg : ∀ t ∈ X, good t ∧ t.ok) (w : List Nat) : (∃ t ∈ putsM X, Lg t w) ↔ ∃ t ∈ X, Lg t w := by
  have hs := (puts_asc X).2
  constructor
  · rintro ⟨t, ht, h⟩
    exact ⟨t, hs t ht, h⟩
  · rintro ⟨t, ht, h⟩
    obtain ⟨u, hu, e⟩ := List.mem_map.1 ((putsL_keys X (txt t)).2 (List.mem_map.2 ⟨t, ht, rfl⟩))
    obtain ⟨g1, o1⟩ := hg t ht
    obtain ⟨g2, o2⟩ := hg u (hs u hu)
    have := txt_inj g2 o2 g1 o1 e
    subst this
    exact ⟨u, hu, h⟩
theorem flat_ok {k : Int} {l : List RT} (h : ∀ t ∈ l, good t ∧ t.ok) : ∀ t ∈ flatM k l, good t ∧ t.ok := by
  intro t ht
  unfold flatM at ht
  obtain ⟨r, hr, ht⟩ := List.mem_flatMap.1 ht
  obtain ⟨g, o⟩ := h r hr
  split at ht
  · obtain ⟨k', s, kids⟩ := r
    exact ⟨(good_mk.1 g).2.2 t ht, (ok_mk.1 o).2 t ht⟩
  · rw [List.mem_singleton.1 ht]; exact ⟨g, o⟩
theorem parts_ok {F : List RT} (h : ∀ t ∈ F, good t ∧ t.ok) : ∀ t ∈ byteM F ++ othersM F, good t ∧ t.ok := by
  intro t ht
  rcases List.mem_append.1 ht with ht | ht
  · unfold byteM at ht
    split at ht
    · cases ht
    · rename_i e
      rw [List.mem_singleton.1 ht]
      exact ⟨good_mk.2 ⟨⟨⟨fun h => absurd h e, fun h => absurd rfl h⟩, .inl ⟨.inr (.inr rfl), rfl⟩⟩, ⟨fun h => absurd h (by decide), fun t ht => by cases ht⟩⟩, ok_mk.2 ⟨of_ok _, fun t ht => by cases ht⟩⟩
  · exact h t (List.mem_filter.1 ht).1
/-- What an Either derives. -/
theorem lg_eitherM {l : List RT} (hg : ∀ t ∈ l, good t ∧ t.ok) (w : List Nat) : Lg (eitherM l) w ↔ ∃ t ∈ l, Lg t w := by
  unfold eitherM
  rw [some_either, lg_puts (parts_ok (flat_ok hg)), lg_parts, lg_flat4]

end Go.Proofs.YtclnadjgbpihcaaGreatDoor

/-! Nullable, Deriv and Match keep to what is derived. Condition: the expression is good. -/
namespace Go.Proofs.YtclnadjgbpihcaaGreatDoor
open Go.RowKit Go.Lib
set_option linter.unusedVariables false
set_option linter.unusedSimpArgs false

theorem ok_leaf (k : Int) : (RT.mk k W4.zero []).ok := ok_mk.2 ⟨zero_ok, fun t ht => by cases ht⟩
theorem ok_some {k e : Int} {l : List RT} (h : ∀ t ∈ l, t.ok) : (someM k e l).ok := by
  match l, h with
  | [], _ => exact ok_leaf e
  | [x], h => exact h x (by simp)
  | x :: y :: l, h => exact ok_mk.2 ⟨zero_ok, h⟩
theorem ok_flat {k : Int} {l : List RT} (h : ∀ t ∈ l, t.ok) : ∀ t ∈ flatM k l, t.ok := by
  intro t ht
  unfold flatM at ht
  obtain ⟨r, hr, ht⟩ := List.mem_flatMap.1 ht
  split at ht
  · obtain ⟨k', s, kids⟩ := r
    exact (ok_mk.1 (h _ hr)).2 t ht
  · rw [List.mem_singleton.1 ht]; exact h r hr
theorem ok_cat {l : List RT} (h : ∀ t ∈ l, t.ok) : (catM l).ok := by
  unfold catM
  split
  · exact ok_leaf 0
  · exact ok_some fun t ht => ok_flat h t (List.mem_filter.1 ht).1
theorem ok_either {l : List RT} (h : ∀ t ∈ l, t.ok) : (eitherM l).ok := by
  unfold eitherM
  refine ok_some fun t ht => ?_
  rcases List.mem_append.1 ((puts_asc _).2 t ht) with ht | ht
  · unfold byteM at ht
    split at ht
    · cases ht
    · rw [List.mem_singleton.1 ht]
      exact ok_mk.2 ⟨of_ok _, fun t ht => by cases ht⟩
  · exact ok_flat h t (List.mem_filter.1 ht).1
theorem ok_star {t : RT} (h : t.ok) : (starM t).ok := by
  unfold starM
  split
  · exact ok_leaf 1
  · split
    · exact h
    · exact ok_mk.2 ⟨zero_ok, fun x hx => by rw [List.mem_singleton.1 hx]; exact h⟩
theorem ok_deriv (c : Nat) (t : RT) : t.ok → (derivM c t).ok := by
  induction t using RT.ind with
  | h k s kids ih =>
    intro h
    have hk := (ok_mk.1 h).2
    rw [deriv_mk]
    split
    · split
      · exact ok_leaf 1
      · exact ok_leaf 0
    · split
      · refine ok_either (cats_all (Q := RT.ok) (fun l hl => ok_cat hl) _ fun p hp => ?_)
        obtain ⟨x, hx, rfl⟩ := List.mem_map.1 hp
        exact ⟨hk x hx, ih x hx (hk x hx)⟩
      · split
        · refine ok_either fun u hu => ?_
          obtain ⟨x, hx, rfl⟩ := List.mem_map.1 hu
          exact ih x hx (hk x hx)
        · split
          · split
            · rename_i d e
              have hd : d ∈ kids.map (derivM c) := by rw [e]; simp
              obtain ⟨x, hx, rfl⟩ := List.mem_map.1 hd
              refine ok_cat fun u hu => ?_
              rcases List.mem_cons.1 hu with rfl | hu
              · exact ih x hx (hk x hx)
              · rw [List.mem_singleton.1 hu]; exact h
            · exact ok_leaf 0
          · exact ok_leaf 0
theorem catp_empty : ∀ (l : List RT), CatP (l.map Lg) [] ↔ ∀ t ∈ l, Lg t []
  | [] => by simp [CatP]
  | r :: l => by
    have h := catp_empty l
    constructor
    · rintro ⟨u, v, e, hu, hv⟩
      obtain ⟨rfl, rfl⟩ := List.append_eq_nil_iff.1 e.symm
      intro t ht
      rcases List.mem_cons.1 ht with rfl | ht
      · exact hu
      · exact h.1 hv t ht
    · intro ha
      exact ⟨[], [], rfl, ha r (by simp), h.2 fun t ht => ha t (by simp [ht])⟩
theorem starp_empty (P : List Nat → Prop) : StarP P [] := .nil
/-- Nullable: the empty text is derived. -/
theorem null_lg (t : RT) : good t → (nullM t = true ↔ Lg t []) := by
  induction t using RT.ind with
  | h k s kids ih =>
    intro hg
    have hk := (good_mk.1 hg).2.2
    have f2 := (good_mk.1 hg).1.2
    rw [null_mk]
    split
    · rename_i e
      rcases e with rfl | rfl
      · rw [lg_empty]; simp
      · have : kids.length = 1 := by
          rcases f2 with ⟨q | q | q, _⟩ | ⟨_, q, _⟩ | ⟨q, _⟩ | ⟨q, _⟩
          · omega
          · omega
          · omega
          · exact q
          · omega
          · omega
        match kids, this with
        | [x], _ => rw [lg_star]; exact ⟨fun _ => .nil, fun _ => rfl⟩
    · rename_i e1
      split
      · rename_i e
        subst e
        rw [lg_cat, catp_empty, List.all_eq_true]
        exact ⟨fun h t ht => (ih t ht (hk t ht)).1 (h t ht), fun h t ht => (ih t ht (hk t ht)).2 (h t ht)⟩
      · rename_i e3
        split
        · rename_i e
          subst e
          rw [lg_either, List.any_eq_true]
          exact ⟨fun ⟨t, ht, h⟩ => ⟨t, ht, (ih t ht (hk t ht)).1 h⟩, fun ⟨t, ht, h⟩ => ⟨t, ht, (ih t ht (hk t ht)).2 h⟩⟩
        · rename_i e4
          have hk02 : k = 0 ∨ k = 2 := by
            rcases f2 with ⟨q | q | q, _⟩ | ⟨q, _⟩ | ⟨q, _⟩ | ⟨q, _⟩
            · exact .inl q
            · exact absurd (.inl q) e1
            · exact .inr q
            · exact absurd (.inr q) e1
            · exact absurd q e3
            · exact absurd q e4
          rcases hk02 with rfl | rfl
          · exact ⟨fun h => by simp at h, fun h => absurd h (lg_none _ _ _)⟩
          · rw [lg_byte]
            exact ⟨fun h => by simp at h, fun ⟨c, _, h, _⟩ => by cases h⟩
theorem starp_cons {P : List Nat → Prop} {c : Nat} {w : List Nat} : StarP P (c :: w) ↔ ∃ u v, w = u ++ v ∧ P (c :: u) ∧ StarP P v := by
  constructor
  · intro h
    generalize hx : c :: w = x at h
    induction h with
    | nil => cases hx
    | more hp hs ih =>
      rename_i u v
      match u, hp, hx with
      | [], hp, hx => exact ih hx
      | d :: u, hp, hx =>
        simp only [List.cons_append, List.cons.injEq] at hx
        obtain ⟨rfl, rfl⟩ := hx
        exact ⟨u, v, rfl, hp, hs⟩
  · rintro ⟨u, v, rfl, hp, hv⟩
    exact StarP.more (u := c :: u) hp hv
theorem cats_lg (c : Nat) (d : RT → RT) : ∀ (l : List RT), (∀ t ∈ l, (nullM t = true ↔ Lg t []) ∧ ∀ w, Lg (d t) w ↔ Lg t (c :: w)) → ∀ w, (∃ u ∈ catsM (l.map fun x => (x, d x)), Lg u w) ↔ CatP (l.map Lg) (c :: w)
  | [], h, w => by
    constructor
    · rintro ⟨u, hu, _⟩; cases hu
    · intro h; cases h
  | x :: l, h, w => by
    obtain ⟨hn, hd⟩ := h x (by simp)
    have ih := cats_lg c d l (fun t ht => h t (by simp [ht])) w
    have hm : (l.map fun x => (x, d x)).map Prod.fst = l := by rw [List.map_map]; simp [Function.comp_def]
    show (∃ u ∈ catM (d x :: (l.map fun x => (x, d x)).map Prod.fst) :: (if nullM x then catsM (l.map fun x => (x, d x)) else []), Lg u w) ↔ _
    rw [hm]
    have e1 : Lg (catM (d x :: l)) w ↔ ∃ u v, w = u ++ v ∧ Lg x (c :: u) ∧ CatP (l.map Lg) v := by
      rw [lg_catM]
      show (∃ u v, _) ↔ _
      constructor
      · rintro ⟨u, v, e, hu, hv⟩; exact ⟨u, v, e, (hd u).1 hu, hv⟩
      · rintro ⟨u, v, e, hu, hv⟩; exact ⟨u, v, e, (hd u).2 hu, hv⟩
    constructor
    · rintro ⟨u, hu, hw⟩
      rcases List.mem_cons.1 hu with rfl | hu
      · obtain ⟨a, b, rfl, ha, hb⟩ := e1.1 hw
        exact ⟨c :: a, b, rfl, ha, hb⟩
      · split at hu
        · rename_i hx
          exact ⟨[], c :: w, rfl, hn.1 hx, ih.1 ⟨u, hu, hw⟩⟩
        · cases hu
    · rintro ⟨u, v, e, hu, hv⟩
      match u, e with
      | [], e =>
        obtain rfl : c :: w = v := e
        obtain ⟨y, hy, hw⟩ := ih.2 hv
        exact ⟨y, List.mem_cons_of_mem _ (by rw [if_pos (hn.2 hu)]; exact hy), hw⟩
      | b :: u, e =>
        simp only [List.cons_append, List.cons.injEq] at e
        obtain ⟨rfl, rfl⟩ := e
        exact ⟨_, List.mem_cons_self .., e1.2 ⟨u, v, rfl, hu, hv⟩⟩
/-- Deriv: what is left behind a byte. -/
theorem deriv_lg (c : Nat) (hc : c < 256) (t : RT) : good t → t.ok → ∀ w, Lg (derivM c t) w ↔ Lg t (c :: w) := by
  induction t using RT.ind with
  | h k s kids ih =>
    intro hg ho w
    obtain ⟨⟨_, f2⟩, _, hk⟩ := good_mk.1 hg
    have hko := (ok_mk.1 ho).2
    have hd : ∀ t ∈ kids, (nullM t = true ↔ Lg t []) ∧ ∀ w, Lg (derivM c t) w ↔ Lg t (c :: w) := fun t ht => ⟨null_lg t (hk t ht), ih t ht (hk t ht) (hko t ht)⟩
    rw [deriv_mk]
    rcases f2 with ⟨rfl | rfl | rfl, rfl⟩ | ⟨rfl, e, _⟩ | ⟨rfl, _⟩ | ⟨rfl, _⟩
    · rw [if_neg (by decide), if_neg (by decide), if_neg (by decide), if_neg (by decide)]
      exact ⟨fun h => absurd h (lg_none _ _ _), fun h => absurd h (lg_none _ _ _)⟩
    · rw [if_neg (by decide), if_neg (by decide), if_neg (by decide), if_neg (by decide), lg_empty]
      exact ⟨fun h => absurd h (lg_none _ _ _), fun h => by cases h⟩
    · rw [if_pos rfl, lg_byte]
      split
      · rename_i hm
        rw [show emptyM = .mk 1 W4.zero [] from rfl, lg_empty]
        constructor
        · rintro rfl; exact ⟨c, hc, rfl, hm⟩
        · rintro ⟨d, _, e, _⟩; simp at e; exact e.2
      · rename_i hm
        constructor
        · exact fun h => absurd h (lg_none _ _ _)
        · rintro ⟨d, _, e, h⟩
          simp at e
          rw [e.1] at hm
          exact absurd h hm
    · rw [if_neg (by decide), if_neg (by decide), if_neg (by decide), if_pos rfl]
      match kids, e with
      | [x], _ =>
        show Lg (catM [derivM c x, .mk 5 s [x]]) w ↔ _
        rw [lg_catM, lg_star, starp_cons]
        show (∃ u v, _) ↔ _
        constructor
        · rintro ⟨u, v, e, hu, hv⟩
          exact ⟨u, v, e, ((hd x (by simp)).2 u).1 hu, (lg_star s x v).1 ((catp_one _ v).1 hv)⟩
        · rintro ⟨u, v, e, hu, hv⟩
          exact ⟨u, v, e, ((hd x (by simp)).2 u).2 hu, (catp_one _ v).2 ((lg_star s x v).2 hv)⟩
    · rw [if_neg (by decide), if_pos rfl, lg_eitherM, lg_cat, cats_lg c (derivM c) kids hd w]
      refine cats_all (Q := fun t => good t ∧ t.ok) (fun l hl => ⟨good_cat fun t ht => (hl t ht).1, ok_cat fun t ht => (hl t ht).2⟩) _ fun p hp => ?_
      obtain ⟨x, hx, rfl⟩ := List.mem_map.1 hp
      exact ⟨⟨hk x hx, hko x hx⟩, good_deriv c x (hk x hx), ok_deriv c x (hko x hx)⟩
    · rw [if_neg (by decide), if_neg (by decide), if_pos rfl, lg_eitherM, lg_either]
      · constructor
        · rintro ⟨u, hu, h⟩
          obtain ⟨x, hx, rfl⟩ := List.mem_map.1 hu
          exact ⟨x, hx, ((hd x hx).2 w).1 h⟩
        · rintro ⟨x, hx, h⟩
          exact ⟨_, List.mem_map_of_mem hx, ((hd x hx).2 w).2 h⟩
      · intro u hu
        obtain ⟨x, hx, rfl⟩ := List.mem_map.1 hu
        exact ⟨good_deriv c x (hk x hx), ok_deriv c x (hko x hx)⟩
/-- Match: byte behind byte. -/
theorem ders_lg : ∀ (l : List Nat) (t : RT), (∀ c ∈ l, c < 256) → good t → t.ok → (nullM (dersM t l) = true ↔ Lg t l)
  | [], t, _, hg, _ => null_lg t hg
  | c :: l, t, hb, hg, ho => by
    have h := ders_lg l (derivM c t) (fun d hd => hb d (by simp [hd])) (good_deriv c t hg) (ok_deriv c t ho)
    rw [deriv_lg c (hb c (by simp)) t hg ho] at h
    exact h

end Go.Proofs.YtclnadjgbpihcaaGreatDoor

/-! Where an expression may end, from marked places of a text: what the document's ends says. No condition. -/
namespace Go.Proofs.YtclnadjgbpihcaaGreatDoor
open Go.RowKit Go.Lib
set_option linter.unusedVariables false
set_option linter.unusedSimpArgs false

/-- The text between two places. -/
def seg (l : List Nat) (i j : Nat) : List Nat := (l.take j).drop i
theorem seg_len (l : List Nat) {i j : Nat} (hj : j ≤ l.length) : (seg l i j).length = j - i := by
  unfold seg
  rw [List.length_drop, List.length_take]
  omega
theorem seg_self (l : List Nat) {i : Nat} (hi : i ≤ l.length) : seg l i i = [] := List.eq_nil_of_length_eq_zero (by rw [seg_len l hi]; omega)
theorem seg_nil {l : List Nat} {i j : Nat} (hij : i ≤ j) (hj : j ≤ l.length) (h : seg l i j = []) : i = j := by
  have := seg_len l (i := i) hj
  rw [h] at this
  simp at this
  omega
theorem seg_cut (l : List Nat) {i m j : Nat} (h1 : i ≤ m) (h2 : m ≤ j) : seg l i j = seg l i m ++ seg l m j := by
  unfold seg
  have e : l.take m = (l.take j).take m := by rw [List.take_take, Nat.min_eq_left h2]
  rw [e]
  generalize l.take j = x
  conv => lhs; rw [← List.take_append_drop (m - i) (x.drop i)]
  rw [List.drop_drop, List.drop_take]
  rw [show i + (m - i) = m by omega]
theorem seg_split {l : List Nat} {i j : Nat} (hij : i ≤ j) (hj : j ≤ l.length) {u v : List Nat} (h : seg l i j = u ++ v) : ∃ m, i ≤ m ∧ m ≤ j ∧ seg l i m = u ∧ seg l m j = v := by
  have hl := seg_len l (i := i) hj
  rw [h, List.length_append] at hl
  refine ⟨i + u.length, by omega, by omega, ?_⟩
  have hc := seg_cut l (i := i) (m := i + u.length) (j := j) (by omega) (by omega)
  rw [h] at hc
  have h1 := seg_len l (i := i) (j := i + u.length) (by omega)
  have h2 := List.append_inj hc (by rw [h1]; omega)
  exact ⟨h2.1.symm, h2.2.symm⟩
theorem seg_all (l : List Nat) : seg l 0 l.length = l := by unfold seg; simp
theorem seg_one {l : List Nat} {i : Nat} (hi : i < l.length) : seg l i (i + 1) = [l[i]] := by
  have h := seg_len l (i := i) (j := i + 1) (by omega)
  have e : (seg l i (i + 1))[0]? = some l[i] := by
    unfold seg
    rw [List.getElem?_drop, List.getElem?_take_of_lt (by omega)]
    simp [hi]
  match hs : seg l i (i + 1), h with
  | [x], _ => rw [hs] at e; simpa using e
  | [], h => simp at h
  | x :: y :: z, h => simp at h
/-- There may an expression end. -/
def EP (P : List Nat → Prop) (l : List Nat) (f : Nat → Bool) (j : Nat) : Prop := ∃ i, i ≤ j ∧ f i = true ∧ P (seg l i j)
noncomputable def endF (t : RT) (l : List Nat) (f : Nat → Bool) : Nat → Bool := fun j => @decide (EP (Lg t) l f j) (Classical.propDecidable _)
theorem end_iff {t : RT} {l : List Nat} {f : Nat → Bool} {j : Nat} : endF t l f j = true ↔ EP (Lg t) l f j := by unfold endF; exact @decide_eq_true_iff _ (Classical.propDecidable _)
theorem end_false {t : RT} {l : List Nat} {f : Nat → Bool} {j : Nat} (h : ¬ EP (Lg t) l f j) : endF t l f j = false := by
  cases e : endF t l f j with
  | false => rfl
  | true => exact absurd (end_iff.1 e) h
theorem end_congr {t : RT} {l : List Nat} {f g : Nat → Bool} {n : Nat} (h : ∀ j, j ≤ n → f j = g j) : ∀ j, j ≤ n → endF t l f j = endF t l g j := fun j hj => by
  rw [Bool.eq_iff_iff, end_iff, end_iff]
  constructor
  · rintro ⟨i, h1, h2, h3⟩; exact ⟨i, h1, by rw [← h i (by omega)]; exact h2, h3⟩
  · rintro ⟨i, h1, h2, h3⟩; exact ⟨i, h1, by rw [h i (by omega)]; exact h2, h3⟩
theorem end_kind0 {t : RT} (h : t.kind = 0) (l : List Nat) (f : Nat → Bool) (j : Nat) : endF t l f j = false := end_false fun ⟨_, _, _, h3⟩ => lg_kind0 h _ h3
theorem end_kind1 {t : RT} (h : t.kind = 1) {l : List Nat} (f : Nat → Bool) {j : Nat} (hj : j ≤ l.length) : endF t l f j = f j := by
  rw [Bool.eq_iff_iff, end_iff]
  constructor
  · rintro ⟨i, h1, h2, h3⟩
    rw [lg_kind1 h] at h3
    rw [← seg_nil h1 hj h3]
    exact h2
  · intro hf
    exact ⟨j, Nat.le_refl _, hf, (lg_kind1 h _).2 (seg_self l hj)⟩
theorem end_byte0 {t : RT} (h : t.kind = 2) (l : List Nat) (f : Nat → Bool) : endF t l f 0 = false := end_false fun ⟨i, h1, _, h3⟩ => by
  obtain ⟨c, _, hw, _⟩ := (lg_kind2 h _).1 h3
  obtain rfl : i = 0 := by omega
  rw [seg_self l (Nat.zero_le _)] at hw
  cases hw
theorem end_byte {t : RT} (h : t.kind = 2) {l : List Nat} (hb : ∀ c ∈ l, c < 256) (f : Nat → Bool) {i : Nat} (hi : i < l.length) : endF t l f (i + 1) = (f i && t.set.mem l[i]) := by
  rw [Bool.eq_iff_iff, end_iff, Bool.and_eq_true]
  constructor
  · rintro ⟨k, h1, h2, h3⟩
    obtain ⟨c, hc, hw, hm⟩ := (lg_kind2 h _).1 h3
    have hl := seg_len l (i := k) (j := i + 1) (by omega)
    rw [hw] at hl
    simp at hl
    obtain rfl : k = i := by omega
    rw [seg_one hi] at hw
    simp at hw
    exact ⟨h2, by rw [hw]; exact hm⟩
  · rintro ⟨h1, h2⟩
    exact ⟨i, by omega, h1, (lg_kind2 h _).2 ⟨l[i], hb _ (List.getElem_mem hi), seg_one hi, h2⟩⟩
/-- Behind several, one behind the other. -/
noncomputable def endsF (l : List Nat) : List RT → (Nat → Bool) → Nat → Bool
  | [], f => f
  | t :: ts, f => endsF l ts (endF t l f)
theorem ends_iff {l : List Nat} : ∀ (ts : List RT) (f : Nat → Bool) {j : Nat}, j ≤ l.length → (endsF l ts f j = true ↔ EP (CatP (ts.map Lg)) l f j)
  | [], f, j, hj => by
    constructor
    · intro h; exact ⟨j, Nat.le_refl _, h, seg_self l hj⟩
    · rintro ⟨i, h1, h2, h3⟩
      rw [← seg_nil h1 hj h3]
      exact h2
  | t :: ts, f, j, hj => by
    rw [endsF, ends_iff ts _ hj]
    constructor
    · rintro ⟨m, h1, h2, h3⟩
      obtain ⟨i, g1, g2, g3⟩ := end_iff.1 h2
      exact ⟨i, by omega, g2, ⟨_, _, seg_cut l g1 h1, g3, h3⟩⟩
    · rintro ⟨i, h1, h2, u, v, e, hu, hv⟩
      obtain ⟨m, g1, g2, e1, e2⟩ := seg_split h1 hj e
      exact ⟨m, g2, end_iff.2 ⟨i, g1, h2, by rw [e1]; exact hu⟩, by rw [e2]; exact hv⟩
theorem end_cat (s : W4) (kids : List RT) {l : List Nat} (f : Nat → Bool) {j : Nat} (hj : j ≤ l.length) : endF (.mk 3 s kids) l f j = endsF l kids f j := by
  rw [Bool.eq_iff_iff, end_iff, ends_iff kids f hj]
  unfold EP
  simp only [lg_cat]
theorem end_either (s : W4) (kids : List RT) (l : List Nat) (f : Nat → Bool) (j : Nat) : endF (.mk 4 s kids) l f j = kids.any fun t => endF t l f j := by
  rw [Bool.eq_iff_iff, end_iff, List.any_eq_true]
  unfold EP
  simp only [lg_either]
  constructor
  · rintro ⟨i, h1, h2, t, ht, h⟩; exact ⟨t, ht, end_iff.2 ⟨i, h1, h2, h⟩⟩
  · rintro ⟨t, ht, h⟩
    obtain ⟨i, h1, h2, h3⟩ := end_iff.1 h
    exact ⟨i, h1, h2, t, ht, h3⟩
/-- Some rounds of a Star. -/
noncomputable def starF (x : RT) (l : List Nat) (f : Nat → Bool) : Nat → Nat → Bool
  | 0 => f
  | k + 1 => fun j => starF x l f k j || endF x l (starF x l f k) j
def Pcs (P : List Nat → Prop) (k : Nat) (w : List Nat) : Prop := ∃ L : List (List Nat), L.length ≤ k ∧ (∀ u ∈ L, P u) ∧ w = L.flatten
theorem starF_iff (x : RT) (l : List Nat) (f : Nat → Bool) : ∀ (k : Nat) {j : Nat}, j ≤ l.length → (starF x l f k j = true ↔ EP (Pcs (Lg x) k) l f j)
  | 0, j, hj => by
    constructor
    · intro h; exact ⟨j, Nat.le_refl _, h, [], Nat.le_refl _, fun u hu => (by cases hu), seg_self l hj⟩
    · rintro ⟨i, h1, h2, L, hL, _, hw⟩
      have : L = [] := List.eq_nil_of_length_eq_zero (by omega)
      subst this
      rw [← seg_nil h1 hj hw]
      exact h2
  | k + 1, j, hj => by
    rw [starF, Bool.or_eq_true, starF_iff x l f k hj, end_iff]
    constructor
    · rintro (⟨i, h1, h2, L, hL, hP, hw⟩ | ⟨m, h1, h2, h3⟩)
      · exact ⟨i, h1, h2, L, by omega, hP, hw⟩
      · obtain ⟨i, g1, g2, L, hL, hP, hw⟩ := (starF_iff x l f k (by omega : m ≤ l.length)).1 h2
        refine ⟨i, by omega, g2, L ++ [seg l m j], by simp; omega, fun u hu => ?_, ?_⟩
        · rcases List.mem_append.1 hu with hu | hu
          · exact hP u hu
          · rw [List.mem_singleton.1 hu]; exact h3
        · rw [seg_cut l g1 h1, hw]; simp
    · rintro ⟨i, h1, h2, L, hL, hP, hw⟩
      by_cases hk : L.length ≤ k
      · exact .inl ⟨i, h1, h2, L, hk, hP, hw⟩
      · right
        have hne : L ≠ [] := fun e => by subst e; simp at hk
        have hd := List.dropLast_concat_getLast hne
        rw [← hd, List.flatten_append] at hw
        simp only [List.flatten_cons, List.flatten_nil, List.append_nil] at hw
        obtain ⟨m, g1, g2, e1, e2⟩ := seg_split h1 hj hw
        refine ⟨m, g2, (starF_iff x l f k (by omega : m ≤ l.length)).2 ⟨i, g1, h2, L.dropLast, by rw [List.length_dropLast]; omega, fun u hu => hP u (List.dropLast_subset _ hu), e1⟩, ?_⟩
        rw [e2]
        exact hP _ (List.getLast_mem hne)
theorem pcs_star {P : List Nat → Prop} : ∀ (k : Nat) (w : List Nat), w.length ≤ k → StarP P w → Pcs P k w
  | k, [], _, _ => ⟨[], Nat.zero_le _, fun u hu => (by cases hu), rfl⟩
  | 0, c :: w, hk, _ => by simp at hk
  | k + 1, c :: w, hk, h => by
    obtain ⟨u, v, rfl, hu, hv⟩ := starp_cons.1 h
    obtain ⟨L, hL, hP, hw⟩ := pcs_star k v (by simp at hk; omega) hv
    refine ⟨(c :: u) :: L, by simp; omega, fun y hy => ?_, by simp [hw]⟩
    rcases List.mem_cons.1 hy with rfl | hy
    · exact hu
    · exact hP y hy
theorem star_pcs {P : List Nat → Prop} : ∀ (L : List (List Nat)), (∀ u ∈ L, P u) → StarP P L.flatten
  | [], _ => .nil
  | u :: L, h => .more (h u (by simp)) (star_pcs L fun v hv => h v (by simp [hv]))
theorem end_star (s : W4) (x : RT) {l : List Nat} (f : Nat → Bool) {j : Nat} (hj : j ≤ l.length) : endF (.mk 5 s [x]) l f j = starF x l f (l.length + 1) j := by
  rw [Bool.eq_iff_iff, end_iff, starF_iff x l f _ hj]
  unfold EP
  simp only [lg_star]
  constructor
  · rintro ⟨i, h1, h2, h⟩
    exact ⟨i, h1, h2, pcs_star _ _ (by rw [seg_len l hj]; omega) h⟩
  · rintro ⟨i, h1, h2, L, _, hP, hw⟩
    exact ⟨i, h1, h2, by rw [hw]; exact star_pcs L hP⟩
/-- From the first place to the last one: what is derived. -/
theorem end_all {t : RT} {l : List Nat} (hb : ∀ c ∈ l, c < 256) (hg : good t) (ho : t.ok) : endF t l (fun j => j == 0) l.length = nullM (dersM t l) := by
  rw [Bool.eq_iff_iff, end_iff, ders_lg l t hb hg ho]
  constructor
  · rintro ⟨i, _, h2, h3⟩
    simp at h2
    subst h2
    rwa [seg_all] at h3
  · intro h
    exact ⟨0, Nat.zero_le _, rfl, by rwa [seg_all]⟩

end Go.Proofs.YtclnadjgbpihcaaGreatDoor

/-! Rows of truths in blocks of their own: made, read, stored into, copied. No condition. -/
namespace Go.Proofs.YtclnadjgbpihcaaGreatDoor
open Go.RowKit Go.Lib
set_option linter.unusedVariables false
set_option linter.unusedSimpArgs false

def bcl (n : Nat) (f : Nat → Bool) : List Value := (List.range n).map fun j => Value.bool (f j)
theorem bcl_len (n : Nat) (f : Nat → Bool) : (bcl n f).length = n := by unfold bcl; simp
theorem bcl_at {n : Nat} {f : Nat → Bool} {j : Nat} (h : j < n) : (bcl n f)[j]? = some (.bool (f j)) := by unfold bcl; simp [h]
theorem bcl_congr {n : Nat} {f g : Nat → Bool} (h : ∀ j, j < n → f j = g j) : bcl n f = bcl n g := by
  unfold bcl
  refine List.map_congr_left fun j hj => ?_
  rw [h j (List.mem_range.1 hj)]
theorem bcl_set {n : Nat} {f : Nat → Bool} {j : Nat} {b : Bool} : (bcl n f).set j (.bool b) = bcl n (fun k => if k = j then b else f k) := by
  refine List.ext_getElem? fun k => ?_
  by_cases hk : k < n
  · rw [bcl_at hk, List.getElem?_set]
    by_cases e : j = k
    · subst e
      rw [if_pos rfl, if_pos (by rw [bcl_len]; exact hk), if_pos rfl]
    · rw [if_neg e, bcl_at hk, if_neg (Ne.symm e)]
  · rw [List.getElem?_eq_none (by rw [List.length_set, bcl_len]; omega), List.getElem?_eq_none (by rw [bcl_len]; omega)]
/-- A row of truths that is a whole block. -/
def RowT (W : World) (g n : Nat) (f : Nat → Bool) : Prop := W.heap[g]? = some (.cells (bcl n f).toArray 4 (0, 0))
theorem RowT.lt {W : World} {g n : Nat} {f : Nat → Bool} (h : RowT W g n f) : g < W.heap.size := (Array.getElem?_eq_some_iff.1 h).1
theorem RowT.under {W W' : World} {g n : Nat} {f : Nat → Bool} (h : RowT W g n f) (hb : Below W.heap.size W W') : RowT W' g n f := (hb.block g h.lt).trans h
theorem RowT.cell {W : World} {g n : Nat} {f : Nat → Bool} (h : RowT W g n f) {j : Nat} (hj : j < n) : W.cell? ⟨g, j, none⟩ = some (.bool (f j)) := by
  have h : W.heap[g]? = some (.cells (bcl n f).toArray 4 (0, 0)) := h
  rw [cell_of_row W g j _ _ _ h]
  simpa using bcl_at hj
theorem RowT.cold {W : World} {g n : Nat} {f : Nat → Bool} (h : RowT W g n f) (j : Nat) : W.frozen? ⟨g, j, none⟩ = false := frozen_of_row W g j _ _ h
theorem RowT.set {W : World} {g n : Nat} {f : Nat → Bool} (h : RowT W g n f) (j : Nat) (b : Bool) : RowT (W.setCell ⟨g, j, none⟩ (.bool b)) g n (fun k => if k = j then b else f k) := by
  unfold RowT at h ⊢
  rw [heap_setCell_same W g j _ _ _ h, ← bcl_set]
  simp
theorem RowT.apart {W : World} {g n G j : Nat} {v : Value} {f : Nat → Bool} (h : RowT W g n f) (hne : g ≠ G) : RowT (W.setCell ⟨G, j, none⟩ v) g n f := (heap_setCell_other W ⟨G, j, none⟩ g v hne).trans h
theorem RowT.congr {W : World} {g n : Nat} {f f' : Nat → Bool} (h : RowT W g n f) (e : ∀ j, j < n → f j = f' j) : RowT W g n f' := by
  unfold RowT at h ⊢
  rw [← bcl_congr e]
  exact h
/-- A new row, all false. -/
theorem makeB (n : Nat) (hn : n ≤ 1000000000000) (u : World) : (Instr.makeSlice 47 (.int .i64 (n : Int)) (.int .i64 (n : Int))).run Tryz.prog u = .ok (.slice (some ⟨u.heap.size, 0, none⟩) n n) (u.alloc (.cells (bcl n fun _ => false).toArray 4)) := by
  obtain ⟨i0, h1, h2, h3, h4⟩ := bool_parts
  have h := run_make (P := Tryz.prog) u 47 4 i0 _ Tryz.underlying47 h1 h2 .i64 .i64 n n (by omega) (Int.le_refl _) (by rw [h4]; omega) (by omega)
  rw [h3] at h
  simp only [Int.toNat_natCast, Nat.mul_one] at h
  have e : madeCells (Value.bool false).cells n = (bcl n fun _ => false).toArray := by
    unfold madeCells bcl
    apply Array.ext'
    simp
    intro k hk
    have : k % (Value.bool false).cells.size = 0 := by
      show k % 1 = 0
      omega
    rw [this]
    rfl
  rw [e] at h
  exact h
/-- All of one row into another. -/
theorem copyB (w : World) (G n g : Nat) (f f0 : Nat → Bool) (ty : TypeId) (hG : RowT w G n f0) (hg : RowT w g n f) :
    (Builtin.copy_ #[47, 47] ty #[.slice (some ⟨G, 0, none⟩) n n, .slice (some ⟨g, 0, none⟩) n n]).run Tryz.prog w = .ok (goInt n) (w.setRow G (bcl n f).toArray) := by
  have h := run_copy_row (P := Tryz.prog) w 47 47 ty 4 G 0 n n ⟨g, 0, none⟩ n n (bcl n f0).toArray 4 (bcl n f) Tryz.underlying47 (by obtain ⟨i0, h1, _, h3, _⟩ := bool_parts; rw [h1]; simp [h3]) hG (by rw [bcl_len]; simp)
    (fun j v hv => by
      have hj : j < n := by have := (List.getElem?_eq_some_iff.1 hv).1; rw [bcl_len] at this; exact this
      rw [bcl_at hj] at hv
      rw [addr_add, Nat.zero_add, hg.cell hj]
      exact hv) (by simp [bcl_len]) (fun v hv => by
      unfold bcl at hv
      obtain ⟨j, _, rfl⟩ := List.mem_map.1 hv
      rfl)
  rw [bcl_len] at h
  simp only [List.take_zero, List.nil_append, Nat.zero_add] at h
  rw [List.drop_eq_nil_of_le (by simp [bcl_len]), List.append_nil] at h
  exact h
theorem RowT.row {W : World} {G n : Nat} {f f0 : Nat → Bool} (h : RowT W G n f0) : RowT (W.setRow G (bcl n f).toArray) G n f := setRow_heap W G _ _ _ _ h
/-- The call returns a new row of truths. -/
def GivesT2 (n : Nat) (f : Nat → Bool) (w : World) (e : Ending) (w' : World) : Prop := ∃ g, e = .returned (.slice (some ⟨g, 0, none⟩) n n) ∧ w.heap.size ≤ g ∧ RowT w' g n f ∧ Below w.heap.size w w'

end Go.Proofs.YtclnadjgbpihcaaGreatDoor

/-! The document's Nullable, of any expression. No condition but size. -/
namespace Go.Proofs.YtclnadjgbpihcaaGreatDoor
open Go.RowKit Go.Lib
set_option linter.unusedVariables false
set_option linter.unusedSimpArgs false

theorem kid_len_le (L : List RT) : L.length ≤ (L.map RT.sz).sum := by
  induction L with
  | nil => simp
  | cons a l ih => have := sz_pos a; simp only [List.length_cons, List.map_cons, List.sum_cons]; omega
end Go.Proofs.YtclnadjgbpihcaaGreatDoor

/-! The document's ends, of any good expression and a short text. No condition but size. -/
namespace Go.Proofs.YtclnadjgbpihcaaGreatDoor
open Go.RowKit Go.Lib
set_option linter.unusedVariables false
set_option linter.unusedSimpArgs false

theorem endsF_snoc (l : List Nat) : ∀ (ts : List RT) (t : RT) (f : Nat → Bool), endsF l (ts ++ [t]) f = endF t l (endsF l ts f)
  | [], t, f => rfl
  | u :: ts, t, f => endsF_snoc l ts t (endF u l f)
theorem row_under {B C : Nat} {x w : World} {cs : Array Value} (h : Below B x w) (hC : B ≤ C) : Below B x (w.setRow C cs) :=
  ⟨h.os, h.tape, h.output, by simpa using h.size, fun k hk => (setRow_other w C k cs (by omega)).trans (h.block k hk)⟩
set_option maxRecDepth 100000 in
set_option maxHeartbeats 32000000 in
theorem ends_any (S : ByteArray) (hS : S.size ≤ 6) : ∀ (N : Nat) (P : Nat → Prop) (t : RT) (x : ReV) (W : World) (g : Nat) (f : Nat → Bool), t.dep ≤ N → good t → t.sz ≤ 8000000000 → RAt W P x t → RowT W g (S.size + 1) f →
    Calls Tryz.prog 18 #[x.val, .string S, .slice (some ⟨g, 0, none⟩) (S.size + 1) (S.size + 1)] W (GivesT2 (S.size + 1) (endF t (byteL S) f) W) := by
  obtain ⟨l, hl⟩ : ∃ l, l = byteL S := ⟨_, rfl⟩
  have hll : l.length = S.size := by rw [hl]; unfold byteL; rw [List.length_map]; rfl
  rw [← hl]
  obtain ⟨M, hM⟩ : ∃ M, M = S.size := ⟨_, rfl⟩
  have hM2 := hM.symm
  rw [hM2] at hS hll ⊢
  have HMS := Lib.hid hM
  have HLL := Lib.hid hll
  have HL := Lib.hid hl
  clear hM hll hl
  intro N
  induction N with
  | zero => intro P t x W g f h; have := dep_pos t; omega
  | succ N ih =>
    intro P t x W g f hdep hg hsz ht hrow
    obtain ⟨vs, et, hok, hk⟩ := ht.kids
    have hkd : ∀ v ∈ t.kids, v.dep ≤ N := by
      obtain ⟨k', s', l'⟩ := t
      exact dep_mk.1 hdep
    have hkg : ∀ v ∈ t.kids, good v := fun v hv => good_kid hg hv
    have hks : (t.kids.map RT.sz).sum < t.sz := by
      obtain ⟨k', s', l'⟩ := t
      rw [sz_mk]
      show (l'.map RT.sz).sum < _
      omega
    obtain ⟨L, hL⟩ : ∃ L, L = t.kids := ⟨_, rfl⟩
    rw [← hL] at hk hkd et hks hkg
    obtain ⟨k, a, b, e, d, p, n, cap⟩ := x
    simp only [ReV.w4] at hok hk et
    obtain ⟨F, hF⟩ : ∃ F, F = endF t l f := ⟨_, rfl⟩
    rw [← hF]
    have hkind : t.kind = k := by rw [et]; rfl
    have hk6 : k = 0 ∨ k = 1 ∨ k = 2 ∨ k = 3 ∨ k = 4 ∨ k = 5 := by
      obtain ⟨k', s', l'⟩ := t
      simp only [RT.kind] at hkind
      subst hkind
      rcases (good_mk.1 hg).1.2 with ⟨q | q | q, _⟩ | ⟨q, _⟩ | ⟨q, _⟩ | ⟨q, _⟩ <;> omega
    have HK6 := Lib.hid hk6
    have HSTA : Hid (k = 5 → ∃ u, L = [u]) := fun e5 => by
      obtain ⟨k', s', l'⟩ := t
      simp only [RT.kind] at hkind
      rw [hL]
      exact (good_kinds hg).2 (hkind.trans e5)
    clear hk6
    have hFE : F = endF (.mk k ⟨a, b, e, d⟩ L) l f := by rw [hF, ← et]
    have hnum := hk.num
    obtain ⟨B0, hB0⟩ : ∃ B0, B0 = W.heap.size := ⟨_, rfl⟩
    obtain ⟨w1, hw1⟩ : ∃ w1 : World, w1 = W.alloc (.cells #[.int .i64 k, .int .u64 a, .int .u64 b, .int .u64 e, .int .u64 d, .slice p n cap] 28) := ⟨_, rfl⟩
    have hs1 : w1.heap.size = B0 + 1 := by rw [hw1, hB0]; simp
    obtain ⟨w2, hw2⟩ : ∃ w2 : World, w2 = w1.alloc (.cells (bcl (M + 1) fun _ => false).toArray 4) := ⟨_, rfl⟩
    have hmk : (Instr.makeSlice 47 (.int .i64 ((M : Int) + 1)) (.int .i64 ((M : Int) + 1))).run Tryz.prog w1 = .ok (.slice (some ⟨B0 + 1, 0, none⟩) (M + 1) (M + 1)) w2 := by
      have h := makeB (M + 1) (by omega) w1
      rw [hs1, ← hw2] at h
      exact h
    rw [hw1] at hmk
    have hb1 : Below W.heap.size W w1 := by rw [hw1]; exact (Below.refl _ _).alloc (Nat.le_refl _) _
    have hb2 : Below W.heap.size W w2 := by rw [hw2]; exact hb1.alloc (by rw [hs1]; omega) _
    have hn2 : w2.heap[B0]? = some (.cells #[.int .i64 k, .int .u64 a, .int .u64 b, .int .u64 e, .int .u64 d, .slice p n cap] 28 (0, 0)) := by rw [hw2, @heap_alloc_old _ _ _ (by rw [hs1]; omega), hw1, hB0]; exact heap_alloc_new _ _
    have hn1 : w1.heap[B0]? = some (.cells #[.int .i64 k, .int .u64 a, .int .u64 b, .int .u64 e, .int .u64 d, .slice p n cap] 28 (0, 0)) := by rw [hw1, hB0]; exact heap_alloc_new _ _
    have hG2 : RowT w2 (B0 + 1) (M + 1) (fun _ => false) := by unfold RowT; rw [hw2, ← hs1]; exact heap_alloc_new _ _
    have hs2 : w2.heap.size = B0 + 2 := by rw [hw2]; simp [hs1]
    have hgl : g < B0 := by rw [hB0]; exact hrow.lt
    have hnb : n ≤ 8000000000 := by have := kid_len_le L; omega
    have HFE := Lib.hid hFE
    have HKW := Lib.hid hk
    have HB2 := Lib.hid hb2
    have HN2 := Lib.hid hn2
    have HG2 := Lib.hid hG2
    have HROW := Lib.hid (hrow.under hb2)
    have HROWW := Lib.hid hrow
    have HS2 := Lib.hid hs2
    have HW1 := Lib.hid hw1
    have HB0 := Lib.hid hB0
    have HKS : Hid ((L.map RT.sz).sum ≤ 8000000000) := by unfold Hid; omega
    have HKD := Lib.hid hkd
    have HKG := Lib.hid hkg
    have HNU := Lib.hid hnum
    have HIH := Lib.hid ih
    have HOK := Lib.hid hok
    have HGL := Lib.hid hgl
    have HMK := Lib.hid hmk
    have hn2' := hn2
    rw [hB0] at hn2'
    obtain ⟨j0, j1, j2, j3, j4, j5⟩ := six_at hn2'
    obtain ⟨k0, k1, k2, k3, k4, k5⟩ := six_at hn2
    clear et hok hk hnum hL ht hdep hsz hks ih hw1 hw2 hb1 hb2 hn1 hn2 hn2' hG2 hs1 hs2 hB0 hkd hkg hF hFE hkind hg hrow hgl
    unfold ReV.val
    simp only []
    by_cases e1 : k = 1
    · subst e1
      have hcp := copyB w2 (B0 + 1) (M + 1) g f (fun _ => false) 3 HG2.out HROW.out
      obtain ⟨w3, hw3⟩ : ∃ w3 : World, w3 = w2.setRow (B0 + 1) (bcl (M + 1) f).toArray := ⟨_, rfl⟩
      rw [← hw3] at hcp
      have HR3 : Hid (RowT w3 (B0 + 1) (M + 1) f) := by unfold Hid; rw [hw3]; exact HG2.out.row
      have HB3 : Hid (Below W.heap.size W w3) := by unfold Hid; rw [hw3]; exact row_under HB2.out (by have := HB0.out; omega)
      have HB23 : Hid (∀ z, z ≠ B0 + 1 → w3.heap[z]? = w2.heap[z]?) := fun z hz => by rw [hw3]; exact setRow_other w2 (B0 + 1) z _ hz
      have HS3 : Hid (w3.heap.size = B0 + 2) := by unfold Hid; rw [hw3, size_setRow]; exact HS2.out
      clear hw3
      go_enter Tryz.func18, Tryz.ntmps18
      go_wp2_with fail
      try rw [← HB0.out]
      try go_wp2_with fail
      go_ret
      exact ⟨B0 + 1, rfl, by have := HB0.out; omega, HR3.out.congr fun j hj => by rw [HFE.out]; exact (end_kind1 rfl f (by rw [HLL.out]; omega)).symm, HB3.out⟩
    have z1 : (k == 1) = false := by simpa using e1
    by_cases e2 : k = 2
    · subst e2
      have hI := W4.isSet HOK.out
      obtain ⟨f2, hf2⟩ : ∃ f2, f2 = (⟨a, b, e, d⟩ : W4).mem := ⟨_, rfl⟩
      have HF0 : Hid (F 0 = false) := by unfold Hid; rw [HFE.out]; exact end_byte0 rfl l f
      have HFN : Hid (∀ (i : Nat) (cb : UInt8), i < M → (byteL S)[i]? = some cb.toNat → F (i + 1) = (f i && f2 cb.toNat)) := fun i cb hi hc => by
        have hil : i < l.length := by rw [HLL.out]; exact hi
        have hb : ∀ c ∈ l, c < 256 := by rw [HL.out]; exact fun c hc => by unfold byteL at hc; obtain ⟨u, _, rfl⟩ := List.mem_map.1 hc; exact u.toNat_lt
        rw [HFE.out, end_byte rfl hb f hil, hf2]
        have hc2 : l[i]? = some cb.toNat := by rw [HL.out]; exact hc
        have := (List.getElem?_eq_some_iff.1 hc2).2
        rw [this]
        rfl
      rw [← hf2] at hI
      have HI := Lib.hid hI
      have HN3 : Hid (w2.heap[B0]? = some (.cells #[.int .i64 2, .int .u64 a, .int .u64 b, .int .u64 e, .int .u64 d, .slice p n cap] 28 (0, 0))) := HN2.out
      clear hI hf2
      go_enter Tryz.func18, Tryz.ntmps18
      go_wp2_with fail
      rw [← HB0.out]
      clear j0 j1 j2 j3 j4 j5 k0 k1 k2 k3 k4 k5
      go_loopg [8] M (fun gk vi wr => ∃ (i : Nat), vi = .int .i64 (i : Int) ∧ i ≤ M ∧ M - i ≤ gk ∧ Hid (RowT wr (B0 + 1) (M + 1) (fun j => decide (j ≤ i) && F j)) ∧ Hid (wr.heap[B0]? = some (.cells #[.int .i64 2, .int .u64 a, .int .u64 b, .int .u64 e, .int .u64 d, .slice p n cap] 28 (0, 0))) ∧ Hid (Below W.heap.size W wr))
      case atStart => exact ⟨0, rfl, by omega, by omega, HG2.out.congr (fun j _ => by
        by_cases h0 : j = 0
        · subst h0; rw [HF0.out]; simp
        · simp [h0]), HN3.out, HB2.out⟩
      case round =>
        obtain ⟨i, rfl, hi, hgk, HR, HBX, HB⟩ := hrel
        by_cases hlt : i < M
        · have hltz : (i : Int) < (M : Int) := by omega
          obtain ⟨cb, hcb⟩ : ∃ cb, S.data.toList[i]? = some cb := ⟨_, List.getElem?_eq_getElem (by have := HMS.out; simp; omega)⟩
          have hSc : ∀ h : i < S.size, S[i]'h = cb := fun h => by
            have h1 := (List.getElem?_eq_some_iff.1 hcb).2
            rw [← h1]
            rfl
          have hFI := HFN.out i cb hlt (by unfold byteL; rw [List.getElem?_map, hcb]; rfl)
          obtain ⟨m, hm⟩ : ∃ m, m = f2 cb.toNat := ⟨_, rfl⟩
          obtain ⟨b1, hb1⟩ : ∃ b1, b1 = f i := ⟨_, rfl⟩
          rw [← hb1, ← hm] at hFI
          have HFI := Lib.hid hFI
          have hcu : cb.toNat < 256 := cb.toNat_lt
          have HC : Hid (∀ W, Calls Tryz.prog 35 #[.agg #[.int .u64 a, .int .u64 b, .int .u64 e, .int .u64 d], .int .i64 (cb.toNat : Int)] W fun e w' => e = .returned (.bool m) ∧ Below W.heap.size W w') := fun W => by
            have h := refhas_any a b e d (cb.toNat : Int) f2 W HI.out
            rw [hasB_nat f2 cb.toNat hcu, ← hm] at h
            exact h.mono fun e w' ⟨he, hw⟩ => ⟨he, by subst hw; exact (Below.refl _ _).alloc (Nat.le_refl _) _⟩
          have hrg := HROWW.out.under HB.out
          have c1 : wr.cell? ⟨g, i, none⟩ = some (.bool b1) := by rw [hb1]; exact hrg.cell (by omega)
          have HCU := Lib.hid hcu
          obtain ⟨k0, k1, k2, k3, k4, k5⟩ := six_at HBX.out
          have k2' : wr.cell? ⟨B0, 1 + 1, none⟩ = some (.int .u64 b) := k2
          have k3' : wr.cell? ⟨B0, 1 + 2, none⟩ = some (.int .u64 e) := k3
          have k4' : wr.cell? ⟨B0, 1 + 3, none⟩ = some (.int .u64 d) := k4
          have z0 := HR.out.cold (i + 1)
          have o0 : wr.cell? ⟨B0 + 1, i + 1, none⟩ = some (.bool (decide (i + 1 ≤ i) && F (i + 1))) := HR.out.cell (by omega)
          obtain ⟨o1, ho1⟩ : ∃ o1, o1 = (decide (i + 1 ≤ i) && F (i + 1)) := ⟨_, rfl⟩
          rw [← ho1] at o0
          have HQ : Hid (∀ w4, Below wr.drew.heap.size wr.drew w4 → w4.cell? ⟨B0 + 1, i + 1, none⟩ = some (.bool o1) ∧ w4.frozen? ⟨B0 + 1, i + 1, none⟩ = false ∧ Hid (RowT w4 (B0 + 1) (M + 1) (fun j => decide (j ≤ i) && F j)) ∧ Hid (w4.heap[B0]? = some (.cells #[.int .i64 2, .int .u64 a, .int .u64 b, .int .u64 e, .int .u64 d, .slice p n cap] 28 (0, 0))) ∧ Hid (Below W.heap.size W w4)) := fun w4 hb => by
            have hr4 : RowT w4 (B0 + 1) (M + 1) (fun j => decide (j ≤ i) && F j) := (hb.block (B0 + 1) HR.out.lt).trans HR.out
            refine ⟨?_, hr4.cold _, hr4, (hb.block B0 (Array.getElem?_eq_some_iff.1 HBX.out).1).trans HBX.out, (below_drawn HB.out 1).trans (hb.mono HB.out.size)⟩
            rw [ho1]
            exact hr4.cell (by omega)
          have HNX : Hid (∀ (x : World) (bb : Bool), bb = F (i + 1) → RowT x (B0 + 1) (M + 1) (fun j => decide (j ≤ i) && F j) → RowT (x.setCell ⟨B0 + 1, i + 1, none⟩ (.bool bb)) (B0 + 1) (M + 1) (fun j => decide (j ≤ i + 1) && F j)) := fun x bb hb hx => (hx.set (i + 1) bb).congr fun j _ => by
            by_cases ej : j = i + 1
            · subst ej
              rw [if_pos rfl, hb]
              simp
            · rw [if_neg ej]
              have : decide (j ≤ i) = decide (j ≤ i + 1) := by rw [Bool.eq_iff_iff]; simp; omega
              rw [this]
          have HNB : Hid (∀ (x : World) (bb : Bool), Below W.heap.size W x → Below W.heap.size W (x.setCell ⟨B0 + 1, i + 1, none⟩ (.bool bb))) := fun x bb h => h.setCell (by show W.heap.size ≤ B0 + 1; have := HB0.out; omega) _
          have HNZ : Hid (∀ (x : World) (bb : Bool), x.heap[B0]? = some (.cells #[.int .i64 2, .int .u64 a, .int .u64 b, .int .u64 e, .int .u64 d, .slice p n cap] 28 (0, 0)) → (x.setCell ⟨B0 + 1, i + 1, none⟩ (.bool bb)).heap[B0]? = some (.cells #[.int .i64 2, .int .u64 a, .int .u64 b, .int .u64 e, .int .u64 d, .slice p n cap] 28 (0, 0))) := fun x bb h => (heap_setCell_other x ⟨B0 + 1, i + 1, none⟩ B0 _ (by show B0 ≠ B0 + 1; omega)).trans h
          clear hb1 hm ho1 hrg hcb hFI hcu
          cases b1 with
          | false =>
            go_wp2_with fail
            try go_region
            go_wp2
            go_roundg (M - (i + 1))
            case measure => omega
            case rel => exact ⟨i + 1, by go_num, by omega, by omega, HNX.out _ _ (by rw [HFI.out]; rfl) HR.out, HNZ.out _ _ HBX.out, below_drawn (HNB.out _ _ HB.out) 1⟩
          | true =>
            have HFJ : Hid (m = F (i + 1)) := by unfold Hid; rw [HFI.out]; rfl
            have hlt2 : i < M + 1 := by omega
            have hltz2 : (i : Int) < (M : Int) + 1 := by omega
            have hltz3 : (i : Int) + 1 < (M : Int) + 1 := by omega
            have hwc : IntKind.i64.wrap (cb.toNat : Int) = (cb.toNat : Int) := by have := HCU.out; rw [IntKind.wrap_i64]; omega
            have hwi : IntKind.i64.wrap ((i : Int) + 1) = (i : Int) + 1 := by rw [IntKind.wrap_i64]; omega
            have hi0 : 0 ≤ (i : Int) + 1 := by omega
            go_wp2_with fail
            go_region_law (first
              | (go_simp; go_at_call 35; (with_reducible (refine (HC.out _).mono ?_)); rintro _ w4 ⟨rfl, hb4⟩; obtain ⟨t0, t1, HR4, HX4, HB4⟩ := HQ.out w4 hb4; clear hb4)
              | fail)
            all_goals go_wp2
            all_goals
              go_roundg (M - (i + 1))
              case measure => omega
              case rel => exact ⟨i + 1, by go_num, by omega, by omega, HNX.out _ _ HFJ.out HR4.out, HNZ.out _ _ HX4.out, HNB.out _ _ HB4.out⟩
        · have hltz : ¬ (i : Int) < (M : Int) := by omega
          obtain rfl : i = M := by omega
          have HRF : Hid (RowT wr (B0 + 1) (i + 1) F) := HR.out.congr fun j hj => by
            have : decide (j ≤ i) = true := by simp; omega
            rw [this, Bool.true_and]
          go_wp2_with fail
          go_ret
          exact ⟨B0 + 1, rfl, by have := HB0.out; omega, HRF.out, HB.out⟩
    have z2 : (k == 2) = false := by simpa using e2
    by_cases e3 : k = 3
    · subst e3
      have hcp := copyB w2 (B0 + 1) (M + 1) g f (fun _ => false) 3 HG2.out HROW.out
      obtain ⟨w3, hw3⟩ : ∃ w3 : World, w3 = w2.setRow (B0 + 1) (bcl (M + 1) f).toArray := ⟨_, rfl⟩
      rw [← hw3] at hcp
      have HR3 : Hid (RowT w3 (B0 + 1) (M + 1) f) := by unfold Hid; rw [hw3]; exact HG2.out.row
      have HB3 : Hid (Below W.heap.size W w3) := by unfold Hid; rw [hw3]; exact row_under HB2.out (by have := HB0.out; omega)
      have HB23 : Hid (∀ z, z ≠ B0 + 1 → w3.heap[z]? = w2.heap[z]?) := fun z hz => by rw [hw3]; exact setRow_other w2 (B0 + 1) z _ hz
      have HS3 : Hid (w3.heap.size = B0 + 2) := by unfold Hid; rw [hw3, size_setRow]; exact HS2.out
      clear hw3
      have HN3 : Hid (w3.heap[B0]? = some (.cells #[.int .i64 3, .int .u64 a, .int .u64 b, .int .u64 e, .int .u64 d, .slice p n cap] 28 (0, 0))) := (HB23.out B0 (by omega)).trans HN2.out
      have HN3' := HN3.out
      rw [HB0.out] at HN3'
      obtain ⟨i0, i1, i2, i3, i4, i5⟩ := six_at HN3'
      clear HN3'
      go_enter Tryz.func18, Tryz.ntmps18
      go_wp2_with fail
      rw [← HB0.out]
      clear i0 i1 i2 i3 i4 i5 j0 j1 j2 j3 j4 j5 k0 k1 k2 k3 k4 k5
      go_loopg [7, 9] n (fun gk vo vi wr => ∃ (i q : Nat), vo = .slice (some ⟨q, 0, none⟩) (M + 1) (M + 1) ∧ vi = .int .i64 (i : Int) ∧ i ≤ n ∧ n - i ≤ gk ∧ B0 + 1 ≤ q ∧ Hid (RowT wr q (M + 1) (endsF l (L.take i) f)) ∧ Hid (Below w3.heap.size w3 wr))
      case atStart => exact ⟨0, B0 + 1, rfl, rfl, by omega, by omega, Nat.le_refl _, HR3.out, Below.refl _ _⟩
      case round =>
        obtain ⟨i, q, rfl, rfl, hi, hgk, hq, HR, HB⟩ := hrel
        obtain ⟨k0, k1, k2, k3, k4, k5⟩ := six_at ((HB.out.block B0 (by rw [HS3.out]; omega)).trans HN3.out)
        have hball : Below W.heap.size W wr := HB3.out.trans (HB.out.mono HB3.out.size)
        by_cases hlt : i < n
        · have hltz : (i : Int) < (n : Int) := by omega
          obtain ⟨g1, off, rfl⟩ := HKW.out.rowv.some_of hlt
          have hil : i < L.length := by rw [← HNU.out]; exact hlt
          obtain ⟨y, hy⟩ : ∃ y, vs[i]? = some y := ⟨_, List.getElem?_eq_getElem (by rw [HKW.out.len]; exact hil)⟩
          obtain ⟨u, hu⟩ : ∃ u, L[i]? = some u := ⟨_, List.getElem?_eq_getElem hil⟩
          have hpl := (HKW.out.place hy).under hball
          have hra := (HKW.out.each i y u hy hu).under hball
          have hul : u ∈ L := List.mem_of_getElem? hu
          have con := HIH.out P u y wr q (endsF l (L.take i) f) (HKD.out u hul) (HKG.out u hul) (by have := sum_mem hul; have := HKS.out; omega) hra HR.out
          have HTK : Hid (endsF l (L.take (i + 1)) f = endF u l (endsF l (L.take i) f)) := by unfold Hid; rw [List.take_add_one, hu]; exact endsF_snoc l _ u f
          obtain ⟨y0, y1, y2, y3, y4, y5, y6, y7⟩ := y
          obtain ⟨q0, q1, q2, q3, q4, q5⟩ := hpl.six
          simp only at q0 q1 q2 q3 q4 q5
          unfold ReV.val at con
          simp only [] at con
          have HSZ : Hid (B0 + 2 ≤ wr.heap.size) := by unfold Hid; have := HB.out.size; rw [HS3.out] at this; exact this
          clear hpl hra hy hu hil hul hball
          go_wp2_with fail
          ((with_reducible refine con.mono ?_))
          rintro _ w5 ⟨q5, rfl, hq5, hrow5, hb5⟩
          have HB5 : Hid (Below w3.heap.size w3 w5) := HB.out.trans (hb5.mono HB.out.size)
          have HR5 := Lib.hid hrow5
          have HQ5 : Hid (B0 + 1 ≤ q5) := by unfold Hid; have := HSZ.out; omega
          clear hb5 hrow5 hq5 con
          go_wp2
          go_roundg (n - (i + 1))
          case measure => omega
          case rel => exact ⟨i + 1, q5, rfl, by go_num, by omega, Nat.le_refl _, HQ5.out, by unfold Hid; rw [HTK.out]; exact HR5.out, HB5.out⟩
        · have hltz : ¬ (i : Int) < (n : Int) := by omega
          have hle : L.take i = L := List.take_of_length_le (by rw [← HNU.out]; omega)
          have hrow := HR.out
          rw [hle] at hrow
          have HRF := Lib.hid hrow
          have HBA := Lib.hid hball
          clear hrow hle hball
          go_wp2_with fail
          go_ret
          exact ⟨q, rfl, by have := HB0.out; omega, HRF.out.congr fun j hj => by rw [HFE.out]; exact (end_cat _ _ f (by rw [HLL.out]; omega)).symm, HBA.out⟩
    have z3 : (k == 3) = false := by simpa using e3
    by_cases e4 : k = 4
    · subst e4
      have HN3 : Hid (w2.heap[B0]? = some (.cells #[.int .i64 4, .int .u64 a, .int .u64 b, .int .u64 e, .int .u64 d, .slice p n cap] 28 (0, 0))) := HN2.out
      go_enter Tryz.func18, Tryz.ntmps18
      go_wp2_with fail
      rw [← HB0.out]
      clear j0 j1 j2 j3 j4 j5 k0 k1 k2 k3 k4 k5
      go_loopg [10, 11, 12] n (fun gk vi v11 v12 wr => ∃ (i : Nat), vi = .int .i64 (i : Int) ∧ i ≤ n ∧ n - i ≤ gk ∧ Hid (RowT wr (B0 + 1) (M + 1) (fun j => (L.take i).any fun t => endF t l f j)) ∧ Hid (wr.heap[B0]? = some (.cells #[.int .i64 4, .int .u64 a, .int .u64 b, .int .u64 e, .int .u64 d, .slice p n cap] 28 (0, 0))) ∧ Hid (Below W.heap.size W wr))
      case atStart => exact ⟨0, rfl, by omega, by omega, HG2.out, HN3.out, HB2.out⟩
      case round =>
        obtain ⟨i, rfl, hi, hgk, HR, HBX, HB⟩ := hrel
        obtain ⟨k0, k1, k2, k3, k4, k5⟩ := six_at HBX.out
        by_cases hlt : i < n
        · have hltz : (i : Int) < (n : Int) := by omega
          obtain ⟨g1, off, rfl⟩ := HKW.out.rowv.some_of hlt
          have hil : i < L.length := by rw [← HNU.out]; exact hlt
          obtain ⟨y, hy⟩ : ∃ y, vs[i]? = some y := ⟨_, List.getElem?_eq_getElem (by rw [HKW.out.len]; exact hil)⟩
          obtain ⟨u, hu⟩ : ∃ u, L[i]? = some u := ⟨_, List.getElem?_eq_getElem hil⟩
          have hpl := (HKW.out.place hy).under HB.out
          have hra := (HKW.out.each i y u hy hu).under HB.out
          have hul : u ∈ L := List.mem_of_getElem? hu
          have con := HIH.out P u y wr g f (HKD.out u hul) (HKG.out u hul) (by have := sum_mem hul; have := HKS.out; omega) hra (HROWW.out.under HB.out)
          have HTK : Hid (∀ j, (L.take (i + 1)).any (fun t => endF t l f j) = ((L.take i).any (fun t => endF t l f j) || endF u l f j)) := fun j => by rw [List.take_add_one, hu, List.any_append]; simp
          obtain ⟨E, hE⟩ : ∃ E, E = endF u l f := ⟨_, rfl⟩
          rw [← hE] at con HTK
          obtain ⟨cur, hcur⟩ : ∃ cur : Nat → Bool, cur = fun j => (L.take i).any fun t => endF t l f j := ⟨_, rfl⟩
          rw [← hcur] at HR
          have HCUR := Lib.hid hcur
          obtain ⟨y0, y1, y2, y3, y4, y5, y6, y7⟩ := y
          obtain ⟨q0, q1, q2, q3, q4, q5⟩ := hpl.six
          simp only at q0 q1 q2 q3 q4 q5
          unfold ReV.val at con
          simp only [] at con
          have hG1 : B0 + 1 < wr.heap.size := HR.out.lt
          clear hpl hra hy hu hil hul hE hcur
          go_wp2_with fail
          ((with_reducible refine con.mono ?_))
          rintro _ w5 ⟨gq, rfl, hq5, hrow5, hb5⟩
          have HR5 := Lib.hid (HR.out.under hb5)
          have HX5 := Lib.hid ((hb5.block B0 (by omega)).trans HBX.out)
          have HB5 : Hid (Below W.heap.size W w5) := HB.out.trans (hb5.mono HB.out.size)
          have HM5 := Lib.hid hrow5
          have hne : gq ≠ B0 + 1 := by omega
          have hne2 : gq ≠ B0 := by omega
          have HNE := Lib.hid (And.intro hne hne2)
          have HQ5 : Hid (W.heap.size ≤ gq) := by unfold Hid; have := HB.out.size; omega
          clear hb5 hrow5 hq5 con hne hne2 hG1 k0 k1 k2 k3 k4 k5 q0 q1 q2 q3 q4 q5
          obtain ⟨wm, hwm⟩ : ∃ x : World, x = wr := ⟨_, rfl⟩
          subst hwm
          go_wp2_with fail
          go_loopg [12] (M + 1) (fun gk2 vk wr => ∃ (k : Nat), vk = .int .i64 (k : Int) ∧ k ≤ M + 1 ∧ M + 1 - k ≤ gk2 ∧ Hid (RowT wr (B0 + 1) (M + 1) (fun j => cur j || (decide (j < k) && E j))) ∧ Hid (RowT wr gq (M + 1) E) ∧ Hid (wr.heap[B0]? = some (.cells #[.int .i64 4, .int .u64 a, .int .u64 b, .int .u64 e, .int .u64 d, .slice (some ⟨g1, off, none⟩) n cap] 28 (0, 0))) ∧ Hid (Below W.heap.size W wr))
          case atStart => exact ⟨0, rfl, by omega, by omega, HR5.out.congr (fun j _ => by simp), HM5.out, HX5.out, HB5.out⟩
          case round =>
            obtain ⟨k, rfl, hk, hgk2, HRk, HMk, HXk, HBk⟩ := hrel
            by_cases hkl : k < M + 1
            · have hkz : (k : Int) < (M : Int) + 1 := by omega
              obtain ⟨b1, hb1⟩ : ∃ b1, b1 = cur k := ⟨_, rfl⟩
              obtain ⟨b2, hb2⟩ : ∃ b2, b2 = E k := ⟨_, rfl⟩
              have c0 : wr.cell? ⟨B0 + 1, k, none⟩ = some (.bool b1) := by have := HRk.out.cell hkl; simp only [Nat.lt_irrefl, decide_false, Bool.false_and, Bool.or_false] at this; rw [hb1]; exact this
              have c1 : wr.cell? ⟨gq, k, none⟩ = some (.bool b2) := by rw [hb2]; exact HMk.out.cell hkl
              have z0 := HRk.out.cold k
              have HNX : Hid (∀ bb : Bool, bb = (b1 || b2) → RowT (wr.setCell ⟨B0 + 1, k, none⟩ (.bool bb)) (B0 + 1) (M + 1) (fun j => cur j || (decide (j < k + 1) && E j))) := fun bb hb => (HRk.out.set k bb).congr fun j _ => by
                by_cases ej : j = k
                · subst ej
                  rw [if_pos rfl, hb, hb1, hb2]
                  simp
                · rw [if_neg ej]
                  have : decide (j < k) = decide (j < k + 1) := by rw [Bool.eq_iff_iff]; simp; omega
                  rw [this]
              have HNB : Hid (∀ bb : Bool, Below W.heap.size W (wr.setCell ⟨B0 + 1, k, none⟩ (.bool bb))) := fun bb => HBk.out.setCell (by show W.heap.size ≤ B0 + 1; have := HB0.out; omega) _
              have HNM : Hid (∀ bb : Bool, RowT (wr.setCell ⟨B0 + 1, k, none⟩ (.bool bb)) gq (M + 1) E) := fun bb => HMk.out.apart HNE.out.1
              have HNZ : Hid (∀ bb : Bool, (wr.setCell ⟨B0 + 1, k, none⟩ (.bool bb)).heap[B0]? = some (.cells #[.int .i64 4, .int .u64 a, .int .u64 b, .int .u64 e, .int .u64 d, .slice (some ⟨g1, off, none⟩) n cap] 28 (0, 0))) := fun bb => (heap_setCell_other wr ⟨B0 + 1, k, none⟩ B0 _ (by show B0 ≠ B0 + 1; omega)).trans HXk.out
              clear hb1 hb2
              cases b1
              all_goals
                go_wp2
                go_roundg (M + 1 - (k + 1))
                case measure => omega
                case rel => exact ⟨k + 1, by go_num, by omega, by omega, HNX.out _ (by simp), HNM.out _, HNZ.out _, HNB.out _⟩
            · have hkz : ¬ (k : Int) < (M : Int) + 1 := by omega
              obtain rfl : k = M + 1 := by omega
              have HRF : Hid (RowT wr (B0 + 1) (M + 1) (fun j => (L.take (i + 1)).any fun t => endF t l f j)) := HRk.out.congr fun j hj => by
                rw [HTK.out j, HCUR.out]
                simp [hj]
              go_wp2
              go_roundg (n - (i + 1))
              case measure => omega
              case rel => exact ⟨i + 1, by go_num, by omega, by omega, HRF.out, HXk.out, HBk.out⟩
        · have hltz : ¬ (i : Int) < (n : Int) := by omega
          have hle : L.take i = L := List.take_of_length_le (by rw [← HNU.out]; omega)
          have hrow := HR.out
          rw [hle] at hrow
          have HRF := Lib.hid hrow
          clear hrow hle
          go_wp2_with fail
          go_ret
          exact ⟨B0 + 1, rfl, by have := HB0.out; omega, HRF.out.congr fun j hj => by rw [HFE.out]; exact (end_either _ _ l f j).symm, HB.out⟩
    have z4 : (k == 4) = false := by simpa using e4
    by_cases e5 : k = 5
    · subst e5
      have hcp := copyB w2 (B0 + 1) (M + 1) g f (fun _ => false) 3 HG2.out HROW.out
      obtain ⟨w3, hw3⟩ : ∃ w3 : World, w3 = w2.setRow (B0 + 1) (bcl (M + 1) f).toArray := ⟨_, rfl⟩
      rw [← hw3] at hcp
      have HR3 : Hid (RowT w3 (B0 + 1) (M + 1) f) := by unfold Hid; rw [hw3]; exact HG2.out.row
      have HB3 : Hid (Below W.heap.size W w3) := by unfold Hid; rw [hw3]; exact row_under HB2.out (by have := HB0.out; omega)
      have HB23 : Hid (∀ z, z ≠ B0 + 1 → w3.heap[z]? = w2.heap[z]?) := fun z hz => by rw [hw3]; exact setRow_other w2 (B0 + 1) z _ hz
      have HS3 : Hid (w3.heap.size = B0 + 2) := by unfold Hid; rw [hw3, size_setRow]; exact HS2.out
      clear hw3
      have HN3 : Hid (w3.heap[B0]? = some (.cells #[.int .i64 5, .int .u64 a, .int .u64 b, .int .u64 e, .int .u64 d, .slice p n cap] 28 (0, 0))) := (HB23.out B0 (by omega)).trans HN2.out
      obtain ⟨u, hLu⟩ : ∃ u, L = [u] := HSTA.out rfl
      obtain rfl : n = 1 := by have := HNU.out; rw [hLu] at this; simpa using this
      obtain ⟨g1, off, rfl⟩ := HKW.out.rowv.some_of (show 0 < 1 by omega)
      obtain ⟨y, hy⟩ : ∃ y, vs[0]? = some y := ⟨_, List.getElem?_eq_getElem (by rw [HKW.out.len, hLu]; simp)⟩
      have hpl := HKW.out.place hy
      rw [Nat.zero_mul, Nat.add_zero] at hpl
      have HPL := Lib.hid hpl
      have HRA := Lib.hid (HKW.out.each 0 y u hy (by rw [hLu]; rfl))
      have hul : u ∈ L := by rw [hLu]; simp
      have HCON : Hid (∀ (W' : World) (g : Nat) (f : Nat → Bool), Below W.heap.size W W' → RowT W' g (M + 1) f → Calls Tryz.prog 18 #[y.val, .string S, .slice (some ⟨g, 0, none⟩) (M + 1) (M + 1)] W' (GivesT2 (M + 1) (endF u l f) W')) := fun W' g f hb hr => HIH.out P u y W' g f (HKD.out u hul) (HKG.out u hul) (by have := sum_mem hul; have := HKS.out; omega) (HRA.out.under hb) hr
      have HFS : Hid (∀ j, j < M + 1 → starF u l f (M + 1) j = F j) := fun j hj => by rw [HFE.out, hLu, end_star _ u f (by rw [HLL.out]; omega), HLL.out]
      obtain ⟨y0, y1, y2, y3, y4, y5, y6, y7⟩ := y
      have HN3' := HN3.out
      rw [HB0.out] at HN3'
      obtain ⟨i0, i1, i2, i3, i4, i5⟩ := six_at HN3'
      clear HN3' hLu hy hpl hul
      go_enter Tryz.func18, Tryz.ntmps18
      go_wp2_with fail
      rw [← HB0.out]
      clear i0 i1 i2 i3 i4 i5 j0 j1 j2 j3 j4 j5 k0 k1 k2 k3 k4 k5
      go_loopg [13, 14, 15] (M + 1) (fun gk vi v14 v15 wr => ∃ (i : Nat), vi = .int .i64 (i : Int) ∧ i ≤ M + 1 ∧ M + 1 - i ≤ gk ∧ Hid (RowT wr (B0 + 1) (M + 1) (starF u l f i)) ∧ Hid (wr.heap[B0]? = some (.cells #[.int .i64 5, .int .u64 a, .int .u64 b, .int .u64 e, .int .u64 d, .slice (some ⟨g1, off, none⟩) 1 cap] 28 (0, 0))) ∧ Hid (Below W.heap.size W wr))
      case atStart => exact ⟨0, rfl, by omega, by omega, HR3.out, HN3.out, HB3.out⟩
      case round =>
        obtain ⟨i, rfl, hi, hgk, HR, HBX, HB⟩ := hrel
        obtain ⟨k0, k1, k2, k3, k4, k5⟩ := six_at HBX.out
        by_cases hlt : i ≤ M
        · have hltz : (i : Int) ≤ (M : Int) := by omega
          have con := HCON.out wr (B0 + 1) (starF u l f i) HB.out HR.out
          obtain ⟨cur, hcur⟩ : ∃ cur : Nat → Bool, cur = starF u l f i := ⟨_, rfl⟩
          obtain ⟨E, hE⟩ : ∃ E, E = endF u l cur := ⟨_, rfl⟩
          have HTK : Hid (∀ j, starF u l f (i + 1) j = (cur j || E j)) := fun j => by rw [hE, hcur]; rfl
          rw [← hcur, ← hE] at con
          rw [← hcur] at HR
          obtain ⟨q0, q1, q2, q3, q4, q5⟩ := (HPL.out.under HB.out).six
          simp only at q0 q1 q2 q3 q4 q5
          unfold ReV.val at con
          simp only [] at con
          have hG1 : B0 + 1 < wr.heap.size := HR.out.lt
          clear hE hcur
          go_wp2_with fail
          ((with_reducible refine con.mono ?_))
          rintro _ w5 ⟨gq, rfl, hq5, hrow5, hb5⟩
          have HR5 := Lib.hid (HR.out.under hb5)
          have HX5 := Lib.hid ((hb5.block B0 (by omega)).trans HBX.out)
          have HB5 : Hid (Below W.heap.size W w5) := HB.out.trans (hb5.mono HB.out.size)
          have HM5 := Lib.hid hrow5
          have hne : gq ≠ B0 + 1 := by omega
          have hne2 : gq ≠ B0 := by omega
          have HNE := Lib.hid (And.intro hne hne2)
          clear hb5 hrow5 hq5 con hne hne2 hG1 k0 k1 k2 k3 k4 k5 q0 q1 q2 q3 q4 q5
          obtain ⟨wm, hwm⟩ : ∃ x : World, x = wr := ⟨_, rfl⟩
          subst hwm
          go_wp2_with fail
          go_loopg [15] (M + 1) (fun gk2 vk wr => ∃ (k : Nat), vk = .int .i64 (k : Int) ∧ k ≤ M + 1 ∧ M + 1 - k ≤ gk2 ∧ Hid (RowT wr (B0 + 1) (M + 1) (fun j => cur j || (decide (j < k) && E j))) ∧ Hid (RowT wr gq (M + 1) E) ∧ Hid (wr.heap[B0]? = some (.cells #[.int .i64 5, .int .u64 a, .int .u64 b, .int .u64 e, .int .u64 d, .slice (some ⟨g1, off, none⟩) 1 cap] 28 (0, 0))) ∧ Hid (Below W.heap.size W wr))
          case atStart => exact ⟨0, rfl, by omega, by omega, HR5.out.congr (fun j _ => by simp), HM5.out, HX5.out, HB5.out⟩
          case round =>
            obtain ⟨k, rfl, hk, hgk2, HRk, HMk, HXk, HBk⟩ := hrel
            by_cases hkl : k < M + 1
            · have hkz : (k : Int) < (M : Int) + 1 := by omega
              obtain ⟨b1, hb1⟩ : ∃ b1, b1 = cur k := ⟨_, rfl⟩
              obtain ⟨b2, hb2⟩ : ∃ b2, b2 = E k := ⟨_, rfl⟩
              have c0 : wr.cell? ⟨B0 + 1, k, none⟩ = some (.bool b1) := by have := HRk.out.cell hkl; simp only [Nat.lt_irrefl, decide_false, Bool.false_and, Bool.or_false] at this; rw [hb1]; exact this
              have c1 : wr.cell? ⟨gq, k, none⟩ = some (.bool b2) := by rw [hb2]; exact HMk.out.cell hkl
              have z0 := HRk.out.cold k
              have HNX : Hid (∀ bb : Bool, bb = (b1 || b2) → RowT (wr.setCell ⟨B0 + 1, k, none⟩ (.bool bb)) (B0 + 1) (M + 1) (fun j => cur j || (decide (j < k + 1) && E j))) := fun bb hb => (HRk.out.set k bb).congr fun j _ => by
                by_cases ej : j = k
                · subst ej
                  rw [if_pos rfl, hb, hb1, hb2]
                  simp
                · rw [if_neg ej]
                  have : decide (j < k) = decide (j < k + 1) := by rw [Bool.eq_iff_iff]; simp; omega
                  rw [this]
              have HNB : Hid (∀ bb : Bool, Below W.heap.size W (wr.setCell ⟨B0 + 1, k, none⟩ (.bool bb))) := fun bb => HBk.out.setCell (by show W.heap.size ≤ B0 + 1; have := HB0.out; omega) _
              have HNM : Hid (∀ bb : Bool, RowT (wr.setCell ⟨B0 + 1, k, none⟩ (.bool bb)) gq (M + 1) E) := fun bb => HMk.out.apart HNE.out.1
              have HNZ : Hid (∀ bb : Bool, (wr.setCell ⟨B0 + 1, k, none⟩ (.bool bb)).heap[B0]? = some (.cells #[.int .i64 5, .int .u64 a, .int .u64 b, .int .u64 e, .int .u64 d, .slice (some ⟨g1, off, none⟩) 1 cap] 28 (0, 0))) := fun bb => (heap_setCell_other wr ⟨B0 + 1, k, none⟩ B0 _ (by show B0 ≠ B0 + 1; omega)).trans HXk.out
              clear hb1 hb2
              cases b1
              all_goals
                go_wp2
                go_roundg (M + 1 - (k + 1))
                case measure => omega
                case rel => exact ⟨k + 1, by go_num, by omega, by omega, HNX.out _ (by simp), HNM.out _, HNZ.out _, HNB.out _⟩
            · have hkz : ¬ (k : Int) < (M : Int) + 1 := by omega
              obtain rfl : k = M + 1 := by omega
              have HRF : Hid (RowT wr (B0 + 1) (M + 1) (starF u l f (i + 1))) := HRk.out.congr fun j hj => by
                rw [HTK.out j]
                simp [hj]
              go_wp2
              go_roundg (M + 1 - (i + 1))
              case measure => omega
              case rel => exact ⟨i + 1, by go_num, by omega, by omega, HRF.out, HXk.out, HBk.out⟩
        · have hltz : ¬ (i : Int) ≤ (M : Int) := by omega
          obtain rfl : i = M + 1 := by omega
          have HRF : Hid (RowT wr (B0 + 1) (M + 1) F) := HR.out.congr HFS.out
          go_wp2_with fail
          go_ret
          exact ⟨B0 + 1, rfl, by have := HB0.out; omega, HRF.out, HB.out⟩
    have z5 : (k == 5) = false := by simpa using e5
    have e0 : (RT.mk k ⟨a, b, e, d⟩ L).kind = 0 := by have := HK6.out; show k = 0; omega
    have hr : ∀ j, F j = false := fun j => by rw [HFE.out]; exact end_kind0 e0 l f j
    go_enter Tryz.func18, Tryz.ntmps18
    go_wp2_with fail
    try rw [← HB0.out]
    try go_wp2_with fail
    go_ret
    exact ⟨B0 + 1, rfl, by have := HB0.out; omega, HG2.out.congr fun j _ => (hr j).symm, HB2.out⟩

end Go.Proofs.YtclnadjgbpihcaaGreatDoor

/-! The document's Match, of any good expression and a short text. No condition but size. -/
namespace Go.Proofs.YtclnadjgbpihcaaGreatDoor
open Go.RowKit Go.Lib
set_option linter.unusedVariables false
set_option linter.unusedSimpArgs false

theorem endF_whole (t : RT) (l : List Nat) : endF t l (fun j => decide (j = 0)) l.length = true ↔ Lg t l := by
  rw [end_iff]
  constructor
  · rintro ⟨i, h1, h2, h3⟩
    obtain rfl : i = 0 := by simpa using h2
    have e : seg l 0 l.length = l := by unfold seg; simp
    rw [e] at h3
    exact h3
  · intro h
    refine ⟨0, Nat.zero_le _, by simp, ?_⟩
    have e : seg l 0 l.length = l := by unfold seg; simp
    rw [e]
    exact h
set_option maxRecDepth 100000 in
set_option maxHeartbeats 8000000 in
theorem refmatch_any (S : ByteArray) (hS : S.size ≤ 6) (P : Nat → Prop) (t : RT) (x : ReV) (W : World) (hg : good t) (hsz : t.sz ≤ 8000000000) (ht : RAt W P x t) :
    Calls Tryz.prog 9 #[x.val, .string S] W (GivesBool (endF t (byteL S) (fun j => decide (j = 0)) S.size) W) := by
  obtain ⟨R, hR⟩ : ∃ R, R = endF t (byteL S) (fun j => decide (j = 0)) S.size := ⟨_, rfl⟩
  rw [← hR]
  have con := fun (W' : World) (g : Nat) (hb : Below W.heap.size W W') (hr : RowT W' g (S.size + 1) (fun j => decide (j = 0))) => ends_any S hS t.dep P t x W' g (fun j => decide (j = 0)) (Nat.le_refl _) hg hsz (ht.under hb) hr
  obtain ⟨F, hF⟩ : ∃ F, F = endF t (byteL S) (fun j => decide (j = 0)) := ⟨_, rfl⟩
  rw [← hF] at hR con
  obtain ⟨M, hM⟩ : ∃ M, M = S.size := ⟨_, rfl⟩
  have hM2 := hM.symm
  rw [hM2] at hS hR con
  obtain ⟨k, a, b, e, d, p, n, cap⟩ := x
  obtain ⟨B0, hB0⟩ : ∃ B0, B0 = W.heap.size := ⟨_, rfl⟩
  obtain ⟨w1, hw1⟩ : ∃ w1 : World, w1 = W.alloc (.cells #[.int .i64 k, .int .u64 a, .int .u64 b, .int .u64 e, .int .u64 d, .slice p n cap] 28) := ⟨_, rfl⟩
  have hs1 : w1.heap.size = B0 + 1 := by rw [hw1, hB0]; simp
  obtain ⟨w2, hw2⟩ : ∃ w2 : World, w2 = w1.alloc (.cells (bcl (M + 1) fun _ => false).toArray 4) := ⟨_, rfl⟩
  have hmk : (Instr.makeSlice 47 (.int .i64 ((M : Int) + 1)) (.int .i64 ((M : Int) + 1))).run Tryz.prog w1 = .ok (.slice (some ⟨B0 + 1, 0, none⟩) (M + 1) (M + 1)) w2 := by
    have h := makeB (M + 1) (by omega) w1
    rw [hs1, ← hw2] at h
    exact h
  have hb1 : Below W.heap.size W w1 := by rw [hw1]; exact (Below.refl _ _).alloc (Nat.le_refl _) _
  have hb2 : Below W.heap.size W w2 := by rw [hw2]; exact hb1.alloc (by rw [hs1]; omega) _
  have hn1 : w1.heap[B0]? = some (.cells #[.int .i64 k, .int .u64 a, .int .u64 b, .int .u64 e, .int .u64 d, .slice p n cap] 28 (0, 0)) := by rw [hw1, hB0]; exact heap_alloc_new _ _
  have hn2 : w2.heap[B0]? = some (.cells #[.int .i64 k, .int .u64 a, .int .u64 b, .int .u64 e, .int .u64 d, .slice p n cap] 28 (0, 0)) := by rw [hw2, @heap_alloc_old _ _ _ (by rw [hs1]; omega)]; exact hn1
  have hG2 : RowT w2 (B0 + 1) (M + 1) (fun _ => false) := by unfold RowT; rw [hw2, ← hs1]; exact heap_alloc_new _ _
  obtain ⟨w3, hw3⟩ : ∃ w3 : World, w3 = w2.setCell ⟨B0 + 1, 0, none⟩ (.bool true) := ⟨_, rfl⟩
  have hG3 : RowT w3 (B0 + 1) (M + 1) (fun j => decide (j = 0)) := by
    rw [hw3]
    exact (hG2.set 0 true).congr fun j _ => by by_cases h : j = 0 <;> simp [h]
  have hb3 : Below W.heap.size W w3 := by rw [hw3]; exact hb2.setCell (by show W.heap.size ≤ B0 + 1; omega) _
  have hn3 : w3.heap[B0]? = some (.cells #[.int .i64 k, .int .u64 a, .int .u64 b, .int .u64 e, .int .u64 d, .slice p n cap] 28 (0, 0)) := by rw [hw3]; exact (heap_setCell_other w2 ⟨B0 + 1, 0, none⟩ B0 _ (by show B0 ≠ B0 + 1; omega)).trans hn2
  have c0 : w2.cell? ⟨B0 + 1, 0, none⟩ = some (.bool false) := hG2.cell (by omega)
  have z0 : w2.frozen? ⟨B0 + 1, 0, none⟩ = false := hG2.cold 0
  have zz : (w2.setCell ⟨B0 + 1, 0, none⟩ (.bool true)) = w3 := hw3.symm
  have c3 := con w3 (B0 + 1) hb3 hG3
  obtain ⟨k0, k1, k2, k3, k4, k5⟩ := six_at hn3
  have hn3' := hn3
  rw [hB0] at hn3'
  obtain ⟨i0, i1, i2, i3, i4, i5⟩ := six_at hn3'
  obtain ⟨j0, j1, j2, j3, j4, j5⟩ := six_at hn3'
  clear hn3'
  rw [hw3] at i0 i1 i2 i3 i4 i5 k0 k1 k2 k3 k4 k5
  have HB3 := Lib.hid hb3
  have HR := Lib.hid hR
  have HW1 := Lib.hid hw1
  have HW3 := Lib.hid hw3
  have HB0 := Lib.hid hB0
  have HMS := Lib.hid hM
  rw [hw1] at hmk
  clear con hG3 hb3 hn3 hb1 hb2 hn1 hn2 hG2 hs1 hw1 hw2 hw3 ht hg hsz hF hM hR hB0
  unfold ReV.val at c3 ⊢
  simp only [] at c3 ⊢
  go_enter Tryz.func9, Tryz.ntmps9
  go_wp2_with fail
  try rw [← HW3.out]
  ((with_reducible refine c3.mono ?_))
  rintro _ w5 ⟨q5, rfl, hq5, hrow5, hb5⟩
  have cq := hrow5.cell (j := M) (by omega)
  have HB5 := Lib.hid (HB3.out.trans (hb5.mono HB3.out.size))
  clear hrow5 hb5
  go_wp2
  go_ret
  exact ⟨by rw [show R = F M from HR.out]; rfl, HB5.out⟩

end Go.Proofs.YtclnadjgbpihcaaGreatDoor
