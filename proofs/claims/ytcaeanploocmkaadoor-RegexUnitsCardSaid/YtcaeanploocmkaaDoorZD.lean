/- What a law owes behind its walk, where its arguments are read by value. No condition. What a law of layer 7 owes besides its walk: its arguments, opened and handed back. No condition. What Empty is in a Cat, None in a Cat and in an Either, and a Star's Star: of trees. No condition. The document's Same, of two expressions that stand for one tree: true. No condition. An append onto a row of one's own: the elder slice is still one's own too, as it was. Two more expressions behind. No condition. -/
import Derived.Test.YtcaeanploocmkaaDoorRows
import Derived.Test.YtcaeanploocmkaaDoorBase
import Derived.ProofKit
import Derived.OpenShut
import Derived.Test.YtcaeanploocmkaaDoorCards
import Derived.Test.YtcaeanploocmkaaDoorTie
import Derived.Test.YtcaeanploocmkaaDoorZA
import Derived.Laws.IdiomArrays
import Derived.LaidMore
import Derived.Lay
import Derived.Carry
import Derived.ChangeSlices
import Derived.ChangeMaps5
import Derived.SevenTiedAt
import Derived.Stop.Joined
import Derived.LaidSub
import Derived.Lib.LaidTab
import Derived.Test.YtcaeanploocmkaaDoorReMath
import Derived.Test.YtcaeanploocmkaaDoorForm
import Derived.Test.YtcaeanploocmkaaDoorReMem
import Derived.StillTailTactics
import Derived.Test.YtcaeanploocmkaaDoorZA
import Derived.Maps.AppendAt
/-! What a law owes behind its walk, where its arguments are read by value. No condition. -/
namespace Go.Proofs.YtcaeanploocmkaaDoor
open Go.ChangeShapes Go.WideShapes Go.ChangeAt Go.RowKit

theorem noKnob : ownKnob Tryd.prog.godebug = none := by kernel_rfl

section
variable {H : Type} {enc : TypeId × Value → H}

theorem owed_below {P : Program} {f : Func} {s : ChangeSpec} {fresh handsOn : Bool} {W W' : World} {args : Array Value} {v : Value} {ds gs : List (DataW H)} {before pa pv : List MemPlace}
    (hW : DataW.Whole enc P f.params.toList s.vars false W args.toList ds gs before)
    (hres : ∀ (b : Nat) (sp : Nat → Bool) (hd : Bool), DataW.TrodAll enc P W' b sp hd f.resultTypes.toList (v.resultList f.resultTypes.size) (s.fn H (ds ++ gs)).results [])
    (hargs : ∀ sp : Nat → Bool, DataW.TrodAll enc P W' 0 sp true f.params.toList args.toList (s.fn H (ds ++ gs)).args pa)
    (hvars : ∀ sp : Nat → Bool, DataW.TrodVars enc P W' sp s.vars (s.fn H (ds ++ gs)).vars pv)
    (hps : before = pa ++ pv) (hb : Below W.heap.size W W') :
    s.post enc P f false fresh handsOn false W args v W' := by
  refine ⟨ds, gs, before, [], pa, pv, hW, hres _ _ _, hargs _, hvars _, World.keptBut_mono (fun p hp => ⟨hp, ?_⟩) (hb.frame _), fun h => by cases h⟩
  rw [hps, List.mem_append] at hp
  exact Or.inr hp
end

end Go.Proofs.YtcaeanploocmkaaDoor

/-! What a law of layer 7 owes besides its walk: its arguments, opened and handed back. No condition. -/
namespace Go.Proofs.YtcaeanploocmkaaDoor
open Go.ChangeShapes Go.WideShapes Go.ChangeAt Go.RowKit Go.Lib
set_option linter.unusedVariables false
set_option linter.unusedSimpArgs false

theorem laidOutP : laidOutB Tryd.prog = true := by kernel_rfl
theorem cellsByte : Tryd.prog.cellsOf 5 = 1 := by kernel_rfl

theorem bounds_u8 {x : Int} (h : (Lit.int .u8 x).wf = true) : 0 ≤ x ∧ x ≤ 255 := by simpa [Lit.wf, IntKind.min, IntKind.max, IntKind.signed, IntKind.bits] using h
theorem bounds_u16 {x : Int} (h : (Lit.int .u16 x).wf = true) : 0 ≤ x ∧ x ≤ 65535 := by simpa [Lit.wf, IntKind.min, IntKind.max, IntKind.signed, IntKind.bits] using h

/-- A slice of bytes that reads so. -/
def BytesAt (W : World) (v : Value) (zs : List Int) : Prop :=
  ∃ a cap, v = .slice a zs.length cap ∧ zs.length ≤ cap ∧ zs.length ≤ maxLen ∧ (∀ z ∈ zs, 0 ≤ z ∧ z ≤ 255) ∧
    (0 < zs.length → ∃ b off, a = some ⟨b, off, none⟩ ∧ b < W.heap.size ∧ ∀ (i : Nat) (z : Int), zs[i]? = some z → W.cell? ⟨b, off + i, none⟩ = some (.int .u8 z))

theorem BytesAt.below {W W' : World} {v : Value} {zs : List Int} (h : BytesAt W v zs) (hb : Below W.heap.size W W') : BytesAt W' v zs := by
  obtain ⟨a, cap, h1, h2, h3, h4, h5⟩ := h
  refine ⟨a, cap, h1, h2, h3, h4, fun hn => ?_⟩
  obtain ⟨b, off, ha, hlt, hc⟩ := h5 hn
  exact ⟨b, off, ha, Nat.lt_of_lt_of_le hlt hb.size, fun i z hz => (hb.cell (p := ⟨b, off + i, none⟩) hlt).trans (hc i z hz)⟩

theorem bounds_i64 {x : Int} (h : (Lit.int .i64 x).wf = true) : -9223372036854775808 ≤ x ∧ x ≤ 9223372036854775807 := by simpa [Lit.wf, IntKind.min, IntKind.max, IntKind.signed, IntKind.bits] using h

theorem tabs_of_laid {l : List (String × DataW Unit)} {W : World} (h : laidMetH Tryd.prog l W) (hp : laidMetH Tryd.prog l W = laidMet Tryd.prog l W)
    (e1 : l.filter (fun x => x.1 == "math/bits.deBruijn64tab") = [("math/bits.deBruijn64tab", Lib.tabData .u8 bruijnTab)])
    (e2 : l.filter (fun x => x.1 == "internal/strconv.uint64pow10") = [("internal/strconv.uint64pow10", Lib.tabData .u64 Lib.pow10Tab)]) : Tab1 W := by
  rw [hp] at h
  have h1 := laidMet.filter (fun x => x.1 == "math/bits.deBruijn64tab") h
  have h2 := laidMet.filter (fun x => x.1 == "internal/strconv.uint64pow10") h
  rw [e1] at h1
  rw [e2] at h2
  have t1 := Lib.tabIs_of_head (g := 1) (t := 123) (e := 5) (n := 64) (by kernel_rfl) (by kernel_rfl) Tryd.underlying123 Tryd.underlying5 (by kernel_rfl) (by kernel_rfl) h1
  have t2 := Lib.tabIs_of_head (g := 2) (t := 129) (e := 23) (n := 20) (by kernel_rfl) (by kernel_rfl) Tryd.underlying129 Tryd.underlying23 (by kernel_rfl) (by kernel_rfl) h2
  exact ⟨t2, t1⟩

theorem BytesAt.low {W W' : World} {a : Option Addr} {cap : Nat} {zs : List Int} {n : Nat} (h : BytesAt W (.slice a n cap) zs) (hb : Below W.heap.size W W') : n = zs.length ∧ BytesLow W' W'.heap.size (.slice a zs.length cap) zs := by
  obtain ⟨a', cap', h1, h2, h3, h4, h5⟩ := h
  cases h1
  refine ⟨rfl, a, cap, rfl, h2, h3, h4, fun hn => ?_⟩
  obtain ⟨b, off, ha, hlt, hc⟩ := h5 hn
  exact ⟨b, off, ha, Nat.lt_of_lt_of_le hlt hb.size, fun i z hz => (hb.cell (p := ⟨b, off + i, none⟩) hlt).trans (hc i z hz)⟩

theorem cellsWord : Tryd.prog.cellsOf 23 = 1 := by kernel_rfl
theorem cellsSet : Tryd.prog.cellsOf 25 = 4 := by kernel_rfl

theorem list4 {α : Type} (l : List α) (h : (⟨l⟩ : Array α).size = 4) : ∃ a b c d, l = [a, b, c, d] := by
  match l, h with
  | [a, b, c, d], _ => exact ⟨a, b, c, d, rfl⟩

section
variable {H : Type} {enc : TypeId × Value → H}

/-- The datum of a set. -/
def setD (a0 a1 a2 a3 : Int) : DataW H := .agg [.lit (.int .u64 a0), .lit (.int .u64 a1), .lit (.int .u64 a2), .lit (.int .u64 a3)]

theorem wfu64r {x : Int} (h : (Lit.int .u64 x).wf = true) : 0 ≤ x ∧ x ≤ 18446744073709551615 := by simpa [Lit.wf, IntKind.min, IntKind.max, IntKind.signed, IntKind.bits] using h

set_option maxRecDepth 100000 in
theorem open_set {W : World} {base b0 : Nat} {sp : Nat → Bool} {v : Value} {d : DataW H} {p : List MemPlace} (hval : Value.okWide Tryd.prog W .any base 25 v) (h : DataW.Trod enc Tryd.prog W b0 sp true 25 v d p) :
    ∃ a0 a1 a2 a3 : Int, v = .agg #[.int .u64 a0, .int .u64 a1, .int .u64 a2, .int .u64 a3] ∧ d = setD a0 a1 a2 a3 ∧ p = [] ∧ ((Lit.int .u64 a0).wf = true ∧ (Lit.int .u64 a1).wf = true ∧ (Lit.int .u64 a2).wf = true ∧ (Lit.int .u64 a3).wf = true) ∧ IsSet a0 a1 a2 a3 (memb a0 a1 a2 a3) := by
  obtain ⟨cs, rfl, hsz, _⟩ : ∃ cs, v = .agg cs ∧ cs.size = Tryd.prog.cellsOf 25 ∧ Row.okWide Tryd.prog W .any base 25 cs := by
    simpa [Value.okWide, Tryd.underlying25] using hval
  rw [cellsSet] at hsz
  obtain ⟨l⟩ := cs
  obtain ⟨c0, c1, c2, c3, rfl⟩ := list4 l hsz
  obtain ⟨fuel, hf⟩ := h
  obtain ⟨y0, y1, y2, y3, m, hx, hy0, hy1, hy2, hy3⟩ := trod_array4 Tryd.underlying25 cellsWord hf
  obtain ⟨x0, e0, rfl, w0⟩ := DataW.trod_int Tryd.underlying23 hy0
  obtain ⟨x1, e1, rfl, w1⟩ := DataW.trod_int Tryd.underlying23 hy1
  obtain ⟨x2, e2, rfl, w2⟩ := DataW.trod_int Tryd.underlying23 hy2
  obtain ⟨x3, e3, rfl, w3⟩ := DataW.trod_int Tryd.underlying23 hy3
  simp at e0 e1 e2 e3
  subst e0 e1 e2 e3
  simp only [Prod.mk.injEq] at hx
  obtain ⟨rfl, rfl⟩ := hx
  exact ⟨x0, x1, x2, x3, rfl, rfl, rfl, ⟨w0, w1, w2, w3⟩, IsSet.of _ _ _ _ (wfu64r w0) (wfu64r w1) (wfu64r w2) (wfu64r w3)⟩

set_option maxRecDepth 100000 in
theorem shut_set {W : World} {b0 : Nat} {sp : Nat → Bool} {hd : Bool} {a0 a1 a2 a3 : Int} (h : (Lit.int .u64 a0).wf = true ∧ (Lit.int .u64 a1).wf = true ∧ (Lit.int .u64 a2).wf = true ∧ (Lit.int .u64 a3).wf = true) :
    DataW.Trod enc Tryd.prog W b0 sp hd 25 (.agg #[.int .u64 a0, .int .u64 a1, .int .u64 a2, .int .u64 a3]) (setD a0 a1 a2 a3) [] := by
  obtain ⟨w0, w1, w2, w3⟩ := h
  exact ⟨2, by simp [setD, DataW.trod, Value.cells, Tryd.underlying25, Tryd.underlying23, cellsSet, cellsWord, w0, w1, w2, w3, show List.range 4 = [0, 1, 2, 3] from rfl]⟩


set_option maxRecDepth 100000 in
theorem open_bytes {W : World} {base : Nat} {v : Value} {d : DataW H} {p : List MemPlace} (hval : Value.okWide Tryd.prog W .any base 34 v) (h : DataW.Trod enc Tryd.prog W 0 (fun _ => true) true 34 v d p) :
    ∃ zs, BytesAt W v zs := by
  obtain ⟨a0, len, cap, rfl⟩ := okWide_slice Tryd.underlying34 hval
  obtain ⟨fuel, hf⟩ := h
  rcases open_ints Tryd.underlying34 Tryd.underlying5 cellsByte hf with ⟨hcs, hx⟩ | ⟨a, len', cap', zs, hcs, _, hl, hm, hz, hx, hc, hw⟩
  · simp [Value.cells] at hcs
    obtain ⟨rfl, rfl, rfl⟩ := hcs
    exact ⟨[], none, 0, rfl, Nat.le_refl _, Nat.zero_le _, fun z hz => by simp at hz, fun h => by simp at h⟩
  · simp [Value.cells] at hcs
    obtain ⟨rfl, rfl, rfl⟩ := hcs
    simp only [if_true] at hz

    have hlen : (zs.take len).length = len := by rw [List.length_take]; omega
    refine ⟨zs.take len, some a, cap, by rw [hlen], by omega, Nat.le_trans (by omega : (zs.take len).length ≤ cap) hm, fun z hz => bounds_u8 (hw z (List.mem_of_mem_take hz)), fun hn => ?_⟩
    obtain ⟨b, off, spot⟩ := a
    have h0 := hc 0 (by omega)
    have hspot : spot = none := by simpa [Addr.add] using World.cell?_spot h0
    subst hspot
    have hlt : b < W.heap.size := by
      have := World.block_lt_of_cell? W _ h0
      simpa [Addr.add] using this
    refine ⟨b, off, rfl, hlt, fun i z hzi => ?_⟩
    have hi : i < len := by
      have := (List.getElem?_eq_some_iff.1 hzi).1
      omega
    have hci := hc i (by omega)
    rw [List.getElem?_take_of_lt hi] at hzi
    have e : (⟨b, off, none⟩ : Addr).add i = ⟨b, off + i, none⟩ := by cases i <;> simp [Addr.add]
    rw [e, List.getD_eq_getElem?_getD, hzi] at hci
    exact hci

/-- What a law owes behind its walk, where an argument lies in memory. -/
theorem post_of_old {P : Program} {f : Func} {s : ChangeSpec} {fresh handsOn : Bool} {W W' : World} {args : Array Value} {v : Value} {ds gs : List (DataW H)} {before pa pv : List MemPlace}
    (hW : DataW.Whole enc P f.params.toList s.vars false W args.toList ds gs before)
    (hres : ∀ (b : Nat) (sp : Nat → Bool) (hd : Bool), DataW.TrodAll enc P W' b sp hd f.resultTypes.toList (v.resultList f.resultTypes.size) (s.fn H (ds ++ gs)).results [])
    (hargs : DataW.TrodAll enc P W' 0 (fun b => decide (b < W.heap.size)) true f.params.toList args.toList (s.fn H (ds ++ gs)).args pa)
    (hvars : ∀ sp : Nat → Bool, DataW.TrodVars enc P W' sp s.vars (s.fn H (ds ++ gs)).vars pv)
    (hps : before = pa ++ pv) (hb : Below W.heap.size W W') :
    s.post enc P f false fresh handsOn false W args v W' := by
  refine ⟨ds, gs, before, [], pa, pv, hW, hres _ _ _, hargs, hvars _, World.keptBut_mono (fun p hp => ⟨hp, ?_⟩) (hb.frame _), fun h => by cases h⟩
  rw [hps, List.mem_append] at hp
  exact Or.inr hp
end

end Go.Proofs.YtcaeanploocmkaaDoor

/-! What Empty is in a Cat, None in a Cat and in an Either, and a Star's Star: of trees. No condition. -/
namespace Go.Proofs.YtcaeanploocmkaaDoor
open Go.RowKit Go.Lib
set_option linter.unusedVariables false

/-- Ahead of each one more. -/
def between (e : RT) (l : List RT) : List RT := l.flatMap fun t => [e, t]
theorem between_nil (e : RT) : between e [] = [] := rfl
theorem between_cons (e t : RT) (l : List RT) : between e (t :: l) = e :: t :: between e l := rfl
theorem between_app (e : RT) (l m : List RT) : between e (l ++ m) = between e l ++ between e m := by unfold between; exact List.flatMap_append
theorem between_take (e : RT) (l : List RT) (i : Nat) (u : RT) (h : l[i]? = some u) : between e (l.take (i + 1)) = between e (l.take i) ++ [e, u] := by
  rw [List.take_add_one, h, between_app]
  rfl
theorem between_len (e : RT) (l : List RT) : (between e l).length = 2 * l.length := by
  induction l with
  | nil => rfl
  | cons t l ih => rw [between_cons]; simp only [List.length_cons, ih]; omega
theorem flat_app (k : Int) (l m : List RT) : flatM k (l ++ m) = flatM k l ++ flatM k m := by unfold flatM; exact List.flatMap_append
theorem flat_cons (k : Int) (t : RT) (l : List RT) : flatM k (t :: l) = (if t.kind = k then t.kids else [t]) ++ flatM k l := rfl
theorem flat_one {k : Int} {t : RT} (h : t.kind ≠ k) : flatM k [t] = [t] := by rw [flat_cons, if_neg h]; simp [flatM]
/-- What is left of it does not know whether they were there. -/
theorem flat_filter (k : Int) (e : RT) (h : e.kind ≠ k) (q : RT → Bool) (he : q e = false) (l : List RT) : (flatM k (between e l)).filter q = (flatM k l).filter q := by
  induction l with
  | nil => rfl
  | cons t l ih =>
    rw [between_cons, flat_cons, if_neg h, flat_cons, flat_cons]
    simp only [List.filter_append, List.filter_cons, he, ih, List.filter_nil]
    simp
theorem flat_any (k : Int) (e : RT) (h : e.kind ≠ k) (q : RT → Bool) (he : q e = false) (l : List RT) : (flatM k (between e l)).any q = (flatM k l).any q := by
  induction l with
  | nil => rfl
  | cons t l ih =>
    rw [between_cons, flat_cons, if_neg h, flat_cons, flat_cons]
    simp only [List.any_append, List.any_cons, he, ih, List.any_nil]
    simp
theorem cat_empties (l : List RT) : catM (between emptyM l ++ [emptyM]) = catM l := by
  have h : emptyM.kind ≠ 3 := by decide
  unfold catM
  rw [flat_app, flat_one h, List.any_append, List.filter_append, flat_any 3 emptyM h _ (by decide), flat_filter 3 emptyM h _ (by decide)]
  have e1 : [emptyM].any (fun r => r.kind == 0) = false := by decide
  have e2 : [emptyM].filter (fun r => !(r.kind == 1)) = [] := by decide
  rw [e1, e2, Bool.or_false, List.append_nil]
theorem cat_none (l : List RT) : catM (l ++ [noneM]) = noneM := by
  have h : noneM.kind ≠ 3 := by decide
  unfold catM
  rw [flat_app, flat_one h, if_pos]
  rw [List.any_append]
  have e1 : [noneM].any (fun r => r.kind == 0) = true := by decide
  rw [e1, Bool.or_true]
theorem either_nones (l : List RT) : eitherM (between noneM l ++ [noneM]) = eitherM l := by
  have h : noneM.kind ≠ 4 := by decide
  have e0 : flatM 4 (between noneM l ++ [noneM]) = flatM 4 (between noneM l) ++ [noneM] := by rw [flat_app, flat_one h]
  have e1 : unionM (flatM 4 (between noneM l ++ [noneM])) = unionM (flatM 4 l) := by
    unfold unionM
    refine of_congr fun b _ => ?_
    rw [e0, List.any_append, flat_any 4 noneM h _ (by rfl)]
    have : [noneM].any (fun r => r.kind == 2 && r.set.mem b) = false := by rfl
    rw [this, Bool.or_false]
  have e2 : othersM (flatM 4 (between noneM l ++ [noneM])) = othersM (flatM 4 l) := by
    unfold othersM
    rw [e0, List.filter_append, flat_filter 4 noneM h _ (by decide)]
    have : [noneM].filter (fun r => !(r.kind == 0) && !(r.kind == 2)) = [] := by decide
    rw [this, List.append_nil]
  unfold eitherM byteM
  rw [e1, e2]
theorem star_star (r : RT) : starM (starM r) = starM r := by
  unfold starM
  by_cases h : r.kind = 0 ∨ r.kind = 1
  · rw [if_pos h, if_pos (.inr rfl)]
  · rw [if_neg h]
    by_cases h5 : r.kind = 5
    · rw [if_pos h5, if_neg h, if_pos h5]
    · rw [if_neg h5]
      exact (if_neg (show ¬ ((5 : Int) = 0 ∨ (5 : Int) = 1) by decide)).trans (if_pos rfl)
theorem between_mem {e x : RT} {l : List RT} (h : x ∈ between e l) : x = e ∨ x ∈ l := by
  unfold between at h
  obtain ⟨t, ht, hx⟩ := List.mem_flatMap.1 h
  rcases List.mem_cons.1 hx with rfl | hx
  · exact .inl rfl
  · exact .inr ((List.mem_singleton.1 hx) ▸ ht)

end Go.Proofs.YtcaeanploocmkaaDoor

/-! The document's Same, of two expressions that stand for one tree: true. No condition. -/
namespace Go.Proofs.YtcaeanploocmkaaDoor
open Go.RowKit Go.Lib
set_option linter.unusedVariables false
set_option linter.unusedSimpArgs false

set_option maxRecDepth 100000 in
set_option maxHeartbeats 8000000 in
theorem same_any {P P' : Nat → Prop} : ∀ (N : Nat) (t : RT) (x y : ReV) (W : World), t.dep ≤ N → t.sz ≤ 1000000000 → RAt W P x t → RAt W P' y t → Calls Tryd.prog 11 #[x.val, y.val] W (GivesBool true W) := by
  intro N
  induction N with
  | zero => intro t x y W h; have := dep_pos t; omega
  | succ N ih =>
    intro t x y W hdep hsz ht ht'
    obtain ⟨vs, et, hok, hk⟩ := ht.kids
    obtain ⟨us, et', _, hk'⟩ := ht'.kids
    have hkd : ∀ u ∈ t.kids, u.dep ≤ N := by
      obtain ⟨k', s', l'⟩ := t
      exact dep_mk.1 hdep
    have hks : (t.kids.map RT.sz).sum < t.sz := by
      obtain ⟨k', s', l'⟩ := t
      rw [sz_mk]
      show (l'.map RT.sz).sum < _
      omega
    have e1 := et.symm.trans et'
    obtain ⟨L, hL⟩ : ∃ L, L = t.kids := ⟨_, rfl⟩
    rw [← hL] at hk hk' hkd e1 hks
    obtain ⟨k, a, b, c, d, p, n, cap⟩ := x
    obtain ⟨k2, a2, b2, c2, d2, p2, n2, cap2⟩ := y
    simp only [ReV.w4] at hok hk hk' e1
    injection e1 with e2 e3
    injection e3 with e4 e5 e6 e7
    subst e2 e4 e5 e6 e7
    have hnum := hk.num
    have hnum' := hk'.num
    obtain rfl : n = n2 := hnum.trans hnum'.symm
    obtain ⟨B0, hB0⟩ : ∃ B0, B0 = W.heap.size := ⟨_, rfl⟩
    obtain ⟨w1, hw1⟩ : ∃ w1 : World, w1 = W.alloc (.cells #[.int .i64 k, .int .u64 a, .int .u64 b, .int .u64 c, .int .u64 d, .slice p n cap] 31) := ⟨_, rfl⟩
    have hb1 : Below W.heap.size W w1 := by rw [hw1]; exact (Below.refl _ _).alloc (Nat.le_refl _) _
    have hn1 : w1.heap[B0]? = some (.cells #[.int .i64 k, .int .u64 a, .int .u64 b, .int .u64 c, .int .u64 d, .slice p n cap] 31 (0, 0)) := by rw [hw1, hB0]; exact heap_alloc_new _ _
    have hB1 : B0 < w1.heap.size := (Array.getElem?_eq_some_iff.1 hn1).1
    obtain ⟨B2, hB2⟩ : ∃ B2, B2 = w1.heap.size := ⟨_, rfl⟩
    obtain ⟨w2, hw2⟩ : ∃ w2 : World, w2 = w1.alloc (.cells #[.int .i64 k, .int .u64 a, .int .u64 b, .int .u64 c, .int .u64 d, .slice p2 n cap2] 31) := ⟨_, rfl⟩
    have hb2 : Below w1.heap.size w1 w2 := by rw [hw2]; exact (Below.refl _ _).alloc (Nat.le_refl _) _
    have hn2 : w2.heap[B2]? = some (.cells #[.int .i64 k, .int .u64 a, .int .u64 b, .int .u64 c, .int .u64 d, .slice p2 n cap2] 31 (0, 0)) := by rw [hw2, hB2]; exact heap_alloc_new _ _
    have hn1' : w2.heap[B0]? = some (.cells #[.int .i64 k, .int .u64 a, .int .u64 b, .int .u64 c, .int .u64 d, .slice p n cap] 31 (0, 0)) := (hb2.block B0 hB1).trans hn1
    have hB02 : B0 < w2.heap.size := (Array.getElem?_eq_some_iff.1 hn1').1
    have hB22 : B2 < w2.heap.size := (Array.getElem?_eq_some_iff.1 hn2).1
    have hbb : Below W.heap.size W w2 := hb1.trans (hb2.mono hb1.size)
    have HK := Lib.hid (hk.under hbb)
    have HK' := Lib.hid (hk'.under hbb)
    have HB1 := Lib.hid hbb
    have HN1 := Lib.hid hn1'
    have HN2 := Lib.hid hn2
    have HL1 := Lib.hid hB02
    have HL2 := Lib.hid hB22
    have HW1 := Lib.hid hw1
    have HW2 := Lib.hid hw2
    have HB0 := Lib.hid hB0
    have hB3 : B2 = B0 + 1 := by rw [hB2, hB0, hw1]; exact Array.size_push _
    have HB2 := Lib.hid hB3
    have hnb : n ≤ 1000000000 := by
      have : ∀ l : List RT, l.length ≤ (l.map RT.sz).sum := by
        intro l
        induction l with
        | nil => simp
        | cons a l ih => have := sz_pos a; simp only [List.length_cons, List.map_cons, List.sum_cons]; omega
      have := this L
      omega
    have HKS : Hid ((L.map RT.sz).sum ≤ 1000000000) := by unfold Hid; omega
    have HKD := Lib.hid hkd
    have HNU := Lib.hid hnum
    have HIH := Lib.hid ih
    have hEq : ∀ w : World, (Op.equalIn 10000 25 (.agg #[.int .u64 a, .int .u64 b, .int .u64 c, .int .u64 d]) (.agg #[.int .u64 a, .int .u64 b, .int .u64 c, .int .u64 d])).run Tryd.prog w = .ok true w := fun w => by rw [eql_set, w4_eq]; simp
    have k0 : w2.cell? ⟨B0, 0, none⟩ = some (.int .i64 k) := by simp [World.cell?, hn1']
    have k1 : w2.cell? ⟨B0, 1, none⟩ = some (.int .u64 a) := by simp [World.cell?, hn1']
    have k2 : w2.cell? ⟨B0, 2, none⟩ = some (.int .u64 b) := by simp [World.cell?, hn1']
    have k3 : w2.cell? ⟨B0, 3, none⟩ = some (.int .u64 c) := by simp [World.cell?, hn1']
    have k4 : w2.cell? ⟨B0, 4, none⟩ = some (.int .u64 d) := by simp [World.cell?, hn1']
    have k5 : w2.cell? ⟨B0, 5, none⟩ = some (.slice p n cap) := by simp [World.cell?, hn1']
    have q0 : w2.cell? ⟨B2, 0, none⟩ = some (.int .i64 k) := by simp [World.cell?, hn2]
    have q1 : w2.cell? ⟨B2, 1, none⟩ = some (.int .u64 a) := by simp [World.cell?, hn2]
    have q2 : w2.cell? ⟨B2, 2, none⟩ = some (.int .u64 b) := by simp [World.cell?, hn2]
    have q3 : w2.cell? ⟨B2, 3, none⟩ = some (.int .u64 c) := by simp [World.cell?, hn2]
    have q4 : w2.cell? ⟨B2, 4, none⟩ = some (.int .u64 d) := by simp [World.cell?, hn2]
    have q5 : w2.cell? ⟨B2, 5, none⟩ = some (.slice p2 n cap2) := by simp [World.cell?, hn2]
    have ek : (k != k) = false := by simp
    have en : ((n : Int) != (n : Int)) = false := by simp
    clear et et' hok hk hk' hnum hnum' hL ht ht' hdep hsz hks ih hw1 hw2 hb1 hb2 hbb hn1 hn2 hn1' hB0 hB1 hB2 hB3 hB02 hB22 hkd
    unfold ReV.val
    simp only []
    go_enter Tryd.func11, Tryd.ntmps11
    go_wp2_with fail
    rw [← HW1.out, ← HB0.out, ← HB2.out, ← HW2.out]
    go_wp2_with fail
    clear k0 k1 k2 k3 k4 k5 q0 q1 q2 q3 q4 q5
    go_loopg [5] n (fun gk vi wr => ∃ i : Nat, vi = .int .i64 (i : Int) ∧ i ≤ n ∧ n - i ≤ gk ∧ Hid (Below w2.heap.size w2 wr))
    case atStart => exact ⟨0, rfl, by omega, by omega, Below.refl _ _⟩
    case round =>
      obtain ⟨i, rfl, hi, hgk, HB⟩ := hrel
      have k5 : wr.cell? ⟨B0, 5, none⟩ = some (.slice p n cap) := by simp [World.cell?, (HB.out.block B0 HL1.out).trans HN1.out]
      have q5 : wr.cell? ⟨B2, 5, none⟩ = some (.slice p2 n cap2) := by simp [World.cell?, (HB.out.block B2 HL2.out).trans HN2.out]
      by_cases hlt : i < n
      · have hltz : decide ((i : Int) < (n : Int)) = true := decide_eq_true (by omega)
        obtain ⟨g, off, rfl⟩ := HK.out.rowv.some_of hlt
        obtain ⟨g', off', rfl⟩ := HK'.out.rowv.some_of hlt
        have hil : i < L.length := by rw [← HNU.out]; exact hlt
        obtain ⟨y, hy⟩ : ∃ y, vs[i]? = some y := ⟨_, List.getElem?_eq_getElem (by rw [HK.out.len]; exact hil)⟩
        obtain ⟨z, hz⟩ : ∃ z, us[i]? = some z := ⟨_, List.getElem?_eq_getElem (by rw [HK'.out.len]; exact hil)⟩
        obtain ⟨u, hu⟩ : ∃ u, L[i]? = some u := ⟨_, List.getElem?_eq_getElem hil⟩
        have hpl := (HK.out.place hy).under HB.out
        have hpl' := (HK'.out.place hz).under HB.out
        have hra := (HK.out.each i y u hy hu).under HB.out
        have hra' := (HK'.out.each i z u hz hu).under HB.out
        have CALL : Hid (∀ W1, Below wr.heap.size wr W1 → Calls Tryd.prog 11 #[y.val, z.val] W1 (GivesBool true W1)) := fun W1 hb =>
          HIH.out u y z W1 (HKD.out u (List.mem_of_getElem? hu)) (by have := sum_mem (List.mem_of_getElem? hu); have := HKS.out; omega) (hra.under hb) (hra'.under hb)
        obtain ⟨y0, y1, y2, y3, y4, y5, y6, y7⟩ := y
        obtain ⟨z0, z1, z2, z3, z4, z5, z6, z7⟩ := z
        obtain ⟨e0, e1, e2, e3, e4, e5⟩ := hpl.six
        obtain ⟨f0, f1, f2, f3, f4, f5⟩ := hpl'.six
        simp only at e0 e1 e2 e3 e4 e5 f0 f1 f2 f3 f4 f5
        unfold ReV.val at CALL
        simp only at CALL
        clear hpl hpl' hra hra' hy hz hu hil
        go_wp2_with fail
        go_still_tail 10, (by kernel_rfl)
        change wpList _ _ _ _ _ wr.drew
        go_wp2_with fail
        refine (CALL.out _ ((Below.refl _ _).drew)).mono ?_
        rintro e w3 ⟨rfl, hb3⟩
        have HB3 : Hid (Below w2.heap.size w2 w3) := (below_drawn HB.out 1).trans (hb3.mono HB.out.size)
        clear hb3 k5 q5 e0 e1 e2 e3 e4 e5 f0 f1 f2 f3 f4 f5
        go_wp2_with fail
        go_roundg (n - (i + 1))
        case measure => omega
        case rel => exact ⟨i + 1, by go_num, by omega, Nat.le_refl _, HB3⟩
      · have hltz : decide ((i : Int) < (n : Int)) = false := decide_eq_false (by omega)
        go_wp2_with fail
        go_ret
        exact ⟨rfl, HB1.out.trans (HB.out.mono HB1.out.size)⟩

end Go.Proofs.YtcaeanploocmkaaDoor

/-! An append onto a row of one's own: the elder slice is still one's own too, as it was. Two more expressions behind. No condition. -/
namespace Go.Proofs.YtcaeanploocmkaaDoor
open Go.RowKit Go.Lib
set_option linter.unusedVariables false
set_option linter.unusedSimpArgs false

theorem run_append_own_keep {P : Program} (w : World) (base : Nat) (t ty e : TypeId) (i : TypeInfo) (z : Value) (size bytes : Nat) (ht : P.underlying t = some (.slice e)) (hi : P.info? e = some i) (hz : i.zero = some z)
    (hsize : i.size = size) (hby : i.bytes = bytes) (hzs : z.cells.size = size) (hsz : 0 < size)
    (v : Value) (n : Nat) (xs : List Value) (hown : w.ownsRow base e size v n xs)
    (a : Addr) (m c : Nat) (news : List Value) (hl : news.length = m * size) (hnews : ∀ j u, news[j]? = some u → w.cell? (a.add j) = some u) (h1 : ∀ u ∈ news, u.oneCell' = true)
    (h63 : n + m ≤ maxLen) (hbytes : (n + m) * bytes ≤ 140737488355328) (hbase : base ≤ w.heap.size) :
    ∃ v' w', (Builtin.append_ #[t, t] ty #[v, .slice (some a) m c]).run P w = .ok v' w' ∧ w'.ownsRow base e size v' (n + m) (xs ++ news) ∧ w.grownBy w' v.ownBlock ∧
      (v'.ownBlock = v.ownBlock ∨ v'.ownBlock = some w.heap.size) ∧ w'.ownsRow base e size v n xs := by
  obtain ⟨v', w', hr, h2, h3, _, h5⟩ := run_append_own_at (P := P) w base t ty e i z size bytes ht hi hz hsize hby hzs hsz v n xs hown a m c news hl hnews h1 h63 hbytes hbase
  refine ⟨v', w', hr, h2, h3, h5, ?_⟩
  have hsmall : n + m ≤ 9223372036854775807 := by simp only [maxLen] at h63; omega
  rcases hown.2 with ⟨rfl, rfl⟩ | ⟨g, cap, cur, rfl, hbg, hg, hnc, hcm, hcs, htake⟩
  · have hx : xs = [] := List.eq_nil_of_length_eq_zero (by simpa using hown.1)
    subst hx
    exact World.ownsRow_nil w' base e size
  · by_cases hroom : n + m ≤ cap
    · have hfit : n * i.size + news.length ≤ cur.size := by rw [hl, hcs, hsize, ← Nat.add_mul]; exact Nat.mul_le_mul_right _ hroom
      have hr' := run_append_room (P := P) w t ty e i ht hi g n cap cur hg a m c news (by rw [hl, hsize]) hnews h1 hroom hfit
      have ev : v' = .slice (some ⟨g, 0, none⟩) (n + m) cap := by
        have := hr.symm.trans hr'
        injection this
      rw [ev] at h2
      refine ⟨hown.1, .inr ?_⟩
      rcases h2.2 with ⟨h, _⟩ | ⟨g', cap', cur', h, hb', hg', hn', hm', hs', ht'⟩
      · cases h
      · injection h with ha _ hc
        injection ha with ha
        injection ha with ha
        subst ha hc
        refine ⟨_, cap, cur', rfl, hb', hg', hnc, hm', hs', ?_⟩
        have e1 := congrArg (List.take (n * size)) ht'
        rw [List.take_take, Nat.min_eq_left (Nat.mul_le_mul_right _ (Nat.le_add_right n m))] at e1
        rw [e1, ← hown.1]
        exact List.take_left
    · have holds : ∀ j u, xs[j]? = some u → w.cell? ((⟨g, 0, none⟩ : Addr).add j) = some u := hown.cells (g := g) rfl
      have hr' := run_append_grow (P := P) w t ty e i z ht hi hz ⟨g, 0, none⟩ n cap xs (by rw [hown.1, hsize]) holds a m c news (by rw [hl, hsize]) hnews (by omega) (by omega) (growslice_fits (by omega) (by rw [hby]; exact hbytes))
      have ew := hr.symm.trans hr'
      injection ew with _ ew
      rw [ew]
      exact (World.ownsRow.alloc (w := w.drew) hown _)
theorem wpList_append_own_keep {P : Program} (w : World) {ops : Array Oper} {rest : List Oper} {o : Oper} {a : Act} {Q : Exit → Act → World → Prop} (hgd : Region.wanted o (yielded ops a.tmps) = true) (s x : Operand) (t : TypeId)
    (ho : o.op = .call { callee := .builtin .append, args := #[s, x], argTypes := #[t, t] })
    (base : Nat) (e : TypeId) (i : TypeInfo) (z : Value) (size bytes : Nat) (ht : P.underlying t = some (.slice e)) (hi : P.info? e = some i) (hz : i.zero = some z)
    (hsize : i.size = size) (hby : i.bytes = bytes) (hzs : z.cells.size = size) (hsz : 0 < size)
    (v : Value) (n : Nat) (xs : List Value) (hs : a.eval s = v) (hown : w.ownsRow base e size v n xs)
    (ad : Addr) (m c : Nat) (news : List Value) (hx : a.eval x = .slice (some ad) m c) (hl : news.length = m * size) (hnews : ∀ j u, news[j]? = some u → w.cell? (ad.add j) = some u) (h1 : ∀ u ∈ news, u.oneCell' = true)
    (h63 : n + m ≤ maxLen) (hbytes : (n + m) * bytes ≤ 140737488355328) (hbase : base ≤ w.heap.size)
    (h : ∀ v' w', w'.ownsRow base e size v' (n + m) (xs ++ news) → w.grownBy w' v.ownBlock → w'.ownsRow base e size v n xs → (v'.ownBlock = v.ownBlock ∨ v'.ownBlock = some w.heap.size) → wpList P ops Q rest (a.put o.dst v') w') :
    wpList P ops Q (o :: rest) a w := by
  obtain ⟨v', w', hr, h2, h3, h4, h5⟩ := run_append_own_keep (P := P) w base t o.type e i z size bytes ht hi hz hsize hby hzs hsz v n xs hown ad m c news hl hnews h1 h63 hbytes hbase
  refine wpList_step fun K hK => ?_
  rw [if_pos hgd]
  unfold Oper.wp execOp
  simp only [ho, resolve, invoke, builtin, Sem.run_bind, Sem.run_pure, Result.andThen_ok, List.map_toArray, List.map_cons, List.map_nil, hs, hx, hr]
  exact hK _ _ (h v' w' h2 h3 h5 h4)

/-- Two more expressions behind. -/
theorem OwnRe.push2 {w W W' : World} {P : Nat → Prop} {v v' : Value} {us : List ReV} {l : List RT} {y z : ReV} {s u : RT} (h : OwnRe w W P v us l) (hy : RAt w P y s) (hz : RAt w P z u) (ho : W'.ownsRow w.heap.size 31 6 v' (l.length + 2) (us.flatMap ReV.cells ++ (y.cells ++ z.cells))) : OwnRe w W' P v' (us ++ [y, z]) (l ++ [s, u]) :=
  h.app (us := [y, z]) (m := [s, u]) rfl (fun j a t ha ht => by
    cases j with
    | zero => simp at ha ht; subst ha ht; exact hy
    | succ j =>
      cases j with
      | zero => simp at ha ht; subst ha ht; exact hz
      | succ j => simp at ha) (by simpa using ho)
/-- Another row grows. -/
theorem OwnRe.beside {w W W' : World} {P : Nat → Prop} {v : Value} {us : List ReV} {l : List RT} (h : OwnRe w W P v us l) {r : Option Nat} (hg : W.grownBy W' r) (hne : v.ownBlock = none ∨ v.ownBlock ≠ r) : OwnRe w W' P v us l :=
  ⟨h.own.kept hg hne, h.len, h.each⟩
def Apart2 (v v' : Value) : Prop := ∀ b, v.ownBlock = some b → v'.ownBlock ≠ some b
theorem Apart2.symm {v v' : Value} (h : Apart2 v v') : Apart2 v' v := fun b hb h' => h b h' hb
theorem Apart2.ne {v v' : Value} (h : Apart2 v v') : v.ownBlock = none ∨ v.ownBlock ≠ v'.ownBlock := by
  cases hb : v.ownBlock with
  | none => exact .inl rfl
  | some b => exact .inr fun e => h b hb e.symm
/-- One of the two grows in its place, or in a new block. -/
theorem Apart2.grow {K : Nat} {v v' u : Value} (h : Apart2 v v') (hu : ∀ b, v'.ownBlock = some b → b < K) (e : u.ownBlock = v.ownBlock ∨ u.ownBlock = some K) : Apart2 u v' := fun b hb h' => by
  rcases e with e | e
  · exact h b (e ▸ hb) h'
  · rw [e] at hb
    injection hb with hb
    have := hu b h'
    omega
theorem between_sum (e : RT) (l : List RT) : ((between e l).map RT.sz).sum = l.length * e.sz + (l.map RT.sz).sum := by
  induction l with
  | nil => simp [between]
  | cons t l ih => rw [between_cons]; simp only [List.map_cons, List.sum_cons, ih, List.length_cons, Nat.succ_mul]; omega
theorem one_empty {W : World} {P : Nat → Prop} : RAt W P ⟨1, 0, 0, 0, 0, none, 0, 0⟩ emptyM := kids_empty.tree 1 W4.zero zero_ok
theorem one_none {W : World} {P : Nat → Prop} : RAt W P ⟨0, 0, 0, 0, 0, none, 0, 0⟩ noneM := kids_empty.tree 0 W4.zero zero_ok

theorem OwnRe.drewAlloc {w W : World} {P : Nat → Prop} {v : Value} {us : List ReV} {l : List RT} (h : OwnRe w W P v us l) (o : Obj) : OwnRe w (W.drew.alloc o) P v us l := ⟨World.ownsRow.alloc (w := W.drew) h.own o, h.len, h.each⟩
theorem OwnRe.alloc1 {w W : World} {P : Nat → Prop} {v : Value} {us : List ReV} {l : List RT} (h : OwnRe w W P v us l) (o : Obj) : OwnRe w (W.alloc o) P v us l := ⟨h.own.alloc o, h.len, h.each⟩
theorem OwnRe.kidsAt {w W : World} {P : Nat → Prop} {q : Option Addr} {n cp : Nat} {us : List ReV} {l : List RT} (h : OwnRe w W P (.slice q n cp) us l) (hb : Below w.heap.size w W) : KidsR W (fun g => P g ∨ w.heap.size ≤ g) q n cp us l := by
  obtain ⟨q', cp', e, hk⟩ := h.slice hb
  injection e with a b c
  subst a b c
  exact hk
theorem OwnRe.blockLt {w W : World} {P : Nat → Prop} {v : Value} {us : List ReV} {l : List RT} (h : OwnRe w W P v us l) : ∀ b, v.ownBlock = some b → b < W.heap.size := fun b hb => (h.own.lt b hb).2
theorem unit_sz : emptyM.sz = 1 ∧ noneM.sz = 1 := ⟨by simp [emptyM, sz_mk], by simp [noneM, sz_mk]⟩
theorem unit_dep : emptyM.dep ≤ 1 ∧ noneM.dep ≤ 1 := ⟨dep_mk.2 fun t ht => by simp at ht, dep_mk.2 fun t ht => by simp at ht⟩

end Go.Proofs.YtcaeanploocmkaaDoor
