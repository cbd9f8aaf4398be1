/- What a law owes behind its walk, where its arguments are read by value. No condition. What a law of layer 7 owes besides its walk: its arguments, opened and handed back. No condition. What Empty is in a Cat, None in a Cat and in an Either, and a Star's Star: of trees. No condition. The document's Same, of two expressions that stand for one tree: true. No condition. An append onto a row of one's own: the elder slice is still one's own too, as it was. Two more expressions behind. No condition. Brackets, order and doubles: of trees. Condition: they are good ones. A row of expressions cut in two: both pieces are rows of expressions. No condition. Cat, Either and Text as RegexBrackets calls them: the answer's fields by name, its blocks of any kind. No condition but size. A region that draws its order, by an invariant: each operation is walked once. No condition. The last region of RegexBrackets: whatever order its operations take, what it asks comes out true. No condition. -/
import Derived.Test.YtchicecmoknkjabDoorRows
import Derived.Test.YtchicecmoknkjabDoorBase
import Derived.ProofKit
import Derived.OpenShut
import Derived.Test.YtchicecmoknkjabDoorCards
import Derived.Test.YtchicecmoknkjabDoorTie
import Derived.Test.YtchicecmoknkjabDoorZA
import Derived.Laws.IdiomArrays
import Derived.LaidMore
import Derived.Lay
import Derived.Carry
import Derived.ChangeSlices
import Derived.ChangeMaps5
import Derived.SevenTiedAt
import Derived.Stop.Joined
import Derived.LaidSub
import Derived.Lib.LaidTab
import Derived.Test.YtchicecmoknkjabDoorReMath
import Derived.Test.YtchicecmoknkjabDoorForm
import Derived.Test.YtchicecmoknkjabDoorReMem
import Derived.StillTailTactics
import Derived.Test.YtchicecmoknkjabDoorZA
import Derived.Maps.AppendAt
import Derived.Orders
import Derived.BigFrame
import Derived.Great.BuildSlice
/-! What a law owes behind its walk, where its arguments are read by value. No condition. -/
namespace Go.Proofs.YtchicecmoknkjabDoor
open Go.ChangeShapes Go.WideShapes Go.ChangeAt Go.RowKit

theorem noKnob : ownKnob Tryd.prog.godebug = none := by kernel_rfl

section
variable {H : Type} {enc : TypeId × Value → H}

theorem owed_below {P : Program} {f : Func} {s : ChangeSpec} {fresh handsOn : Bool} {W W' : World} {args : Array Value} {v : Value} {ds gs : List (DataW H)} {before pa pv : List MemPlace}
    (hW : DataW.Whole enc P f.params.toList s.vars false W args.toList ds gs before)
    (hres : ∀ (b : Nat) (sp : Nat → Bool) (hd : Bool), DataW.TrodAll enc P W' b sp hd f.resultTypes.toList (v.resultList f.resultTypes.size) (s.fn H (ds ++ gs)).results [])
    (hargs : ∀ sp : Nat → Bool, DataW.TrodAll enc P W' 0 sp true f.params.toList args.toList (s.fn H (ds ++ gs)).args pa)
    (hvars : ∀ sp : Nat → Bool, DataW.TrodVars enc P W' sp s.vars (s.fn H (ds ++ gs)).vars pv)
    (hps : before = pa ++ pv) (hb : Below W.heap.size W W') :
    s.post enc P f false fresh handsOn false W args v W' := by
  refine ⟨ds, gs, before, [], pa, pv, hW, hres _ _ _, hargs _, hvars _, World.keptBut_mono (fun p hp => ⟨hp, ?_⟩) (hb.frame _), fun h => by cases h⟩
  rw [hps, List.mem_append] at hp
  exact Or.inr hp
end

end Go.Proofs.YtchicecmoknkjabDoor

/-! What a law of layer 7 owes besides its walk: its arguments, opened and handed back. No condition. -/
namespace Go.Proofs.YtchicecmoknkjabDoor
open Go.ChangeShapes Go.WideShapes Go.ChangeAt Go.RowKit Go.Lib
set_option linter.unusedVariables false
set_option linter.unusedSimpArgs false

theorem laidOutP : laidOutB Tryd.prog = true := by kernel_rfl
theorem cellsByte : Tryd.prog.cellsOf 5 = 1 := by kernel_rfl

theorem bounds_u8 {x : Int} (h : (Lit.int .u8 x).wf = true) : 0 ≤ x ∧ x ≤ 255 := by simpa [Lit.wf, IntKind.min, IntKind.max, IntKind.signed, IntKind.bits] using h
theorem bounds_u16 {x : Int} (h : (Lit.int .u16 x).wf = true) : 0 ≤ x ∧ x ≤ 65535 := by simpa [Lit.wf, IntKind.min, IntKind.max, IntKind.signed, IntKind.bits] using h

/-- A slice of bytes that reads so. -/
def BytesAt (W : World) (v : Value) (zs : List Int) : Prop :=
  ∃ a cap, v = .slice a zs.length cap ∧ zs.length ≤ cap ∧ zs.length ≤ maxLen ∧ (∀ z ∈ zs, 0 ≤ z ∧ z ≤ 255) ∧
    (0 < zs.length → ∃ b off, a = some ⟨b, off, none⟩ ∧ b < W.heap.size ∧ ∀ (i : Nat) (z : Int), zs[i]? = some z → W.cell? ⟨b, off + i, none⟩ = some (.int .u8 z))

theorem BytesAt.below {W W' : World} {v : Value} {zs : List Int} (h : BytesAt W v zs) (hb : Below W.heap.size W W') : BytesAt W' v zs := by
  obtain ⟨a, cap, h1, h2, h3, h4, h5⟩ := h
  refine ⟨a, cap, h1, h2, h3, h4, fun hn => ?_⟩
  obtain ⟨b, off, ha, hlt, hc⟩ := h5 hn
  exact ⟨b, off, ha, Nat.lt_of_lt_of_le hlt hb.size, fun i z hz => (hb.cell (p := ⟨b, off + i, none⟩) hlt).trans (hc i z hz)⟩

theorem bounds_i64 {x : Int} (h : (Lit.int .i64 x).wf = true) : -9223372036854775808 ≤ x ∧ x ≤ 9223372036854775807 := by simpa [Lit.wf, IntKind.min, IntKind.max, IntKind.signed, IntKind.bits] using h

theorem tabs_of_laid {l : List (String × DataW Unit)} {W : World} (h : laidMetH Tryd.prog l W) (hp : laidMetH Tryd.prog l W = laidMet Tryd.prog l W)
    (e1 : l.filter (fun x => x.1 == "math/bits.deBruijn64tab") = [("math/bits.deBruijn64tab", Lib.tabData .u8 bruijnTab)])
    (e2 : l.filter (fun x => x.1 == "internal/strconv.uint64pow10") = [("internal/strconv.uint64pow10", Lib.tabData .u64 Lib.pow10Tab)]) : Tab1 W := by
  rw [hp] at h
  have h1 := laidMet.filter (fun x => x.1 == "math/bits.deBruijn64tab") h
  have h2 := laidMet.filter (fun x => x.1 == "internal/strconv.uint64pow10") h
  rw [e1] at h1
  rw [e2] at h2
  have t1 := Lib.tabIs_of_head (g := 1) (t := 119) (e := 5) (n := 64) (by kernel_rfl) (by kernel_rfl) Tryd.underlying119 Tryd.underlying5 (by kernel_rfl) (by kernel_rfl) h1
  have t2 := Lib.tabIs_of_head (g := 2) (t := 125) (e := 26) (n := 20) (by kernel_rfl) (by kernel_rfl) Tryd.underlying125 Tryd.underlying26 (by kernel_rfl) (by kernel_rfl) h2
  exact ⟨t2, t1⟩

theorem BytesAt.low {W W' : World} {a : Option Addr} {cap : Nat} {zs : List Int} {n : Nat} (h : BytesAt W (.slice a n cap) zs) (hb : Below W.heap.size W W') : n = zs.length ∧ BytesLow W' W'.heap.size (.slice a zs.length cap) zs := by
  obtain ⟨a', cap', h1, h2, h3, h4, h5⟩ := h
  cases h1
  refine ⟨rfl, a, cap, rfl, h2, h3, h4, fun hn => ?_⟩
  obtain ⟨b, off, ha, hlt, hc⟩ := h5 hn
  exact ⟨b, off, ha, Nat.lt_of_lt_of_le hlt hb.size, fun i z hz => (hb.cell (p := ⟨b, off + i, none⟩) hlt).trans (hc i z hz)⟩

theorem cellsWord : Tryd.prog.cellsOf 26 = 1 := by kernel_rfl
theorem cellsSet : Tryd.prog.cellsOf 28 = 4 := by kernel_rfl

theorem list4 {α : Type} (l : List α) (h : (⟨l⟩ : Array α).size = 4) : ∃ a b c d, l = [a, b, c, d] := by
  match l, h with
  | [a, b, c, d], _ => exact ⟨a, b, c, d, rfl⟩

section
variable {H : Type} {enc : TypeId × Value → H}

/-- The datum of a set. -/
def setD (a0 a1 a2 a3 : Int) : DataW H := .agg [.lit (.int .u64 a0), .lit (.int .u64 a1), .lit (.int .u64 a2), .lit (.int .u64 a3)]

theorem wfu64r {x : Int} (h : (Lit.int .u64 x).wf = true) : 0 ≤ x ∧ x ≤ 18446744073709551615 := by simpa [Lit.wf, IntKind.min, IntKind.max, IntKind.signed, IntKind.bits] using h

set_option maxRecDepth 100000 in
theorem open_set {W : World} {base b0 : Nat} {sp : Nat → Bool} {v : Value} {d : DataW H} {p : List MemPlace} (hval : Value.okWide Tryd.prog W .any base 28 v) (h : DataW.Trod enc Tryd.prog W b0 sp true 28 v d p) :
    ∃ a0 a1 a2 a3 : Int, v = .agg #[.int .u64 a0, .int .u64 a1, .int .u64 a2, .int .u64 a3] ∧ d = setD a0 a1 a2 a3 ∧ p = [] ∧ ((Lit.int .u64 a0).wf = true ∧ (Lit.int .u64 a1).wf = true ∧ (Lit.int .u64 a2).wf = true ∧ (Lit.int .u64 a3).wf = true) ∧ IsSet a0 a1 a2 a3 (memb a0 a1 a2 a3) := by
  obtain ⟨cs, rfl, hsz, _⟩ : ∃ cs, v = .agg cs ∧ cs.size = Tryd.prog.cellsOf 28 ∧ Row.okWide Tryd.prog W .any base 28 cs := by
    simpa [Value.okWide, Tryd.underlying28] using hval
  rw [cellsSet] at hsz
  obtain ⟨l⟩ := cs
  obtain ⟨c0, c1, c2, c3, rfl⟩ := list4 l hsz
  obtain ⟨fuel, hf⟩ := h
  obtain ⟨y0, y1, y2, y3, m, hx, hy0, hy1, hy2, hy3⟩ := trod_array4 Tryd.underlying28 cellsWord hf
  obtain ⟨x0, e0, rfl, w0⟩ := DataW.trod_int Tryd.underlying26 hy0
  obtain ⟨x1, e1, rfl, w1⟩ := DataW.trod_int Tryd.underlying26 hy1
  obtain ⟨x2, e2, rfl, w2⟩ := DataW.trod_int Tryd.underlying26 hy2
  obtain ⟨x3, e3, rfl, w3⟩ := DataW.trod_int Tryd.underlying26 hy3
  simp at e0 e1 e2 e3
  subst e0 e1 e2 e3
  simp only [Prod.mk.injEq] at hx
  obtain ⟨rfl, rfl⟩ := hx
  exact ⟨x0, x1, x2, x3, rfl, rfl, rfl, ⟨w0, w1, w2, w3⟩, IsSet.of _ _ _ _ (wfu64r w0) (wfu64r w1) (wfu64r w2) (wfu64r w3)⟩

set_option maxRecDepth 100000 in
theorem shut_set {W : World} {b0 : Nat} {sp : Nat → Bool} {hd : Bool} {a0 a1 a2 a3 : Int} (h : (Lit.int .u64 a0).wf = true ∧ (Lit.int .u64 a1).wf = true ∧ (Lit.int .u64 a2).wf = true ∧ (Lit.int .u64 a3).wf = true) :
    DataW.Trod enc Tryd.prog W b0 sp hd 28 (.agg #[.int .u64 a0, .int .u64 a1, .int .u64 a2, .int .u64 a3]) (setD a0 a1 a2 a3) [] := by
  obtain ⟨w0, w1, w2, w3⟩ := h
  exact ⟨2, by simp [setD, DataW.trod, Value.cells, Tryd.underlying28, Tryd.underlying26, cellsSet, cellsWord, w0, w1, w2, w3, show List.range 4 = [0, 1, 2, 3] from rfl]⟩


set_option maxRecDepth 100000 in
theorem open_bytes {W : World} {base : Nat} {v : Value} {d : DataW H} {p : List MemPlace} (hval : Value.okWide Tryd.prog W .any base 22 v) (h : DataW.Trod enc Tryd.prog W 0 (fun _ => true) true 22 v d p) :
    ∃ zs, BytesAt W v zs := by
  obtain ⟨a0, len, cap, rfl⟩ := okWide_slice Tryd.underlying22 hval
  obtain ⟨fuel, hf⟩ := h
  rcases open_ints Tryd.underlying22 Tryd.underlying5 cellsByte hf with ⟨hcs, hx⟩ | ⟨a, len', cap', zs, hcs, _, hl, hm, hz, hx, hc, hw⟩
  · simp [Value.cells] at hcs
    obtain ⟨rfl, rfl, rfl⟩ := hcs
    exact ⟨[], none, 0, rfl, Nat.le_refl _, Nat.zero_le _, fun z hz => by simp at hz, fun h => by simp at h⟩
  · simp [Value.cells] at hcs
    obtain ⟨rfl, rfl, rfl⟩ := hcs
    simp only [if_true] at hz

    have hlen : (zs.take len).length = len := by rw [List.length_take]; omega
    refine ⟨zs.take len, some a, cap, by rw [hlen], by omega, Nat.le_trans (by omega : (zs.take len).length ≤ cap) hm, fun z hz => bounds_u8 (hw z (List.mem_of_mem_take hz)), fun hn => ?_⟩
    obtain ⟨b, off, spot⟩ := a
    have h0 := hc 0 (by omega)
    have hspot : spot = none := by simpa [Addr.add] using World.cell?_spot h0
    subst hspot
    have hlt : b < W.heap.size := by
      have := World.block_lt_of_cell? W _ h0
      simpa [Addr.add] using this
    refine ⟨b, off, rfl, hlt, fun i z hzi => ?_⟩
    have hi : i < len := by
      have := (List.getElem?_eq_some_iff.1 hzi).1
      omega
    have hci := hc i (by omega)
    rw [List.getElem?_take_of_lt hi] at hzi
    have e : (⟨b, off, none⟩ : Addr).add i = ⟨b, off + i, none⟩ := by cases i <;> simp [Addr.add]
    rw [e, List.getD_eq_getElem?_getD, hzi] at hci
    exact hci

/-- What a law owes behind its walk, where an argument lies in memory. -/
theorem post_of_old {P : Program} {f : Func} {s : ChangeSpec} {fresh handsOn : Bool} {W W' : World} {args : Array Value} {v : Value} {ds gs : List (DataW H)} {before pa pv : List MemPlace}
    (hW : DataW.Whole enc P f.params.toList s.vars false W args.toList ds gs before)
    (hres : ∀ (b : Nat) (sp : Nat → Bool) (hd : Bool), DataW.TrodAll enc P W' b sp hd f.resultTypes.toList (v.resultList f.resultTypes.size) (s.fn H (ds ++ gs)).results [])
    (hargs : DataW.TrodAll enc P W' 0 (fun b => decide (b < W.heap.size)) true f.params.toList args.toList (s.fn H (ds ++ gs)).args pa)
    (hvars : ∀ sp : Nat → Bool, DataW.TrodVars enc P W' sp s.vars (s.fn H (ds ++ gs)).vars pv)
    (hps : before = pa ++ pv) (hb : Below W.heap.size W W') :
    s.post enc P f false fresh handsOn false W args v W' := by
  refine ⟨ds, gs, before, [], pa, pv, hW, hres _ _ _, hargs, hvars _, World.keptBut_mono (fun p hp => ⟨hp, ?_⟩) (hb.frame _), fun h => by cases h⟩
  rw [hps, List.mem_append] at hp
  exact Or.inr hp
end

end Go.Proofs.YtchicecmoknkjabDoor

/-! What Empty is in a Cat, None in a Cat and in an Either, and a Star's Star: of trees. No condition. -/
namespace Go.Proofs.YtchicecmoknkjabDoor
open Go.RowKit Go.Lib
set_option linter.unusedVariables false

/-- Ahead of each one more. -/
def between (e : RT) (l : List RT) : List RT := l.flatMap fun t => [e, t]
theorem between_nil (e : RT) : between e [] = [] := rfl
theorem between_cons (e t : RT) (l : List RT) : between e (t :: l) = e :: t :: between e l := rfl
theorem between_app (e : RT) (l m : List RT) : between e (l ++ m) = between e l ++ between e m := by unfold between; exact List.flatMap_append
theorem between_take (e : RT) (l : List RT) (i : Nat) (u : RT) (h : l[i]? = some u) : between e (l.take (i + 1)) = between e (l.take i) ++ [e, u] := by
  rw [List.take_add_one, h, between_app]
  rfl
theorem between_len (e : RT) (l : List RT) : (between e l).length = 2 * l.length := by
  induction l with
  | nil => rfl
  | cons t l ih => rw [between_cons]; simp only [List.length_cons, ih]; omega
theorem flat_app (k : Int) (l m : List RT) : flatM k (l ++ m) = flatM k l ++ flatM k m := by unfold flatM; exact List.flatMap_append
theorem flat_cons (k : Int) (t : RT) (l : List RT) : flatM k (t :: l) = (if t.kind = k then t.kids else [t]) ++ flatM k l := rfl
theorem flat_one {k : Int} {t : RT} (h : t.kind ≠ k) : flatM k [t] = [t] := by rw [flat_cons, if_neg h]; simp [flatM]
/-- What is left of it does not know whether they were there. -/
theorem flat_filter (k : Int) (e : RT) (h : e.kind ≠ k) (q : RT → Bool) (he : q e = false) (l : List RT) : (flatM k (between e l)).filter q = (flatM k l).filter q := by
  induction l with
  | nil => rfl
  | cons t l ih =>
    rw [between_cons, flat_cons, if_neg h, flat_cons, flat_cons]
    simp only [List.filter_append, List.filter_cons, he, ih, List.filter_nil]
    simp
theorem flat_any (k : Int) (e : RT) (h : e.kind ≠ k) (q : RT → Bool) (he : q e = false) (l : List RT) : (flatM k (between e l)).any q = (flatM k l).any q := by
  induction l with
  | nil => rfl
  | cons t l ih =>
    rw [between_cons, flat_cons, if_neg h, flat_cons, flat_cons]
    simp only [List.any_append, List.any_cons, he, ih, List.any_nil]
    simp
theorem cat_empties (l : List RT) : catM (between emptyM l ++ [emptyM]) = catM l := by
  have h : emptyM.kind ≠ 3 := by decide
  unfold catM
  rw [flat_app, flat_one h, List.any_append, List.filter_append, flat_any 3 emptyM h _ (by decide), flat_filter 3 emptyM h _ (by decide)]
  have e1 : [emptyM].any (fun r => r.kind == 0) = false := by decide
  have e2 : [emptyM].filter (fun r => !(r.kind == 1)) = [] := by decide
  rw [e1, e2, Bool.or_false, List.append_nil]
theorem cat_none (l : List RT) : catM (l ++ [noneM]) = noneM := by
  have h : noneM.kind ≠ 3 := by decide
  unfold catM
  rw [flat_app, flat_one h, if_pos]
  rw [List.any_append]
  have e1 : [noneM].any (fun r => r.kind == 0) = true := by decide
  rw [e1, Bool.or_true]
theorem either_nones (l : List RT) : eitherM (between noneM l ++ [noneM]) = eitherM l := by
  have h : noneM.kind ≠ 4 := by decide
  have e0 : flatM 4 (between noneM l ++ [noneM]) = flatM 4 (between noneM l) ++ [noneM] := by rw [flat_app, flat_one h]
  have e1 : unionM (flatM 4 (between noneM l ++ [noneM])) = unionM (flatM 4 l) := by
    unfold unionM
    refine of_congr fun b _ => ?_
    rw [e0, List.any_append, flat_any 4 noneM h _ (by rfl)]
    have : [noneM].any (fun r => r.kind == 2 && r.set.mem b) = false := by rfl
    rw [this, Bool.or_false]
  have e2 : othersM (flatM 4 (between noneM l ++ [noneM])) = othersM (flatM 4 l) := by
    unfold othersM
    rw [e0, List.filter_append, flat_filter 4 noneM h _ (by decide)]
    have : [noneM].filter (fun r => !(r.kind == 0) && !(r.kind == 2)) = [] := by decide
    rw [this, List.append_nil]
  unfold eitherM byteM
  rw [e1, e2]
theorem star_star (r : RT) : starM (starM r) = starM r := by
  unfold starM
  by_cases h : r.kind = 0 ∨ r.kind = 1
  · rw [if_pos h, if_pos (.inr rfl)]
  · rw [if_neg h]
    by_cases h5 : r.kind = 5
    · rw [if_pos h5, if_neg h, if_pos h5]
    · rw [if_neg h5]
      exact (if_neg (show ¬ ((5 : Int) = 0 ∨ (5 : Int) = 1) by decide)).trans (if_pos rfl)
theorem between_mem {e x : RT} {l : List RT} (h : x ∈ between e l) : x = e ∨ x ∈ l := by
  unfold between at h
  obtain ⟨t, ht, hx⟩ := List.mem_flatMap.1 h
  rcases List.mem_cons.1 hx with rfl | hx
  · exact .inl rfl
  · exact .inr ((List.mem_singleton.1 hx) ▸ ht)

end Go.Proofs.YtchicecmoknkjabDoor

/-! The document's Same, of two expressions that stand for one tree: true. No condition. -/
namespace Go.Proofs.YtchicecmoknkjabDoor
open Go.RowKit Go.Lib
set_option linter.unusedVariables false
set_option linter.unusedSimpArgs false

set_option maxRecDepth 100000 in
set_option maxHeartbeats 8000000 in
theorem same_any {P P' : Nat → Prop} : ∀ (N : Nat) (t : RT) (x y : ReV) (W : World), t.dep ≤ N → t.sz ≤ 1000000000 → RAt W P x t → RAt W P' y t → Calls Tryd.prog 10 #[x.val, y.val] W (GivesBool true W) := by
  intro N
  induction N with
  | zero => intro t x y W h; have := dep_pos t; omega
  | succ N ih =>
    intro t x y W hdep hsz ht ht'
    obtain ⟨vs, et, hok, hk⟩ := ht.kids
    obtain ⟨us, et', _, hk'⟩ := ht'.kids
    have hkd : ∀ u ∈ t.kids, u.dep ≤ N := by
      obtain ⟨k', s', l'⟩ := t
      exact dep_mk.1 hdep
    have hks : (t.kids.map RT.sz).sum < t.sz := by
      obtain ⟨k', s', l'⟩ := t
      rw [sz_mk]
      show (l'.map RT.sz).sum < _
      omega
    have e1 := et.symm.trans et'
    obtain ⟨L, hL⟩ : ∃ L, L = t.kids := ⟨_, rfl⟩
    rw [← hL] at hk hk' hkd e1 hks
    obtain ⟨k, a, b, c, d, p, n, cap⟩ := x
    obtain ⟨k2, a2, b2, c2, d2, p2, n2, cap2⟩ := y
    simp only [ReV.w4] at hok hk hk' e1
    injection e1 with e2 e3
    injection e3 with e4 e5 e6 e7
    subst e2 e4 e5 e6 e7
    have hnum := hk.num
    have hnum' := hk'.num
    obtain rfl : n = n2 := hnum.trans hnum'.symm
    obtain ⟨B0, hB0⟩ : ∃ B0, B0 = W.heap.size := ⟨_, rfl⟩
    obtain ⟨w1, hw1⟩ : ∃ w1 : World, w1 = W.alloc (.cells #[.int .i64 k, .int .u64 a, .int .u64 b, .int .u64 c, .int .u64 d, .slice p n cap] 30) := ⟨_, rfl⟩
    have hb1 : Below W.heap.size W w1 := by rw [hw1]; exact (Below.refl _ _).alloc (Nat.le_refl _) _
    have hn1 : w1.heap[B0]? = some (.cells #[.int .i64 k, .int .u64 a, .int .u64 b, .int .u64 c, .int .u64 d, .slice p n cap] 30 (0, 0)) := by rw [hw1, hB0]; exact heap_alloc_new _ _
    have hB1 : B0 < w1.heap.size := (Array.getElem?_eq_some_iff.1 hn1).1
    obtain ⟨B2, hB2⟩ : ∃ B2, B2 = w1.heap.size := ⟨_, rfl⟩
    obtain ⟨w2, hw2⟩ : ∃ w2 : World, w2 = w1.alloc (.cells #[.int .i64 k, .int .u64 a, .int .u64 b, .int .u64 c, .int .u64 d, .slice p2 n cap2] 30) := ⟨_, rfl⟩
    have hb2 : Below w1.heap.size w1 w2 := by rw [hw2]; exact (Below.refl _ _).alloc (Nat.le_refl _) _
    have hn2 : w2.heap[B2]? = some (.cells #[.int .i64 k, .int .u64 a, .int .u64 b, .int .u64 c, .int .u64 d, .slice p2 n cap2] 30 (0, 0)) := by rw [hw2, hB2]; exact heap_alloc_new _ _
    have hn1' : w2.heap[B0]? = some (.cells #[.int .i64 k, .int .u64 a, .int .u64 b, .int .u64 c, .int .u64 d, .slice p n cap] 30 (0, 0)) := (hb2.block B0 hB1).trans hn1
    have hB02 : B0 < w2.heap.size := (Array.getElem?_eq_some_iff.1 hn1').1
    have hB22 : B2 < w2.heap.size := (Array.getElem?_eq_some_iff.1 hn2).1
    have hbb : Below W.heap.size W w2 := hb1.trans (hb2.mono hb1.size)
    have HK := Lib.hid (hk.under hbb)
    have HK' := Lib.hid (hk'.under hbb)
    have HB1 := Lib.hid hbb
    have HN1 := Lib.hid hn1'
    have HN2 := Lib.hid hn2
    have HL1 := Lib.hid hB02
    have HL2 := Lib.hid hB22
    have HW1 := Lib.hid hw1
    have HW2 := Lib.hid hw2
    have HB0 := Lib.hid hB0
    have hB3 : B2 = B0 + 1 := by rw [hB2, hB0, hw1]; exact Array.size_push _
    have HB2 := Lib.hid hB3
    have hnb : n ≤ 1000000000 := by
      have : ∀ l : List RT, l.length ≤ (l.map RT.sz).sum := by
        intro l
        induction l with
        | nil => simp
        | cons a l ih => have := sz_pos a; simp only [List.length_cons, List.map_cons, List.sum_cons]; omega
      have := this L
      omega
    have HKS : Hid ((L.map RT.sz).sum ≤ 1000000000) := by unfold Hid; omega
    have HKD := Lib.hid hkd
    have HNU := Lib.hid hnum
    have HIH := Lib.hid ih
    have hEq : ∀ w : World, (Op.equalIn 10000 28 (.agg #[.int .u64 a, .int .u64 b, .int .u64 c, .int .u64 d]) (.agg #[.int .u64 a, .int .u64 b, .int .u64 c, .int .u64 d])).run Tryd.prog w = .ok true w := fun w => by rw [eql_set, w4_eq]; simp
    have k0 : w2.cell? ⟨B0, 0, none⟩ = some (.int .i64 k) := by simp [World.cell?, hn1']
    have k1 : w2.cell? ⟨B0, 1, none⟩ = some (.int .u64 a) := by simp [World.cell?, hn1']
    have k2 : w2.cell? ⟨B0, 2, none⟩ = some (.int .u64 b) := by simp [World.cell?, hn1']
    have k3 : w2.cell? ⟨B0, 3, none⟩ = some (.int .u64 c) := by simp [World.cell?, hn1']
    have k4 : w2.cell? ⟨B0, 4, none⟩ = some (.int .u64 d) := by simp [World.cell?, hn1']
    have k5 : w2.cell? ⟨B0, 5, none⟩ = some (.slice p n cap) := by simp [World.cell?, hn1']
    have q0 : w2.cell? ⟨B2, 0, none⟩ = some (.int .i64 k) := by simp [World.cell?, hn2]
    have q1 : w2.cell? ⟨B2, 1, none⟩ = some (.int .u64 a) := by simp [World.cell?, hn2]
    have q2 : w2.cell? ⟨B2, 2, none⟩ = some (.int .u64 b) := by simp [World.cell?, hn2]
    have q3 : w2.cell? ⟨B2, 3, none⟩ = some (.int .u64 c) := by simp [World.cell?, hn2]
    have q4 : w2.cell? ⟨B2, 4, none⟩ = some (.int .u64 d) := by simp [World.cell?, hn2]
    have q5 : w2.cell? ⟨B2, 5, none⟩ = some (.slice p2 n cap2) := by simp [World.cell?, hn2]
    have ek : (k != k) = false := by simp
    have en : ((n : Int) != (n : Int)) = false := by simp
    clear et et' hok hk hk' hnum hnum' hL ht ht' hdep hsz hks ih hw1 hw2 hb1 hb2 hbb hn1 hn2 hn1' hB0 hB1 hB2 hB3 hB02 hB22 hkd
    unfold ReV.val
    simp only []
    go_enter Tryd.func10, Tryd.ntmps10
    go_wp2_with fail
    rw [← HW1.out, ← HB0.out, ← HB2.out, ← HW2.out]
    go_wp2_with fail
    clear k0 k1 k2 k3 k4 k5 q0 q1 q2 q3 q4 q5
    go_loopg [5] n (fun gk vi wr => ∃ i : Nat, vi = .int .i64 (i : Int) ∧ i ≤ n ∧ n - i ≤ gk ∧ Hid (Below w2.heap.size w2 wr))
    case atStart => exact ⟨0, rfl, by omega, by omega, Below.refl _ _⟩
    case round =>
      obtain ⟨i, rfl, hi, hgk, HB⟩ := hrel
      have k5 : wr.cell? ⟨B0, 5, none⟩ = some (.slice p n cap) := by simp [World.cell?, (HB.out.block B0 HL1.out).trans HN1.out]
      have q5 : wr.cell? ⟨B2, 5, none⟩ = some (.slice p2 n cap2) := by simp [World.cell?, (HB.out.block B2 HL2.out).trans HN2.out]
      by_cases hlt : i < n
      · have hltz : decide ((i : Int) < (n : Int)) = true := decide_eq_true (by omega)
        obtain ⟨g, off, rfl⟩ := HK.out.rowv.some_of hlt
        obtain ⟨g', off', rfl⟩ := HK'.out.rowv.some_of hlt
        have hil : i < L.length := by rw [← HNU.out]; exact hlt
        obtain ⟨y, hy⟩ : ∃ y, vs[i]? = some y := ⟨_, List.getElem?_eq_getElem (by rw [HK.out.len]; exact hil)⟩
        obtain ⟨z, hz⟩ : ∃ z, us[i]? = some z := ⟨_, List.getElem?_eq_getElem (by rw [HK'.out.len]; exact hil)⟩
        obtain ⟨u, hu⟩ : ∃ u, L[i]? = some u := ⟨_, List.getElem?_eq_getElem hil⟩
        have hpl := (HK.out.place hy).under HB.out
        have hpl' := (HK'.out.place hz).under HB.out
        have hra := (HK.out.each i y u hy hu).under HB.out
        have hra' := (HK'.out.each i z u hz hu).under HB.out
        have CALL : Hid (∀ W1, Below wr.heap.size wr W1 → Calls Tryd.prog 10 #[y.val, z.val] W1 (GivesBool true W1)) := fun W1 hb =>
          HIH.out u y z W1 (HKD.out u (List.mem_of_getElem? hu)) (by have := sum_mem (List.mem_of_getElem? hu); have := HKS.out; omega) (hra.under hb) (hra'.under hb)
        obtain ⟨y0, y1, y2, y3, y4, y5, y6, y7⟩ := y
        obtain ⟨z0, z1, z2, z3, z4, z5, z6, z7⟩ := z
        obtain ⟨e0, e1, e2, e3, e4, e5⟩ := hpl.six
        obtain ⟨f0, f1, f2, f3, f4, f5⟩ := hpl'.six
        simp only at e0 e1 e2 e3 e4 e5 f0 f1 f2 f3 f4 f5
        unfold ReV.val at CALL
        simp only at CALL
        clear hpl hpl' hra hra' hy hz hu hil
        go_wp2_with fail
        go_still_tail 10, (by kernel_rfl)
        change wpList _ _ _ _ _ wr.drew
        go_wp2_with fail
        refine (CALL.out _ ((Below.refl _ _).drew)).mono ?_
        rintro e w3 ⟨rfl, hb3⟩
        have HB3 : Hid (Below w2.heap.size w2 w3) := (below_drawn HB.out 1).trans (hb3.mono HB.out.size)
        clear hb3 k5 q5 e0 e1 e2 e3 e4 e5 f0 f1 f2 f3 f4 f5
        go_wp2_with fail
        go_roundg (n - (i + 1))
        case measure => omega
        case rel => exact ⟨i + 1, by go_num, by omega, Nat.le_refl _, HB3⟩
      · have hltz : decide ((i : Int) < (n : Int)) = false := decide_eq_false (by omega)
        go_wp2_with fail
        go_ret
        exact ⟨rfl, HB1.out.trans (HB.out.mono HB1.out.size)⟩

end Go.Proofs.YtchicecmoknkjabDoor

/-! An append onto a row of one's own: the elder slice is still one's own too, as it was. Two more expressions behind. No condition. -/
namespace Go.Proofs.YtchicecmoknkjabDoor
open Go.RowKit Go.Lib
set_option linter.unusedVariables false
set_option linter.unusedSimpArgs false

theorem run_append_own_keep {P : Program} (w : World) (base : Nat) (t ty e : TypeId) (i : TypeInfo) (z : Value) (size bytes : Nat) (ht : P.underlying t = some (.slice e)) (hi : P.info? e = some i) (hz : i.zero = some z)
    (hsize : i.size = size) (hby : i.bytes = bytes) (hzs : z.cells.size = size) (hsz : 0 < size)
    (v : Value) (n : Nat) (xs : List Value) (hown : w.ownsRow base e size v n xs)
    (a : Addr) (m c : Nat) (news : List Value) (hl : news.length = m * size) (hnews : ∀ j u, news[j]? = some u → w.cell? (a.add j) = some u) (h1 : ∀ u ∈ news, u.oneCell' = true)
    (h63 : n + m ≤ maxLen) (hbytes : (n + m) * bytes ≤ 140737488355328) (hbase : base ≤ w.heap.size) :
    ∃ v' w', (Builtin.append_ #[t, t] ty #[v, .slice (some a) m c]).run P w = .ok v' w' ∧ w'.ownsRow base e size v' (n + m) (xs ++ news) ∧ w.grownBy w' v.ownBlock ∧
      (v'.ownBlock = v.ownBlock ∨ v'.ownBlock = some w.heap.size) ∧ w'.ownsRow base e size v n xs := by
  obtain ⟨v', w', hr, h2, h3, _, h5⟩ := run_append_own_at (P := P) w base t ty e i z size bytes ht hi hz hsize hby hzs hsz v n xs hown a m c news hl hnews h1 h63 hbytes hbase
  refine ⟨v', w', hr, h2, h3, h5, ?_⟩
  have hsmall : n + m ≤ 9223372036854775807 := by simp only [maxLen] at h63; omega
  rcases hown.2 with ⟨rfl, rfl⟩ | ⟨g, cap, cur, rfl, hbg, hg, hnc, hcm, hcs, htake⟩
  · have hx : xs = [] := List.eq_nil_of_length_eq_zero (by simpa using hown.1)
    subst hx
    exact World.ownsRow_nil w' base e size
  · by_cases hroom : n + m ≤ cap
    · have hfit : n * i.size + news.length ≤ cur.size := by rw [hl, hcs, hsize, ← Nat.add_mul]; exact Nat.mul_le_mul_right _ hroom
      have hr' := run_append_room (P := P) w t ty e i ht hi g n cap cur hg a m c news (by rw [hl, hsize]) hnews h1 hroom hfit
      have ev : v' = .slice (some ⟨g, 0, none⟩) (n + m) cap := by
        have := hr.symm.trans hr'
        injection this
      rw [ev] at h2
      refine ⟨hown.1, .inr ?_⟩
      rcases h2.2 with ⟨h, _⟩ | ⟨g', cap', cur', h, hb', hg', hn', hm', hs', ht'⟩
      · cases h
      · injection h with ha _ hc
        injection ha with ha
        injection ha with ha
        subst ha hc
        refine ⟨_, cap, cur', rfl, hb', hg', hnc, hm', hs', ?_⟩
        have e1 := congrArg (List.take (n * size)) ht'
        rw [List.take_take, Nat.min_eq_left (Nat.mul_le_mul_right _ (Nat.le_add_right n m))] at e1
        rw [e1, ← hown.1]
        exact List.take_left
    · have holds : ∀ j u, xs[j]? = some u → w.cell? ((⟨g, 0, none⟩ : Addr).add j) = some u := hown.cells (g := g) rfl
      have hr' := run_append_grow (P := P) w t ty e i z ht hi hz ⟨g, 0, none⟩ n cap xs (by rw [hown.1, hsize]) holds a m c news (by rw [hl, hsize]) hnews (by omega) (by omega) (growslice_fits (by omega) (by rw [hby]; exact hbytes))
      have ew := hr.symm.trans hr'
      injection ew with _ ew
      rw [ew]
      exact (World.ownsRow.alloc (w := w.drew) hown _)
theorem wpList_append_own_keep {P : Program} (w : World) {ops : Array Oper} {rest : List Oper} {o : Oper} {a : Act} {Q : Exit → Act → World → Prop} (hgd : Region.wanted o (yielded ops a.tmps) = true) (s x : Operand) (t : TypeId)
    (ho : o.op = .call { callee := .builtin .append, args := #[s, x], argTypes := #[t, t] })
    (base : Nat) (e : TypeId) (i : TypeInfo) (z : Value) (size bytes : Nat) (ht : P.underlying t = some (.slice e)) (hi : P.info? e = some i) (hz : i.zero = some z)
    (hsize : i.size = size) (hby : i.bytes = bytes) (hzs : z.cells.size = size) (hsz : 0 < size)
    (v : Value) (n : Nat) (xs : List Value) (hs : a.eval s = v) (hown : w.ownsRow base e size v n xs)
    (ad : Addr) (m c : Nat) (news : List Value) (hx : a.eval x = .slice (some ad) m c) (hl : news.length = m * size) (hnews : ∀ j u, news[j]? = some u → w.cell? (ad.add j) = some u) (h1 : ∀ u ∈ news, u.oneCell' = true)
    (h63 : n + m ≤ maxLen) (hbytes : (n + m) * bytes ≤ 140737488355328) (hbase : base ≤ w.heap.size)
    (h : ∀ v' w', w'.ownsRow base e size v' (n + m) (xs ++ news) → w.grownBy w' v.ownBlock → w'.ownsRow base e size v n xs → (v'.ownBlock = v.ownBlock ∨ v'.ownBlock = some w.heap.size) → wpList P ops Q rest (a.put o.dst v') w') :
    wpList P ops Q (o :: rest) a w := by
  obtain ⟨v', w', hr, h2, h3, h4, h5⟩ := run_append_own_keep (P := P) w base t o.type e i z size bytes ht hi hz hsize hby hzs hsz v n xs hown ad m c news hl hnews h1 h63 hbytes hbase
  refine wpList_step fun K hK => ?_
  rw [if_pos hgd]
  unfold Oper.wp execOp
  simp only [ho, resolve, invoke, builtin, Sem.run_bind, Sem.run_pure, Result.andThen_ok, List.map_toArray, List.map_cons, List.map_nil, hs, hx, hr]
  exact hK _ _ (h v' w' h2 h3 h5 h4)

/-- Two more expressions behind. -/
theorem OwnRe.push2 {w W W' : World} {P : Nat → Prop} {v v' : Value} {us : List ReV} {l : List RT} {y z : ReV} {s u : RT} (h : OwnRe w W P v us l) (hy : RAt w P y s) (hz : RAt w P z u) (ho : W'.ownsRow w.heap.size 30 6 v' (l.length + 2) (us.flatMap ReV.cells ++ (y.cells ++ z.cells))) : OwnRe w W' P v' (us ++ [y, z]) (l ++ [s, u]) :=
  h.app (us := [y, z]) (m := [s, u]) rfl (fun j a t ha ht => by
    cases j with
    | zero => simp at ha ht; subst ha ht; exact hy
    | succ j =>
      cases j with
      | zero => simp at ha ht; subst ha ht; exact hz
      | succ j => simp at ha) (by simpa using ho)
/-- Another row grows. -/
theorem OwnRe.beside {w W W' : World} {P : Nat → Prop} {v : Value} {us : List ReV} {l : List RT} (h : OwnRe w W P v us l) {r : Option Nat} (hg : W.grownBy W' r) (hne : v.ownBlock = none ∨ v.ownBlock ≠ r) : OwnRe w W' P v us l :=
  ⟨h.own.kept hg hne, h.len, h.each⟩
def Apart2 (v v' : Value) : Prop := ∀ b, v.ownBlock = some b → v'.ownBlock ≠ some b
theorem Apart2.symm {v v' : Value} (h : Apart2 v v') : Apart2 v' v := fun b hb h' => h b h' hb
theorem Apart2.ne {v v' : Value} (h : Apart2 v v') : v.ownBlock = none ∨ v.ownBlock ≠ v'.ownBlock := by
  cases hb : v.ownBlock with
  | none => exact .inl rfl
  | some b => exact .inr fun e => h b hb e.symm
/-- One of the two grows in its place, or in a new block. -/
theorem Apart2.grow {K : Nat} {v v' u : Value} (h : Apart2 v v') (hu : ∀ b, v'.ownBlock = some b → b < K) (e : u.ownBlock = v.ownBlock ∨ u.ownBlock = some K) : Apart2 u v' := fun b hb h' => by
  rcases e with e | e
  · exact h b (e ▸ hb) h'
  · rw [e] at hb
    injection hb with hb
    have := hu b h'
    omega
theorem between_sum (e : RT) (l : List RT) : ((between e l).map RT.sz).sum = l.length * e.sz + (l.map RT.sz).sum := by
  induction l with
  | nil => simp [between]
  | cons t l ih => rw [between_cons]; simp only [List.map_cons, List.sum_cons, ih, List.length_cons, Nat.succ_mul]; omega
theorem one_empty {W : World} {P : Nat → Prop} : RAt W P ⟨1, 0, 0, 0, 0, none, 0, 0⟩ emptyM := kids_empty.tree 1 W4.zero zero_ok
theorem one_none {W : World} {P : Nat → Prop} : RAt W P ⟨0, 0, 0, 0, 0, none, 0, 0⟩ noneM := kids_empty.tree 0 W4.zero zero_ok

theorem OwnRe.drewAlloc {w W : World} {P : Nat → Prop} {v : Value} {us : List ReV} {l : List RT} (h : OwnRe w W P v us l) (o : Obj) : OwnRe w (W.drew.alloc o) P v us l := ⟨World.ownsRow.alloc (w := W.drew) h.own o, h.len, h.each⟩
theorem OwnRe.alloc1 {w W : World} {P : Nat → Prop} {v : Value} {us : List ReV} {l : List RT} (h : OwnRe w W P v us l) (o : Obj) : OwnRe w (W.alloc o) P v us l := ⟨h.own.alloc o, h.len, h.each⟩
theorem OwnRe.kidsAt {w W : World} {P : Nat → Prop} {q : Option Addr} {n cp : Nat} {us : List ReV} {l : List RT} (h : OwnRe w W P (.slice q n cp) us l) (hb : Below w.heap.size w W) : KidsR W (fun g => P g ∨ w.heap.size ≤ g) q n cp us l := by
  obtain ⟨q', cp', e, hk⟩ := h.slice hb
  injection e with a b c
  subst a b c
  exact hk
theorem OwnRe.blockLt {w W : World} {P : Nat → Prop} {v : Value} {us : List ReV} {l : List RT} (h : OwnRe w W P v us l) : ∀ b, v.ownBlock = some b → b < W.heap.size := fun b hb => (h.own.lt b hb).2
theorem unit_sz : emptyM.sz = 1 ∧ noneM.sz = 1 := ⟨by simp [emptyM, sz_mk], by simp [noneM, sz_mk]⟩
theorem unit_dep : emptyM.dep ≤ 1 ∧ noneM.dep ≤ 1 := ⟨dep_mk.2 fun t ht => by simp at ht, dep_mk.2 fun t ht => by simp at ht⟩

end Go.Proofs.YtchicecmoknkjabDoor

/-! Brackets, order and doubles: of trees. Condition: they are good ones. -/
namespace Go.Proofs.YtchicecmoknkjabDoor
open Go.RowKit Go.Lib
set_option linter.unusedVariables false

/-! ### Either -/
def txE : List Tx → Tx
  | [] => [48]
  | [x] => x
  | x :: y :: l => 123 :: (sepB [124] (x :: y :: l) ++ [125])
noncomputable def keyT (l : List RT) : List Tx := (putsM (byteM l ++ othersM l)).map txt
theorem txt_either (l : List RT) : txt (eitherM l) = txE (keyT (flatM 4 l)) := by
  unfold eitherM keyT
  generalize putsM (byteM (flatM 4 l) ++ othersM (flatM 4 l)) = L
  match L with
  | [] => show txt (.mk 0 W4.zero []) = _; rw [txt_mk, if_pos rfl]; rfl
  | [x] => rfl
  | x :: y :: L =>
    show txt (.mk 4 W4.zero (x :: y :: L)) = _
    rw [txt_mk, if_neg (by decide), if_neg (by decide), if_neg (by decide), if_neg (by decide), if_neg (by decide)]
    rfl
theorem puts_keys (L : List RT) (t : Tx) : t ∈ (putsM L).map txt ↔ t ∈ L.map txt := by
  suffices h : ∀ (L o : List RT), Asc txt o → (t ∈ (L.foldl (fun o r => putL txt r false o) o).map txt ↔ t ∈ o.map txt ∨ t ∈ L.map txt) by
    have := h L [] List.Pairwise.nil
    simpa [putsM] using this
  intro L
  induction L with
  | nil => intro o _; simp
  | cons r L ih =>
    intro o h
    obtain ⟨g1, g2⟩ := putL_asc tlt_trans r o h
    rw [List.foldl_cons, ih _ g1, List.map_cons, List.mem_cons]
    have e : t ∈ (putL txt r false o).map txt ↔ t ∈ o.map txt ∨ t = txt r := by
      constructor
      · intro ht
        obtain ⟨x, hx, rfl⟩ := List.mem_map.1 ht
        rcases (g2 x).1 hx with q | ⟨rfl, _⟩
        · exact .inl (List.mem_map.2 ⟨x, q, rfl⟩)
        · exact .inr rfl
      · rintro (ht | rfl)
        · obtain ⟨x, hx, rfl⟩ := List.mem_map.1 ht
          exact List.mem_map.2 ⟨x, (g2 x).2 (.inl hx), rfl⟩
        · by_cases hy : ∃ y ∈ o, txt y = txt r
          · obtain ⟨y, hy, e⟩ := hy
            exact List.mem_map.2 ⟨y, (g2 y).2 (.inl hy), e⟩
          · exact List.mem_map.2 ⟨r, (g2 r).2 (.inr ⟨rfl, fun y h e => hy ⟨y, h, e⟩⟩), rfl⟩
    rw [e, or_assoc]
theorem key_eq {F G : List RT} (h : ∀ t, t ∈ (byteM F ++ othersM F).map txt ↔ t ∈ (byteM G ++ othersM G).map txt) : keyT F = keyT G := by
  have ha : ∀ L : List RT, Asc (fun x : Tx => x) ((putsM L).map txt) := fun L => by
    unfold Asc
    rw [List.pairwise_map]
    exact (puts_asc L).1
  exact asc_one tlt_trans _ _ (ha _) (ha _) fun t => by show t ∈ (putsM _).map txt ↔ t ∈ (putsM _).map txt; rw [puts_keys, puts_keys, h]
/-- What a list shows of itself in an Either: its bytes, and the texts of its others. -/
structure Shows (F G : List RT) : Prop where
  byt : ∀ b, b < 256 → (F.any fun r => r.kind == 2 && r.set.mem b) = (G.any fun r => r.kind == 2 && r.set.mem b)
  oth : ∀ t, t ∈ (othersM F).map txt ↔ t ∈ (othersM G).map txt
theorem Shows.key {F G : List RT} (h : Shows F G) : keyT F = keyT G := by
  have e : unionM F = unionM G := of_congr h.byt
  refine key_eq fun t => ?_
  unfold byteM
  rw [e, List.map_append, List.map_append, List.mem_append, List.mem_append, h.oth]
theorem Shows.app {F G F' G' : List RT} (h : Shows F G) (h' : Shows F' G') : Shows (F ++ F') (G ++ G') := by
  refine ⟨fun b hb => by rw [List.any_append, List.any_append, h.byt b hb, h'.byt b hb], fun t => ?_⟩
  unfold othersM
  rw [List.filter_append, List.filter_append, List.map_append, List.map_append, List.mem_append, List.mem_append]
  exact or_congr (h.oth t) (h'.oth t)
theorem Shows.of {F G : List RT} (h : ∀ x, x.kind ≠ 0 → (x ∈ F ↔ x ∈ G)) : Shows F G := by
  refine ⟨fun b _ => ?_, fun t => ?_⟩
  · rw [Bool.eq_iff_iff, List.any_eq_true, List.any_eq_true]
    constructor <;> rintro ⟨x, hx, hq⟩ <;> refine ⟨x, ?_, hq⟩ <;> (have hk : x.kind ≠ 0 := by (simp at hq; omega)) <;> first | exact (h x hk).1 hx | exact (h x hk).2 hx
  · rw [List.mem_map, List.mem_map]
    unfold othersM
    constructor <;> rintro ⟨x, hx, rfl⟩ <;> obtain ⟨h1, h2⟩ := List.mem_filter.1 hx <;> refine ⟨x, List.mem_filter.2 ⟨?_, h2⟩, rfl⟩ <;> (have hk : x.kind ≠ 0 := by (simp at h2; exact h2.1)) <;> first | exact (h x hk).1 h1 | exact (h x hk).2 h1
theorem Shows.trans {F G H : List RT} (h : Shows F G) (k : Shows G H) : Shows F H := ⟨fun b hb => (h.byt b hb).trans (k.byt b hb), fun t => (h.oth t).trans (k.oth t)⟩
theorem flat_members {k : Int} {l m : List RT} (h : ∀ x, x ∈ l ↔ x ∈ m) (x : RT) : x ∈ flatM k l ↔ x ∈ flatM k m := by
  unfold flatM
  rw [List.mem_flatMap, List.mem_flatMap]
  exact ⟨fun ⟨y, hy, hx⟩ => ⟨y, (h y).1 hy, hx⟩, fun ⟨y, hy, hx⟩ => ⟨y, (h y).2 hy, hx⟩⟩
/-- Order and doubles make no difference. -/
theorem either_back {l m : List RT} (h : ∀ x, x ∈ l ↔ x ∈ m) : txt (eitherM l) = txt (eitherM m) := by
  rw [txt_either, txt_either, (Shows.of fun x _ => flat_members h x).key]
/-- The text of a byte is none of another's. -/
theorem byte_text {s : W4} {x : RT} (hx : good x) (h0 : x.kind ≠ 0) (h2 : x.kind ≠ 2) (h4 : x.kind ≠ 4) : txt (.mk 2 s []) ≠ txt x := by
  obtain ⟨k, s', kids⟩ := x
  simp only [RT.kind] at h0 h2 h4
  have hl : (txt (.mk 2 s [])).getLast? = some 93 := by
    rw [txt_mk, if_neg (by decide), if_neg (by decide), if_pos rfl, ← List.cons_append, List.getLast?_append]
    rfl
  intro e
  rw [e, txt_mk, if_neg h0] at hl
  obtain ⟨⟨_, hf⟩, _⟩ := good_mk.1 hx
  by_cases h1 : k = 1
  · rw [if_pos h1] at hl
    exact absurd hl (by decide)
  rw [if_neg h1, if_neg h2] at hl
  by_cases h3 : k = 3
  · rw [if_pos h3, ← List.cons_append, List.getLast?_append] at hl
    exact absurd hl (by simp)
  rw [if_neg h3] at hl
  by_cases h5 : k = 5
  · rw [if_pos h5, List.getLast?_append] at hl
    exact absurd hl (by simp)
  rcases hf with ⟨q, _⟩ | ⟨q, _⟩ | ⟨q, _⟩ | ⟨q, _⟩ <;> omega

theorem mem_of (f : Nat → Bool) {b : Nat} (hb : b < 256) : (W4.of f).mem b = f b := (W4.isSet (of_ok f)).inj (of_isSet f) b hb
/-- What an Either's answer shows in an Either is what its parts show. -/
theorem shows_either {a : List RT} (h : ∀ t ∈ a, good t) : Shows (flatM 4 [eitherM a]) (flatM 4 a) := by
  obtain ⟨_, p2⟩ := puts_asc (byteM (flatM 4 a) ++ othersM (flatM 4 a))
  have pk := puts_keys (byteM (flatM 4 a) ++ othersM (flatM 4 a))
  have hgo := good_flat (k := 4) h
  have hk4 := flat_kinds (k := 4) (.inr rfl) h
  have hE : eitherM a = someM 4 0 (putsM (byteM (flatM 4 a) ++ othersM (flatM 4 a))) := rfl
  rw [hE]
  generalize putsM (byteM (flatM 4 a) ++ othersM (flatM 4 a)) = L at p2 pk
  generalize flatM 4 a = A at p2 pk hgo hk4
  have hoth : ∀ x ∈ othersM A, x ∈ A ∧ x.kind ≠ 0 ∧ x.kind ≠ 2 := fun x hx => by
    obtain ⟨h1, h2⟩ := List.mem_filter.1 hx
    simp at h2
    exact ⟨h1, h2⟩
  have hbyt : ∀ x ∈ byteM A, x = .mk 2 (unionM A) [] ∧ unionM A ≠ W4.zero := fun x hx => by
    unfold byteM at hx
    split at hx
    · simp at hx
    · simp at hx; exact ⟨hx, by assumption⟩
  have hne : ∀ x ∈ othersM A, txt (.mk 2 (unionM A) []) ≠ txt x := fun x hx => byte_text (hgo x (hoth x hx).1) (hoth x hx).2.1 (hoth x hx).2.2 (hk4 x (hoth x hx).1)
  have hL4 : ∀ x ∈ L, x.kind ≠ 4 ∧ x.kind ≠ 0 := fun x hx => by
    rcases List.mem_append.1 (p2 x hx) with q | q
    · rw [(hbyt x q).1]; exact ⟨by show (2 : Int) ≠ 4; decide, by show (2 : Int) ≠ 0; decide⟩
    · exact ⟨hk4 x (hoth x q).1, (hoth x q).2.1⟩
  have hZ : unionM A ≠ W4.zero → RT.mk 2 (unionM A) [] ∈ L := fun hz => by
    have h1 := (pk (txt (.mk 2 (unionM A) []))).2 (by
      rw [List.map_append, List.mem_append]
      left
      unfold byteM
      rw [if_neg hz]
      simp)
    obtain ⟨x, hx, e⟩ := List.mem_map.1 h1
    rcases List.mem_append.1 (p2 x hx) with q | q
    · rw [← (hbyt x q).1]; exact hx
    · exact absurd e.symm (hne x q)
  have h1 : Shows (flatM 4 [someM 4 0 L]) L := Shows.of fun x hx0 => by
    match L, hL4 with
    | [], _ =>
      have e : flatM 4 [someM 4 0 []] = [RT.mk 0 W4.zero []] := flat_one (by show (0 : Int) ≠ 4; decide)
      rw [e]
      constructor
      · intro q
        rw [List.mem_singleton.1 q] at hx0
        exact absurd rfl hx0
      · intro q; simp at q
    | [y], hy =>
      have e : flatM 4 [someM 4 0 [y]] = [y] := flat_one (hy y (by simp)).1
      rw [e]
    | y :: z :: M, _ =>
      have e : flatM 4 [someM 4 0 (y :: z :: M)] = y :: z :: M := by
        show flatM 4 [RT.mk 4 W4.zero (y :: z :: M)] = _
        simp [flatM, RT.kids, RT.kind]
      rw [e]
  refine h1.trans ⟨fun b hb => ?_, fun t => ?_⟩
  · have hU : (A.any fun r => r.kind == 2 && r.set.mem b) = (unionM A).mem b := (mem_of (fun b => A.any fun r => r.kind == 2 && r.set.mem b) hb).symm
    rw [hU, Bool.eq_iff_iff, List.any_eq_true]
    constructor
    · rintro ⟨x, hx, hq⟩
      simp at hq
      rcases List.mem_append.1 (p2 x hx) with q | q
      · have := (hbyt x q).1
        rw [this] at hq
        exact hq.2
      · exact absurd hq.1 (hoth x q).2.2
    · intro hm
      by_cases hz : unionM A = W4.zero
      · have := (of_zero _).1 hz b hb
        rw [← hU, this] at hm
        cases hm
      · exact ⟨_, hZ hz, by rw [Bool.and_eq_true]; exact ⟨rfl, hm⟩⟩
  · rw [List.mem_map, List.mem_map]
    constructor
    · rintro ⟨x, hx, rfl⟩
      obtain ⟨q1, q2⟩ := List.mem_filter.1 hx
      simp at q2
      rcases List.mem_append.1 (p2 x q1) with q | q
      · exact absurd (by rw [(hbyt x q).1]; rfl) q2.2
      · exact ⟨x, q, rfl⟩
    · rintro ⟨x, hx, rfl⟩
      have h2 := (pk (txt x)).2 (by rw [List.map_append, List.mem_append]; exact .inr (List.mem_map.2 ⟨x, hx, rfl⟩))
      obtain ⟨y, hy, e⟩ := List.mem_map.1 h2
      refine ⟨y, ?_, e⟩
      rcases List.mem_append.1 (p2 y hy) with q | q
      · rw [(hbyt y q).1] at e
        exact absurd e (hne x hx)
      · refine List.mem_filter.2 ⟨hy, ?_⟩
        simp [(hoth y q).2.1, (hoth y q).2.2]
theorem either_two {a b : List RT} (ha : ∀ t ∈ a, good t) (hb : ∀ t ∈ b, good t) : txt (eitherM [eitherM a, eitherM b]) = txt (eitherM (a ++ b)) := by
  rw [txt_either, txt_either, flat_app, show [eitherM a, eitherM b] = [eitherM a] ++ [eitherM b] from rfl, flat_app, ((shows_either ha).app (shows_either hb)).key]

/-! ### Cat -/
theorem flat_cat {a : List RT} (h : ∀ t ∈ a, good t) : (flatM 3 [catM a]).any (fun r => r.kind == 0) = (flatM 3 a).any (fun r => r.kind == 0) ∧
    ((flatM 3 a).any (fun r => r.kind == 0) = false → (flatM 3 [catM a]).filter (fun r => !(r.kind == 1)) = (flatM 3 a).filter (fun r => !(r.kind == 1))) := by
  have hk3 := flat_kinds (k := 3) (.inl rfl) h
  unfold catM
  generalize flatM 3 a = A at hk3
  by_cases hn : A.any (fun r => r.kind == 0) = true
  · rw [if_pos hn, hn, flat_one (by show (0 : Int) ≠ 3; decide)]
    exact ⟨rfl, fun q => by cases q⟩
  · have hf : A.any (fun r => r.kind == 0) = false := by simpa using hn
    rw [if_neg hn, hf]
    have h0 : ∀ t ∈ A.filter (fun r => !(r.kind == 1)), t.kind ≠ 0 ∧ t.kind ≠ 1 ∧ t.kind ≠ 3 := fun t ht => by
      obtain ⟨q1, q2⟩ := List.mem_filter.1 ht
      exact ⟨fun e => by have := List.any_eq_false.1 hf t q1; simp [e] at this, by simpa using q2, hk3 t q1⟩
    generalize A.filter (fun r => !(r.kind == 1)) = L at h0
    have e : ∀ M : List RT, (∀ t ∈ M, t.kind ≠ 0 ∧ t.kind ≠ 1 ∧ t.kind ≠ 3) → M.any (fun r => r.kind == 0) = false ∧ M.filter (fun r => !(r.kind == 1)) = M := fun M hM => by
      refine ⟨List.any_eq_false.2 fun t ht => by simpa using (hM t ht).1, List.filter_eq_self.2 fun t ht => by simpa using (hM t ht).2.1⟩
    match L, h0 with
    | [], _ =>
      have e1 : flatM 3 [someM 3 1 []] = [RT.mk 1 W4.zero []] := flat_one (by show (1 : Int) ≠ 3; decide)
      rw [e1]
      exact ⟨rfl, fun _ => rfl⟩
    | [y], hy =>
      have e1 : flatM 3 [someM 3 1 [y]] = [y] := flat_one (hy y (by simp)).2.2
      rw [e1]
      exact ⟨(e _ hy).1, fun _ => (e _ hy).2⟩
    | y :: z :: M, hy =>
      have e1 : flatM 3 [someM 3 1 (y :: z :: M)] = y :: z :: M := by
        show flatM 3 [RT.mk 3 W4.zero (y :: z :: M)] = _
        simp [flatM, RT.kids, RT.kind]
      rw [e1]
      exact ⟨(e _ hy).1, fun _ => (e _ hy).2⟩
theorem cat_two {a b : List RT} (ha : ∀ t ∈ a, good t) (hb : ∀ t ∈ b, good t) : catM [catM a, catM b] = catM (a ++ b) := by
  obtain ⟨a1, a2⟩ := flat_cat ha
  obtain ⟨b1, b2⟩ := flat_cat hb
  have e : flatM 3 [catM a, catM b] = flatM 3 [catM a] ++ flatM 3 [catM b] := by rw [← flat_app]; rfl
  have eu : ∀ l, catM l = if (flatM 3 l).any (fun r => r.kind == 0) then noneM else someM 3 1 ((flatM 3 l).filter fun r => !(r.kind == 1)) := fun l => rfl
  rw [eu [catM a, catM b], eu (a ++ b), e, flat_app, List.any_append, List.any_append, a1, b1]
  by_cases hn : ((flatM 3 a).any (fun r => r.kind == 0) || (flatM 3 b).any (fun r => r.kind == 0)) = true
  · rw [if_pos hn, if_pos hn]
  · rw [if_neg hn, if_neg hn]
    rw [Bool.or_eq_true, not_or] at hn
    rw [List.filter_append, List.filter_append, a2 (by simpa using hn.1), b2 (by simpa using hn.2)]

end Go.Proofs.YtchicecmoknkjabDoor

/-! A row of expressions cut in two: both pieces are rows of expressions. No condition. -/
namespace Go.Proofs.YtchicecmoknkjabDoor
open Go.RowKit Go.Lib
set_option linter.unusedVariables false

theorem flat6_pre {vs : List ReV} {k j : Nat} {u : Value} (h : ((vs.take k).flatMap ReV.cells)[j]? = some u) : (vs.flatMap ReV.cells)[j]? = some u := by
  have e : vs.flatMap ReV.cells = (vs.take k).flatMap ReV.cells ++ (vs.drop k).flatMap ReV.cells := by rw [← List.flatMap_append, List.take_append_drop]
  rw [e, List.getElem?_append_left (List.getElem?_eq_some_iff.1 h).1]
  exact h
theorem flat6_post {vs : List ReV} {k j : Nat} {u : Value} (hk : k ≤ vs.length) (h : ((vs.drop k).flatMap ReV.cells)[j]? = some u) : (vs.flatMap ReV.cells)[k * 6 + j]? = some u := by
  have e : vs.flatMap ReV.cells = (vs.take k).flatMap ReV.cells ++ (vs.drop k).flatMap ReV.cells := by rw [← List.flatMap_append, List.take_append_drop]
  have hl : ((vs.take k).flatMap ReV.cells).length = k * 6 := by rw [flat6_len, List.length_take, Nat.min_eq_left hk]
  rw [e, List.getElem?_append_right (by rw [hl]; omega), hl, show k * 6 + j - k * 6 = j by omega]
  exact h
theorem KidsR.takeK {W : World} {P : Nat → Prop} {g off n cap : Nat} {vs : List ReV} {l : List RT} (h : KidsR W P (some ⟨g, off, none⟩) n cap vs l) {k : Nat} (hk : k ≤ n) : KidsR W P (some ⟨g, off, none⟩) k cap (vs.take k) (l.take k) := by
  have hn := h.num
  have hl := h.len
  refine ⟨?_, by rw [List.length_take]; omega, by rw [List.length_take, List.length_take]; omega, fun i y t hy ht => ?_⟩
  · rcases h.row with ⟨h0, h1⟩ | ⟨g', off', e, h1, h2, h3, h4, h5⟩
    · exact .inl ⟨by omega, h1⟩
    · exact .inr ⟨g', off', e, by omega, h2, h3, h4, fun j u hj => h5 j u (flat6_pre hj)⟩
  · rw [List.getElem?_take] at hy ht
    split at hy
    · rename_i hik
      rw [if_pos hik] at ht
      exact h.each i y t hy ht
    · cases hy
theorem KidsR.dropK {W : World} {P : Nat → Prop} {g off n cap : Nat} {vs : List ReV} {l : List RT} (h : KidsR W P (some ⟨g, off, none⟩) n cap vs l) {k : Nat} (hk : k < n) : KidsR W P (some ⟨g, off + k * 6, none⟩) (n - k) (cap - k) (vs.drop k) (l.drop k) := by
  have hn := h.num
  have hl := h.len
  refine ⟨?_, by rw [List.length_drop]; omega, by rw [List.length_drop, List.length_drop]; omega, fun i y t hy ht => ?_⟩
  · rcases h.row with ⟨h0, h1⟩ | ⟨g', off', e, h1, h2, h3, h4, h5⟩
    · omega
    · obtain ⟨rfl, rfl⟩ : g = g' ∧ off = off' := by simp at e; exact e
      exact .inr ⟨g, off + k * 6, rfl, by omega, by omega, h3, h4, fun j u hj => by
        rw [Nat.add_assoc]
        exact h5 _ u (flat6_post (by omega) hj)⟩
  · rw [List.getElem?_drop] at hy ht
    exact h.each _ y t hy ht

end Go.Proofs.YtchicecmoknkjabDoor

/-! Cat, Either and Text as RegexBrackets calls them: the answer's fields by name, its blocks of any kind. No condition but size. -/
namespace Go.Proofs.YtchicecmoknkjabDoor
open Go.RowKit Go.Lib
set_option linter.unusedVariables false

/-- The answer is this tree. -/
def GivesT (t : RT) (W : World) (e : Ending) (w' : World) : Prop :=
  ∃ (k a b c d : Int) (q : Option Addr) (m cp : Nat), e = .returned (.agg #[.int .i64 k, .int .u64 a, .int .u64 b, .int .u64 c, .int .u64 d, .slice q m cp]) ∧ RAt w' (fun _ => True) ⟨k, a, b, c, d, q, m, cp⟩ t ∧ Below W.heap.size W w'
theorem givesT {P : Nat → Prop} {t : RT} {W : World} {e : Ending} {w' : World} (h : GivesRe P t W e w') : GivesT t W e w' := by
  obtain ⟨⟨k, a, b, c, d, q, m, cp⟩, he, hr, hb⟩ := h
  exact ⟨k, a, b, c, d, q, m, cp, he, hr.weak fun _ _ _ => trivial, hb⟩
theorem catT {P : Nat → Prop} {W : World} {p : Option Addr} {n cap : Nat} {vs : List ReV} {l : List RT} (h : KidsR W P p n cap vs l) (hsz : (l.map RT.sz).sum ≤ 1000000000) :
    Calls Tryd.prog 8 #[.slice p n cap] W (GivesT (catM l) W) := (cat_any W h hsz).mono fun _ _ q => givesT q
theorem eitherT {P : Nat → Prop} {W : World} {p : Option Addr} {n cap : Nat} {vs : List ReV} {l : List RT} (h : KidsR W P p n cap vs l) (hT : Tab1 W) (hdep : ∀ t ∈ l, t.dep < 10000) (hsz : (l.map RT.sz).sum ≤ 1000000000) :
    Calls Tryd.prog 9 #[.slice p n cap] W (GivesT (eitherM l) W) := (either_any W h hT hdep hsz).mono fun _ _ q => givesT q
theorem textT {P : Nat → Prop} {W : World} {k a b c d : Int} {q : Option Addr} {m cp : Nat} {t : RT} {S : ByteArray} (hr : RAt W P ⟨k, a, b, c, d, q, m, cp⟩ t) (hT : Tab1 W) (hdep : t.dep < 10000) (hsz : t.sz ≤ 1000000000) (hS : S = ⟨(txt t).toArray⟩) :
    Calls Tryd.prog 7 #[.agg #[.int .i64 k, .int .u64 a, .int .u64 b, .int .u64 c, .int .u64 d, .slice q m cp]] W fun e w' => e = .returned (.string S) ∧ Below W.heap.size W w' := by
  rw [hS]
  exact text_any W ⟨k, a, b, c, d, q, m, cp⟩ t hT hr hdep hsz
/-- Two just laid in a row. -/
theorem pairK {W : World} {P : Nat → Prop} {x y : ReV} {s t : RT} (hx : RAt W P x s) (hy : RAt W P y t) (cs : Array Value) (hc : cs.toList = x.cells ++ y.cells) :
    KidsR (W.alloc (.cells cs 30)) (fun _ => True) (some ⟨W.heap.size, 0, none⟩) 2 2 [x, y] [s, t] := by
  have hb : Below W.heap.size W (W.alloc (.cells cs 30)) := (Below.refl _ _).alloc (Nat.le_refl _) _
  have hn := heap_alloc_new W (.cells cs 30)
  refine ⟨.inr ⟨W.heap.size, 0, rfl, Nat.le_refl _, by decide, trivial, ⟨_, _, by decide, hn⟩, fun j u hj => ?_⟩, rfl, rfl, fun i z r hz hr => ?_⟩
  · rw [Nat.zero_add]
    have e : [x, y].flatMap ReV.cells = cs.toList := by rw [hc]; simp
    rw [e] at hj
    simp only [World.cell?, hn]
    simpa using hj
  · cases i with
    | zero => simp at hz hr; subst hz hr; exact (hx.under hb).weak fun _ _ _ => trivial
    | succ i =>
      cases i with
      | zero => simp at hz hr; subst hz hr; exact (hy.under hb).weak fun _ _ _ => trivial
      | succ i => simp at hz
theorem two_sum (s t : RT) (hs : s.sz ≤ 100000) (ht : t.sz ≤ 100000) : ([s, t].map RT.sz).sum ≤ 1000000000 := by simp; omega
theorem sum_all {l : List RT} {B : Nat} (h : ∀ t ∈ l, t.sz ≤ B) : (l.map RT.sz).sum ≤ l.length * B := by
  induction l with
  | nil => simp
  | cons a l ih =>
    have h1 := h a (by simp)
    have h2 := ih fun t ht => h t (by simp [ht])
    simp only [List.map_cons, List.sum_cons, List.length_cons, Nat.succ_mul]
    omega

end Go.Proofs.YtchicecmoknkjabDoor

/-! A region that draws its order, by an invariant: each operation is walked once. No condition. -/
namespace Go.Proofs.YtchicecmoknkjabDoor
open Go.RowKit
set_option linter.unusedVariables false
set_option linter.unusedSimpArgs false

section
variable {P : Program} {ops : Array Oper} {Q : Exit → Act → World → Prop} {md : Region.Mode}
theorem ready_iff {listed : Array Bool} {i : Nat} : i ∈ Region.ready md ops listed ↔ i < ops.size ∧ listed.getD i true = false ∧ ∃ o, ops[i]? = some o ∧ ∀ e ∈ o.after, Region.binds md e = true → listed.getD e.on false = true := by
  unfold Region.ready
  rw [List.mem_filter, List.mem_range]
  refine and_congr_right fun hi => ?_
  rw [Array.getElem?_eq_getElem hi]
  simp only [Option.map_some, Option.getD_some, Bool.and_eq_true, Bool.not_eq_true', Array.all_eq_true_iff_forall_mem, Bool.or_eq_true]
  refine and_congr_right fun _ => ⟨fun h => ⟨_, rfl, fun e he hb => (h e he).resolve_left (by simp [hb])⟩, fun ⟨o, ho, h⟩ e he => ?_⟩
  have e1 := Option.some.inj ho
  subst e1
  cases hb : Region.binds md e with
  | false => exact .inl rfl
  | true => exact .inr (h e he hb)
theorem count_set : ∀ (l : List Bool) (i : Nat), l[i]? = some false → (l.set i true).count false + 1 = l.count false
  | [], i, h => by simp at h
  | b :: l, 0, h => by
    simp at h
    subst h
    simp
  | b :: l, i + 1, h => by
    simp at h
    have := count_set l i h
    simp only [List.set_cons_succ, List.count_cons]
    omega
theorem wpAny_inv {J : Array Bool → Act → World → Prop} (hstep : ∀ (listed : Array Bool) (a : Act) (w : World) (i : Nat), listed.size = ops.size → J listed a w → i ∈ Region.ready md ops listed → wpOp P ops Q i (J (listed.setIfInBounds i true)) a w)
    (hdone : ∀ (listed : Array Bool) (a : Act) (w : World), listed.size = ops.size → J listed a w → Region.ready md ops listed = [] → Q .normal a w) :
    ∀ (fuel : Nat) (listed : Array Bool) (a : Act) (w : World), listed.size = ops.size → listed.toList.count false ≤ fuel → J listed a w → wpAny P md ops Q fuel listed a w
  | 0, listed, a, w, hs, hc, hJ => by
    have hr : Region.ready md ops listed = [] := by
      rw [List.eq_nil_iff_forall_not_mem]
      intro i hi
      obtain ⟨h1, h2, _⟩ := ready_iff.1 hi
      have hl : i < listed.size := by omega
      rw [Array.getD_eq_getD_getElem?, Array.getElem?_eq_getElem hl] at h2
      have hm : false ∈ listed.toList := by
        rw [← show listed[i] = false from h2]
        exact Array.getElem_mem_toList hl
      have := List.count_pos_iff.2 hm
      omega
    exact ⟨hr, hdone _ _ _ hs hJ hr⟩
  | fuel + 1, listed, a, w, hs, hc, hJ => by
    refine ⟨hdone _ _ _ hs hJ, fun i hi => wpOp_mono (fun a' w' h => wpAny_inv hstep hdone fuel _ a' w' (by simpa using hs) ?_ h) (hstep _ _ _ i hs hJ hi)⟩
    obtain ⟨h1, h2, _⟩ := ready_iff.1 hi
    have hl : i < listed.size := by omega
    rw [Array.getD_eq_getD_getElem?, Array.getElem?_eq_getElem hl] at h2
    have h3 := count_set listed.toList i (by rw [Array.getElem?_toList, Array.getElem?_eq_getElem hl]; exact congrArg some h2)
    rw [Array.toList_setIfInBounds]
    omega
/-- Where each operation waits for elder ones alone, all have come up in the end. -/
theorem all_listed {listed : Array Bool} (hacy : ∀ (i : Nat) (o : Oper), ops[i]? = some o → ∀ e ∈ o.after, e.on < i) (hs : listed.size = ops.size) (hr : Region.ready md ops listed = []) : ∀ i, i < ops.size → listed.getD i false = true := by
  intro i
  induction i using Nat.strongRecOn with
  | _ i ih =>
  intro hi
  cases hl : listed.getD i false with
  | true => rfl
  | false =>
    have hm : i ∈ Region.ready md ops listed := ready_iff.2 ⟨hi, by rw [Array.getD_eq_getD_getElem?, Array.getElem?_eq_getElem (by omega)] at hl ⊢; exact hl, ops[i], Array.getElem?_eq_getElem hi, fun e he _ => ih e.on (hacy i _ (Array.getElem?_eq_getElem hi) e he) (by have := hacy i _ (Array.getElem?_eq_getElem hi) e he; omega)⟩
    rw [hr] at hm
    cases hm
/-- A region that draws its order, by what holds at every time. -/
theorem wp_region_inv {id : Nat} {a : Act} {w : World} (J : Array Bool → Act → World → Prop) (hm : P.follows .mixedOrders = true)
    (h0 : J (Array.replicate ops.size false) a { w with drawn := w.drawn + 1 })
    (hstep : ∀ (listed : Array Bool) (a : Act) (w : World) (i : Nat), listed.size = ops.size → J listed a w → i ∈ Region.ready .any ops listed → wpOp P ops Q i (J (listed.setIfInBounds i true)) a w)
    (hdone : ∀ (listed : Array Bool) (a : Act) (w : World), listed.size = ops.size → J listed a w → Region.ready .any ops listed = [] → Q .normal a w) : (Code.region id ops true).wp P Q a w :=
  wp_region_any hm (wpAny_inv hstep hdone ops.size _ a _ (by simp) (by simp) h0)
end

end Go.Proofs.YtchicecmoknkjabDoor

/-! The last region of RegexBrackets: whatever order its operations take, what it asks comes out true. No condition. -/
namespace Go.Proofs.YtchicecmoknkjabDoor
open Go.RowKit Go.Lib
set_option linter.unusedVariables false
set_option linter.unusedSimpArgs false

noncomputable def opsAt (n : Nat) : Code → Array Oper
  | .region m ops _ => if m = n then ops else #[]
  | .seq a b => if (opsAt n a).size = 0 then opsAt n b else opsAt n a
  | _ => #[]
noncomputable def opsB : Array Oper := ((Tryd.prog.funcs[3]?.bind (·.body)).map (opsAt 15)).getD #[]
theorem opsB_size : opsB.size = 39 := by kernel_rfl
theorem opsB_elder : (opsB.toList.zipIdx.all fun x => x.1.after.all fun e => decide (e.on < x.2)) = true := by kernel_rfl
theorem opsB_acy (i : Nat) (o : Oper) (h : opsB[i]? = some o) : ∀ e ∈ o.after, e.on < i := by
  have h1 := List.all_eq_true.1 opsB_elder (o, i) (by rw [List.mem_zipIdx_iff_getElem?]; simpa using h)
  intro e he
  simpa using (Array.all_eq_true_iff_forall_mem.1 h1) e he
def dB (i : Nat) : Nat := if i = 38 then 4 else i + 51

/-- What a slot holds: this value, an expression, two in a row. -/
inductive SB
  | v (u : Value)
  | x (t : RT)
  | k (s t : RT)
def SB.at : SB → World → Value → Prop
  | .v u, _, z => z = u
  | .x t, W, z => ∃ (k a b c d : Int) (q : Option Addr) (m cp : Nat), z = .agg #[.int .i64 k, .int .u64 a, .int .u64 b, .int .u64 c, .int .u64 d, .slice q m cp] ∧ RAt W (fun _ => True) ⟨k, a, b, c, d, q, m, cp⟩ t
  | .k s t, W, z => ∃ (q : Option Addr) (m cp : Nat) (vs : List ReV), z = .slice q m cp ∧ KidsR W (fun _ => True) q m cp vs [s, t]
theorem SB.under {s : SB} {W W' : World} {z : Value} (h : s.at W z) (hb : Below W.heap.size W W') : s.at W' z := by
  cases s with
  | v u => exact h
  | x t => obtain ⟨_, _, _, _, _, _, _, _, e, h⟩ := h; exact ⟨_, _, _, _, _, _, _, _, e, h.under hb⟩
  | k s t => obtain ⟨_, _, _, _, e, h⟩ := h; exact ⟨_, _, _, _, e, h.under hb⟩
/-- The values and trees that the region meets. -/
structure BP where
  F : Value
  A : Value
  B : Value
  Q : Value
  K : Value
  S1 : Value
  S2 : Value
  TA : RT
  TB : RT
  TF : RT
  EA : RT
  EB : RT
  E2 : RT
  EL : RT
def tt : Value := .bool true
def BP.s (p : BP) : List SB := [.v tt, .v tt, .v p.S1, .v p.F, .v p.K, .v p.A, .x p.TA, .v p.F, .v p.K, .v p.B, .x p.TB, .k p.TA p.TB, .x p.TF, .v p.S1, .v tt, .v tt, .v tt, .v p.S2, .v p.F, .v p.K, .v p.A, .x p.EA, .v p.F, .v p.K, .v p.B, .x p.EB, .k p.EA p.EB, .x p.E2, .v p.S2, .v tt, .v tt, .v tt, .v p.S2, .v p.Q, .x p.EL, .v p.S2, .v tt, .v tt, .v tt]
def BP.f (p : BP) : List (Nat × Value) := [(5, tt), (6, p.F), (7, p.K), (8, p.Q), (10, p.S1), (11, p.S2)]
/-- While the region runs. -/
def JB (p : BP) (W : World) (L : Array Bool) (a : Act) (w : World) : Prop :=
  a.tmps.size = 89 ∧ a.defers = [] ∧ Below W.heap.size W w ∧ (∀ x ∈ p.f, a.tmps.getD x.1 undef = x.2) ∧ ∀ (i : Nat) (s : SB), p.s[i]? = some s → L.getD i false = true → s.at w (a.tmps.getD (dB i) undef)
theorem BP.len {p : BP} {i : Nat} {s : SB} (h : p.s[i]? = some s) : i < 39 := (List.getElem?_eq_some_iff.1 h).1
section
variable {p : BP} {W w w' : World} {v : Value} {i j : Nat} {L : Array Bool} {a : Act} {s : SB} {K : Act → World → Prop} {Q : Exit → Act → World → Prop} {o : Oper}
theorem JB.step (h : JB p W L a w) (hi : p.s[i]? = some s) (hL : L.size = 39) (hs : s.at w' v) (hb : Below w.heap.size w w') : JB p W (L.setIfInBounds i true) (a.put (some (dB i)) v) w' := by
  obtain ⟨h1, h2, h3, h4, h6⟩ := h
  have hi' := BP.len hi
  have hd : dB i < 89 ∧ dB i ≠ 5 ∧ dB i ≠ 6 ∧ dB i ≠ 7 ∧ dB i ≠ 8 ∧ dB i ≠ 10 ∧ dB i ≠ 11 := by unfold dB; split <;> omega
  refine ⟨by simpa [Act.put] using h1, h2, h3.trans (hb.mono h3.size), fun x hx => ?_, fun k s' hk hl => ?_⟩
  · have hne : dB i ≠ x.1 := by
      simp [BP.f] at hx
      rcases hx with rfl | rfl | rfl | rfl | rfl | rfl <;> simp only [] <;> omega
    simp only [Act.put]
    rw [Array.getD_eq_getD_getElem?, Array.getElem?_setIfInBounds_ne hne, ← Array.getD_eq_getD_getElem?]
    exact h4 x hx
  · have hk' := BP.len hk
    simp only [Act.put]
    by_cases e : k = i
    · subst e
      rw [hi] at hk
      obtain rfl := Option.some.inj hk
      rw [Array.getD_eq_getD_getElem?, Array.getElem?_setIfInBounds_self_of_lt (by omega)]
      exact hs
    · have hne : dB i ≠ dB k := by unfold dB; split <;> split <;> omega
      rw [Array.getD_eq_getD_getElem?, Array.getElem?_setIfInBounds_ne hne, ← Array.getD_eq_getD_getElem?]
      rw [Array.getD_eq_getD_getElem?, Array.getElem?_setIfInBounds_ne (Ne.symm e), ← Array.getD_eq_getD_getElem?] at hl
      exact SB.under (h6 k s' hk hl) hb
theorem JB.get (h : JB p W L a w) (hr : i ∈ Region.ready .any opsB L) (hd : ((opsB[i]?).map fun o => o.after.any fun e => decide (e.on = j) && Region.binds .any e) = some true) (hj : p.s[j]? = some s) : s.at w (a.tmps.getD (dB j) undef) := by
  obtain ⟨_, _, o, ho, h3⟩ := ready_iff.1 hr
  rw [ho] at hd
  have hd' : (o.after.any fun e => decide (e.on = j) && Region.binds .any e) = true := Option.some.inj hd
  rw [← Array.any_toList] at hd'
  obtain ⟨e, he, hc⟩ := List.any_eq_true.1 hd'
  have he := Array.mem_toList_iff.1 he
  simp only [Bool.and_eq_true, decide_eq_true_eq] at hc
  have := h3 e he hc.2
  rw [hc.1] at this
  exact h.2.2.2.2 j s hj this
set_option maxRecDepth 100000 in
theorem atB {d : Nat} {X : Op} (hm : ((opsB[i]?).map fun o => (o.dst, o.op, o.guard)) = some (some d, X, none)) (h : ∀ o : Oper, o.op = X → o.dst = some d → o.wp Tryd.prog a w K Q) : wpOp Tryd.prog opsB Q i K a w := by
  obtain ⟨o, ho, he⟩ := Option.map_eq_some_iff.1 hm
  simp only [Prod.mk.injEq] at he
  unfold wpOp
  rw [ho]
  show if Region.wanted o _ then _ else _
  rw [if_pos (by unfold Region.wanted; rw [he.2.2])]
  exact .inl (h o he.2.1 he.1)
set_option maxRecDepth 100000 in
theorem atG {d : Nat} {X : Op} {g : Nat} (hm : ((opsB[i]?).map fun o => (o.dst, o.op, o.guard)) = some (some d, X, some (g, true))) (hg : (opsB[g]?).bind (·.dst) = some (dB g)) (hv : a.tmps.getD (dB g) undef = tt) (h : ∀ o : Oper, o.op = X → o.dst = some d → o.wp Tryd.prog a w K Q) : wpOp Tryd.prog opsB Q i K a w := by
  obtain ⟨o, ho, he⟩ := Option.map_eq_some_iff.1 hm
  simp only [Prod.mk.injEq] at he
  have hy : yielded opsB a.tmps g = some true := by
    unfold yielded
    rw [hg]
    show (match a.tmps[dB g]? with | some (.bool b) => some b | _ => none) = some true
    rw [Array.getD_eq_getD_getElem?] at hv
    cases e : a.tmps[dB g]? with
    | none => rw [e] at hv; exact absurd hv (by unfold undef tt; simp)
    | some z => rw [e] at hv; simp at hv; rw [hv]; rfl
  unfold wpOp
  rw [ho]
  show if Region.wanted o _ then _ else _
  rw [if_pos (by unfold Region.wanted; rw [he.2.2]; simp [hy])]
  exact .inl (h o he.2.1 he.1)
theorem opMove {d : Tmp} {s : SB} (hd : s.at w (a.tmps.getD d undef)) (ho : o.op = .move (.tmp d)) (hK : ∀ v w', s.at w' v → Below w.heap.size w w' → K (a.put o.dst v) w') : o.wp Tryd.prog a w K Q :=
  by
  unfold Oper.wp execOp
  simp only [ho]
  exact hK _ _ hd (Below.refl _ _)
theorem opAssign {d : Tmp} {s : SB} (hd : s.at w (a.tmps.getD d undef)) (ho : o.op = .assign (.tmp d)) (hK : ∀ v w', s.at w' v → Below w.heap.size w w' → K (a.put o.dst v) w') : o.wp Tryd.prog a w K Q :=
  by
  unfold Oper.wp execOp
  simp only [ho]
  exact hK _ _ hd (Below.refl _ _)
theorem opPick {c d : Tmp} (hc : a.tmps.getD c undef = tt) (hd : a.tmps.getD d undef = tt) (ho : o.op = .pick (.tmp c) (.tmp d) (.const (.bool false))) (hK : ∀ v w', (SB.v tt).at w' v → Below w.heap.size w w' → K (a.put o.dst v) w') : o.wp Tryd.prog a w K Q := by
  have hx : a.eval (.tmp c) = .bool true := hc
  have hy : a.eval (.tmp d) = .bool true := hd
  have hk := hK (.bool true) w rfl (Below.refl _ _)
  unfold Oper.wp
  generalize a.eval = ev at hx hy ⊢
  simp [execOp, ho, hx, hy, go_sem]
  exact hk
theorem opEql {c d : Tmp} {S : ByteArray} (hc : a.tmps.getD c undef = .string S) (hd : a.tmps.getD d undef = .string S) (ho : o.op = .binOp .eql 9 (.tmp c) (.tmp d) 9) (hK : ∀ v w', (SB.v tt).at w' v → Below w.heap.size w w' → K (a.put o.dst v) w') : o.wp Tryd.prog a w K Q := by
  have hx : a.eval (.tmp c) = .string S := hc
  have hy : a.eval (.tmp d) = .string S := hd
  have hk := hK (.bool true) w rfl (Below.refl _ _)
  unfold Oper.wp
  generalize a.eval = ev at hx hy ⊢
  simp [execOp, ho, hx, hy, go_sem]
  exact hk
set_option maxRecDepth 100000 in
theorem opCall {F : FuncId} {d : Tmp} {T : Array TypeId} {R : Ending → World → Prop} {s : SB} (ho : o.op = .call { callee := .value (.func F), args := #[.tmp d], argTypes := T }) (hc : Calls Tryd.prog F #[a.tmps.getD d undef] w R)
    (hF : ∀ args w, (callFunc F args).run Tryd.prog w = .ok (.enter F args) w)
    (hR : ∀ e w', R e w' → ∃ v, e = .returned v ∧ s.at w' v ∧ Below w.heap.size w w') (hK : ∀ v w', s.at w' v → Below w.heap.size w w' → K (a.put o.dst v) w') : o.wp Tryd.prog a w K Q := by
  unfold Oper.wp
  obtain ⟨u, hu⟩ : ∃ u, u = a.tmps.getD d undef := ⟨_, rfl⟩
  rw [← hu] at hc
  have hx : a.eval (.tmp d) = u := hu.symm
  have hf : a.eval (.func F) = .func (.func F) #[] #[] := rfl
  generalize a.eval = ev at hx hf ⊢
  simp [execOp, ho, hx, hf, go_sem, hF, resolve, invoke]
  refine hc.mono (fun e w' hr => ?_)
  obtain ⟨v, rfl, hs, hb⟩ := hR e w' hr
  exact hK v w' hs hb
theorem treeAt {t : RT} {e : Ending} {w' : World} (h : GivesT t w e w') : ∃ v, e = .returned v ∧ (SB.x t).at w' v ∧ Below w.heap.size w w' := by
  obtain ⟨k, x, c, d, f, q, m, cp, rfl, h1, h2⟩ := h
  exact ⟨_, rfl, ⟨k, x, c, d, f, q, m, cp, rfl, h1⟩, h2⟩
/-- Cat or Either of a list that is known. -/
theorem opRow {F : FuncId} {d : Tmp} {T : Array TypeId} {u : Value} {t : RT} (ho : o.op = .call { callee := .value (.func F), args := #[.tmp d], argTypes := T }) (hd : a.tmps.getD d undef = u) (hc : Calls Tryd.prog F #[u] w (GivesT t w))
    (hF : ∀ args w, (callFunc F args).run Tryd.prog w = .ok (.enter F args) w) (hK : ∀ v w', (SB.x t).at w' v → Below w.heap.size w w' → K (a.put o.dst v) w') : o.wp Tryd.prog a w K Q :=
  opCall ho (by rw [hd]; exact hc) hF (fun _ _ h => treeAt h) hK
/-- Cat or Either of two in a row. -/
theorem opPair {F : FuncId} {d : Tmp} {T : Array TypeId} {s u t : RT} (ho : o.op = .call { callee := .value (.func F), args := #[.tmp d], argTypes := T }) (hd : (SB.k s u).at w (a.tmps.getD d undef)) (hc : ∀ q m cp vs, KidsR w (fun _ => True) q m cp vs [s, u] → Calls Tryd.prog F #[.slice q m cp] w (GivesT t w))
    (hF : ∀ args w, (callFunc F args).run Tryd.prog w = .ok (.enter F args) w) (hK : ∀ v w', (SB.x t).at w' v → Below w.heap.size w w' → K (a.put o.dst v) w') : o.wp Tryd.prog a w K Q := by
  obtain ⟨q, m, cp, vs, e, hk⟩ := hd
  exact opRow ho e (hc q m cp vs hk) hF hK
/-- Text of one. -/
theorem opText {F : FuncId} {d : Tmp} {T : Array TypeId} {t : RT} {S : ByteArray} (ho : o.op = .call { callee := .value (.func F), args := #[.tmp d], argTypes := T }) (hd : (SB.x t).at w (a.tmps.getD d undef))
    (hc : ∀ k x c e f q m cp, RAt w (fun _ => True) ⟨k, x, c, e, f, q, m, cp⟩ t → Calls Tryd.prog F #[.agg #[.int .i64 k, .int .u64 x, .int .u64 c, .int .u64 e, .int .u64 f, .slice q m cp]] w fun en w' => en = .returned (.string S) ∧ Below w.heap.size w w')
    (hF : ∀ args w, (callFunc F args).run Tryd.prog w = .ok (.enter F args) w) (hK : ∀ v w', (SB.v (.string S)).at w' v → Below w.heap.size w w' → K (a.put o.dst v) w') : o.wp Tryd.prog a w K Q := by
  obtain ⟨k, x, c, e, f, q, m, cp, he, hr⟩ := hd
  exact opCall (s := .v (.string S)) (R := fun en w' => en = .returned (.string S) ∧ Below w.heap.size w w') ho (by rw [he]; exact hc k x c e f q m cp hr) hF (fun _ _ h => ⟨_, h.1, rfl, h.2⟩) hK
set_option maxRecDepth 100000 in
theorem opTake {c d : Tmp} {g off k n cp : Nat} (hc : a.tmps.getD c undef = .slice (some ⟨g, off, none⟩) n cp) (hd : a.tmps.getD d undef = .int .i64 (k : Int)) (hk : k ≤ cp) (ho : o.op = .slice 24 (.tmp c) none (some (.tmp d)) none)
    (hK : ∀ v w', (SB.v (.slice (some ⟨g, off, none⟩) k cp)).at w' v → Below w.heap.size w w' → K (a.put o.dst v) w') : o.wp Tryd.prog a w K Q := by
  have hx : a.eval (.tmp c) = .slice (some ⟨g, off, none⟩) n cp := hc
  have hy : a.eval (.tmp d) = .int .i64 (k : Int) := hd
  have hk2 := hK _ w rfl (Below.refl _ _)
  have z1 : (k : Int) ≤ (cp : Int) := by omega
  have z2 : (0 : Int) ≤ (k : Int) := by omega
  unfold Oper.wp
  generalize a.eval = ev at hx hy ⊢
  simp [execOp, ho, hx, hy, go_sem, z1, z2, hk]
  exact hk2
set_option maxRecDepth 100000 in
theorem opDrop {c d : Tmp} {g off k n cp : Nat} (hc : a.tmps.getD c undef = .slice (some ⟨g, off, none⟩) n cp) (hd : a.tmps.getD d undef = .int .i64 (k : Int)) (hk : k < n) (hn : n ≤ cp) (ho : o.op = .slice 24 (.tmp c) (some (.tmp d)) none none)
    (hK : ∀ v w', (SB.v (.slice (some ⟨g, off + k * 6, none⟩) (n - k) (cp - k))).at w' v → Below w.heap.size w w' → K (a.put o.dst v) w') : o.wp Tryd.prog a w K Q := by
  have hx : a.eval (.tmp c) = .slice (some ⟨g, off, none⟩) n cp := hc
  have hy : a.eval (.tmp d) = .int .i64 (k : Int) := hd
  have hk2 := hK _ w rfl (Below.refl _ _)
  have z1 : (k : Int) ≤ (n : Int) := by omega
  have z2 : (0 : Int) ≤ (k : Int) := by omega
  have z3 : (n : Int) ≤ (cp : Int) := by omega
  have z4 : ¬ cp = k := by omega
  unfold Oper.wp
  generalize a.eval = ev at hx hy ⊢
  simp [execOp, ho, hx, hy, go_sem, z1, z2, z3, z4]
  exact hk2
def two6 (x y : ReV) : Array Value := (x.cells ++ y.cells).toArray
theorem fill_two6 (x y : ReV) : Instr.fill (fun i => some (i * 6, 6)) ((Array.range (2 * 6)).map ((Value.agg #[.int .i64 0, .int .u64 0, .int .u64 0, .int .u64 0, .int .u64 0, .slice none 0 0]).cells[· % 6]!)) [(0, x.val), (1, y.val)] = some (two6 x y) := by
  cases x
  cases y
  kernel_rfl
theorem opTwo {c d : Tmp} {t u : RT} (h1 : (SB.x t).at w (a.tmps.getD c undef)) (h2 : (SB.x u).at w (a.tmps.getD d undef)) (ho : o.op = .buildSlice 24 2 #[(0, .tmp c), (1, .tmp d)]) (hK : ∀ v w', (SB.k t u).at w' v → Below w.heap.size w w' → K (a.put o.dst v) w') : o.wp Tryd.prog a w K Q := by
  obtain ⟨k1, x1, c1, e1, f1, q1, m1, p1, he1, hE1⟩ := h1
  obtain ⟨k2, x2, c2, e2, f2, q2, m2, p2, he2, hE2⟩ := h2
  obtain ⟨i0, hi0, hz0, hz1, hz2⟩ := re_parts
  refine wp_buildSlice 24 30 2 #[(0, .tmp c), (1, .tmp d)] ho (two6 ⟨k1, x1, c1, e1, f1, q1, m1, p1⟩ ⟨k2, x2, c2, e2, f2, q2, m2, p2⟩) i0 _ Tryd.underlying24 hi0 hz0 (by rw [hz1]; decide) (by rw [hz1]; decide) ?_ (hK _ _ ⟨_, _, _, _, rfl, pairK hE1 hE2 _ rfl⟩ ((Below.refl _ _).alloc (Nat.le_refl _) _))
  rw [hz1]
  simp only [List.map_toArray, List.map_cons, List.map_nil]
  rw [show a.eval (.tmp c) = ReV.val ⟨k1, x1, c1, e1, f1, q1, m1, p1⟩ from he1, show a.eval (.tmp d) = ReV.val ⟨k2, x2, c2, e2, f2, q2, m2, p2⟩ from he2]
  exact fill_two6 _ _
/-- What is known of the calls and the values. -/
structure BH (p : BP) (W : World) (g off k n cp : Nat) (S1 S2 : ByteArray) : Prop where
  hF : p.F = .slice (some ⟨g, off, none⟩) n cp
  hK : p.K = .int .i64 (k : Int)
  hA : p.A = .slice (some ⟨g, off, none⟩) k cp
  hB : p.B = .slice (some ⟨g, off + k * 6, none⟩) (n - k) (cp - k)
  h1 : p.S1 = .string S1
  h2 : p.S2 = .string S2
  kn : k < n
  nc : n ≤ cp
  hA1 : ∀ w, Below W.heap.size W w → Calls Tryd.prog 8 #[p.A] w (GivesT p.TA w)
  hA2 : ∀ w, Below W.heap.size W w → Calls Tryd.prog 8 #[p.B] w (GivesT p.TB w)
  hA3 : ∀ w, Below W.heap.size W w → ∀ q m cp vs, KidsR w (fun _ => True) q m cp vs [p.TA, p.TB] → Calls Tryd.prog 8 #[.slice q m cp] w (GivesT p.TF w)
  hA4 : ∀ w, Below W.heap.size W w → ∀ k x c e f q m cp, RAt w (fun _ => True) ⟨k, x, c, e, f, q, m, cp⟩ p.TF → Calls Tryd.prog 7 #[.agg #[.int .i64 k, .int .u64 x, .int .u64 c, .int .u64 e, .int .u64 f, .slice q m cp]] w fun en w' => en = .returned (.string S1) ∧ Below w.heap.size w w'
  hE1 : ∀ w, Below W.heap.size W w → Calls Tryd.prog 9 #[p.A] w (GivesT p.EA w)
  hE2 : ∀ w, Below W.heap.size W w → Calls Tryd.prog 9 #[p.B] w (GivesT p.EB w)
  hE3 : ∀ w, Below W.heap.size W w → ∀ q m cp vs, KidsR w (fun _ => True) q m cp vs [p.EA, p.EB] → Calls Tryd.prog 9 #[.slice q m cp] w (GivesT p.E2 w)
  hE4 : ∀ w, Below W.heap.size W w → ∀ k x c e f q m cp, RAt w (fun _ => True) ⟨k, x, c, e, f, q, m, cp⟩ p.E2 → Calls Tryd.prog 7 #[.agg #[.int .i64 k, .int .u64 x, .int .u64 c, .int .u64 e, .int .u64 f, .slice q m cp]] w fun en w' => en = .returned (.string S2) ∧ Below w.heap.size w w'
  hE5 : ∀ w, Below W.heap.size W w → Calls Tryd.prog 9 #[p.Q] w (GivesT p.EL w)
  hE6 : ∀ w, Below W.heap.size W w → ∀ k x c e f q m cp, RAt w (fun _ => True) ⟨k, x, c, e, f, q, m, cp⟩ p.EL → Calls Tryd.prog 7 #[.agg #[.int .i64 k, .int .u64 x, .int .u64 c, .int .u64 e, .int .u64 f, .slice q m cp]] w fun en w' => en = .returned (.string S2) ∧ Below w.heap.size w w'
theorem entersC : ∀ args w, (callFunc 8 args).run Tryd.prog w = .ok (.enter 8 args) w := enters_of Tryd.func8 (by kernel_rfl) rfl
theorem entersE : ∀ args w, (callFunc 9 args).run Tryd.prog w = .ok (.enter 9 args) w := enters_of Tryd.func9 (by kernel_rfl) rfl
theorem entersT : ∀ args w, (callFunc 7 args).run Tryd.prog w = .ok (.enter 7 args) w := enters_of Tryd.func7 (by kernel_rfl) rfl
set_option maxRecDepth 100000 in
set_option maxHeartbeats 8000000 in
theorem jb_step {g off k n cp : Nat} {S1 S2 : ByteArray} (hH : BH p W g off k n cp S1 S2) (hL : L.size = 39) (hJ : JB p W L a w) (hr : i ∈ Region.ready .any opsB L) (hi : i < 39) : wpOp Tryd.prog opsB Q i (JB p W (L.setIfInBounds i true)) a w := by
  match i, hi with
  | 0, _ => exact atB (d := 51) (by kernel_rfl) fun o ho hd => opMove (d := 5) (s := SB.v tt) (hJ.2.2.2.1 (5, tt) (by simp [BP.f])) ho (fun v w' hs hb => by rw [hd]; exact hJ.step (i := 0) rfl hL hs hb)
  | 1, _ => exact atB (d := 52) (by kernel_rfl) fun o ho hd => opMove (d := 51) (s := .v tt) (hJ.get (i := 1) (j := 0) hr (by kernel_rfl) rfl) ho (fun v w' hs hb => by rw [hd]; exact hJ.step (i := 1) rfl hL hs hb)
  | 2, _ => exact atG (d := 53) (g := 1) (by kernel_rfl) (by kernel_rfl) (hJ.get (i := 2) (j := 1) hr (by kernel_rfl) rfl) fun o ho hd => opMove (d := 10) (s := SB.v p.S1) (hJ.2.2.2.1 (10, p.S1) (by simp [BP.f])) ho (fun v w' hs hb => by rw [hd]; exact hJ.step (i := 2) rfl hL hs hb)
  | 3, _ => exact atG (d := 54) (g := 1) (by kernel_rfl) (by kernel_rfl) (hJ.get (i := 3) (j := 1) hr (by kernel_rfl) rfl) fun o ho hd => opMove (d := 6) (s := SB.v p.F) (hJ.2.2.2.1 (6, p.F) (by simp [BP.f])) ho (fun v w' hs hb => by rw [hd]; exact hJ.step (i := 3) rfl hL hs hb)
  | 4, _ => exact atG (d := 55) (g := 1) (by kernel_rfl) (by kernel_rfl) (hJ.get (i := 4) (j := 1) hr (by kernel_rfl) rfl) fun o ho hd => opMove (d := 7) (s := SB.v p.K) (hJ.2.2.2.1 (7, p.K) (by simp [BP.f])) ho (fun v w' hs hb => by rw [hd]; exact hJ.step (i := 4) rfl hL hs hb)
  | 5, _ => exact atG (d := 56) (g := 1) (by kernel_rfl) (by kernel_rfl) (hJ.get (i := 5) (j := 1) hr (by kernel_rfl) rfl) fun o ho hd => opTake (k := k) (n := n) (c := 54) (d := 55) (hH.hF ▸ (hJ.get (i := 5) (j := 3) hr (by kernel_rfl) rfl)) (hH.hK ▸ (hJ.get (i := 5) (j := 4) hr (by kernel_rfl) rfl)) (Nat.le_trans (Nat.le_of_lt hH.kn) hH.nc) ho (hH.hA ▸ (fun v w' hs hb => by rw [hd]; exact hJ.step (i := 5) rfl hL hs hb))
  | 6, _ => exact atG (d := 57) (g := 1) (by kernel_rfl) (by kernel_rfl) (hJ.get (i := 6) (j := 1) hr (by kernel_rfl) rfl) fun o ho hd => opRow (d := 56) (T := #[24]) ho (hJ.get (i := 6) (j := 5) hr (by kernel_rfl) rfl) (hH.hA1 w hJ.2.2.1) entersC (fun v w' hs hb => by rw [hd]; exact hJ.step (i := 6) rfl hL hs hb)
  | 7, _ => exact atG (d := 58) (g := 1) (by kernel_rfl) (by kernel_rfl) (hJ.get (i := 7) (j := 1) hr (by kernel_rfl) rfl) fun o ho hd => opMove (d := 6) (s := SB.v p.F) (hJ.2.2.2.1 (6, p.F) (by simp [BP.f])) ho (fun v w' hs hb => by rw [hd]; exact hJ.step (i := 7) rfl hL hs hb)
  | 8, _ => exact atG (d := 59) (g := 1) (by kernel_rfl) (by kernel_rfl) (hJ.get (i := 8) (j := 1) hr (by kernel_rfl) rfl) fun o ho hd => opMove (d := 7) (s := SB.v p.K) (hJ.2.2.2.1 (7, p.K) (by simp [BP.f])) ho (fun v w' hs hb => by rw [hd]; exact hJ.step (i := 8) rfl hL hs hb)
  | 9, _ => exact atG (d := 60) (g := 1) (by kernel_rfl) (by kernel_rfl) (hJ.get (i := 9) (j := 1) hr (by kernel_rfl) rfl) fun o ho hd => opDrop (k := k) (n := n) (c := 58) (d := 59) (hH.hF ▸ (hJ.get (i := 9) (j := 7) hr (by kernel_rfl) rfl)) (hH.hK ▸ (hJ.get (i := 9) (j := 8) hr (by kernel_rfl) rfl)) hH.kn hH.nc ho (hH.hB ▸ (fun v w' hs hb => by rw [hd]; exact hJ.step (i := 9) rfl hL hs hb))
  | 10, _ => exact atG (d := 61) (g := 1) (by kernel_rfl) (by kernel_rfl) (hJ.get (i := 10) (j := 1) hr (by kernel_rfl) rfl) fun o ho hd => opRow (d := 60) (T := #[24]) ho (hJ.get (i := 10) (j := 9) hr (by kernel_rfl) rfl) (hH.hA2 w hJ.2.2.1) entersC (fun v w' hs hb => by rw [hd]; exact hJ.step (i := 10) rfl hL hs hb)
  | 11, _ => exact atG (d := 62) (g := 1) (by kernel_rfl) (by kernel_rfl) (hJ.get (i := 11) (j := 1) hr (by kernel_rfl) rfl) fun o ho hd => opTwo (c := 57) (d := 61) (hJ.get (i := 11) (j := 6) hr (by kernel_rfl) rfl) (hJ.get (i := 11) (j := 10) hr (by kernel_rfl) rfl) ho (fun v w' hs hb => by rw [hd]; exact hJ.step (i := 11) rfl hL hs hb)
  | 12, _ => exact atG (d := 63) (g := 1) (by kernel_rfl) (by kernel_rfl) (hJ.get (i := 12) (j := 1) hr (by kernel_rfl) rfl) fun o ho hd => opPair (d := 62) (T := #[24]) ho (hJ.get (i := 12) (j := 11) hr (by kernel_rfl) rfl) (hH.hA3 w hJ.2.2.1) entersC (fun v w' hs hb => by rw [hd]; exact hJ.step (i := 12) rfl hL hs hb)
  | 13, _ => exact atG (d := 64) (g := 1) (by kernel_rfl) (by kernel_rfl) (hJ.get (i := 13) (j := 1) hr (by kernel_rfl) rfl) fun o ho hd => opText (d := 63) (T := #[30]) ho (hJ.get (i := 13) (j := 12) hr (by kernel_rfl) rfl) (hH.hA4 w hJ.2.2.1) entersT (hH.h1 ▸ (fun v w' hs hb => by rw [hd]; exact hJ.step (i := 13) rfl hL hs hb))
  | 14, _ => exact atG (d := 65) (g := 1) (by kernel_rfl) (by kernel_rfl) (hJ.get (i := 14) (j := 1) hr (by kernel_rfl) rfl) fun o ho hd => opEql (c := 53) (d := 64) (hH.h1 ▸ (hJ.get (i := 14) (j := 2) hr (by kernel_rfl) rfl)) (hH.h1 ▸ (hJ.get (i := 14) (j := 13) hr (by kernel_rfl) rfl)) ho (fun v w' hs hb => by rw [hd]; exact hJ.step (i := 14) rfl hL hs hb)
  | 15, _ => exact atB (d := 66) (by kernel_rfl) fun o ho hd => opPick (c := 52) (d := 65) (hJ.get (i := 15) (j := 1) hr (by kernel_rfl) rfl) (hJ.get (i := 15) (j := 14) hr (by kernel_rfl) rfl) ho (fun v w' hs hb => by rw [hd]; exact hJ.step (i := 15) rfl hL hs hb)
  | 16, _ => exact atB (d := 67) (by kernel_rfl) fun o ho hd => opMove (d := 66) (s := .v tt) (hJ.get (i := 16) (j := 15) hr (by kernel_rfl) rfl) ho (fun v w' hs hb => by rw [hd]; exact hJ.step (i := 16) rfl hL hs hb)
  | 17, _ => exact atG (d := 68) (g := 16) (by kernel_rfl) (by kernel_rfl) (hJ.get (i := 17) (j := 16) hr (by kernel_rfl) rfl) fun o ho hd => opMove (d := 11) (s := SB.v p.S2) (hJ.2.2.2.1 (11, p.S2) (by simp [BP.f])) ho (fun v w' hs hb => by rw [hd]; exact hJ.step (i := 17) rfl hL hs hb)
  | 18, _ => exact atG (d := 69) (g := 16) (by kernel_rfl) (by kernel_rfl) (hJ.get (i := 18) (j := 16) hr (by kernel_rfl) rfl) fun o ho hd => opMove (d := 6) (s := SB.v p.F) (hJ.2.2.2.1 (6, p.F) (by simp [BP.f])) ho (fun v w' hs hb => by rw [hd]; exact hJ.step (i := 18) rfl hL hs hb)
  | 19, _ => exact atG (d := 70) (g := 16) (by kernel_rfl) (by kernel_rfl) (hJ.get (i := 19) (j := 16) hr (by kernel_rfl) rfl) fun o ho hd => opMove (d := 7) (s := SB.v p.K) (hJ.2.2.2.1 (7, p.K) (by simp [BP.f])) ho (fun v w' hs hb => by rw [hd]; exact hJ.step (i := 19) rfl hL hs hb)
  | 20, _ => exact atG (d := 71) (g := 16) (by kernel_rfl) (by kernel_rfl) (hJ.get (i := 20) (j := 16) hr (by kernel_rfl) rfl) fun o ho hd => opTake (k := k) (n := n) (c := 69) (d := 70) (hH.hF ▸ (hJ.get (i := 20) (j := 18) hr (by kernel_rfl) rfl)) (hH.hK ▸ (hJ.get (i := 20) (j := 19) hr (by kernel_rfl) rfl)) (Nat.le_trans (Nat.le_of_lt hH.kn) hH.nc) ho (hH.hA ▸ (fun v w' hs hb => by rw [hd]; exact hJ.step (i := 20) rfl hL hs hb))
  | 21, _ => exact atG (d := 72) (g := 16) (by kernel_rfl) (by kernel_rfl) (hJ.get (i := 21) (j := 16) hr (by kernel_rfl) rfl) fun o ho hd => opRow (d := 71) (T := #[24]) ho (hJ.get (i := 21) (j := 20) hr (by kernel_rfl) rfl) (hH.hE1 w hJ.2.2.1) entersE (fun v w' hs hb => by rw [hd]; exact hJ.step (i := 21) rfl hL hs hb)
  | 22, _ => exact atG (d := 73) (g := 16) (by kernel_rfl) (by kernel_rfl) (hJ.get (i := 22) (j := 16) hr (by kernel_rfl) rfl) fun o ho hd => opMove (d := 6) (s := SB.v p.F) (hJ.2.2.2.1 (6, p.F) (by simp [BP.f])) ho (fun v w' hs hb => by rw [hd]; exact hJ.step (i := 22) rfl hL hs hb)
  | 23, _ => exact atG (d := 74) (g := 16) (by kernel_rfl) (by kernel_rfl) (hJ.get (i := 23) (j := 16) hr (by kernel_rfl) rfl) fun o ho hd => opMove (d := 7) (s := SB.v p.K) (hJ.2.2.2.1 (7, p.K) (by simp [BP.f])) ho (fun v w' hs hb => by rw [hd]; exact hJ.step (i := 23) rfl hL hs hb)
  | 24, _ => exact atG (d := 75) (g := 16) (by kernel_rfl) (by kernel_rfl) (hJ.get (i := 24) (j := 16) hr (by kernel_rfl) rfl) fun o ho hd => opDrop (k := k) (n := n) (c := 73) (d := 74) (hH.hF ▸ (hJ.get (i := 24) (j := 22) hr (by kernel_rfl) rfl)) (hH.hK ▸ (hJ.get (i := 24) (j := 23) hr (by kernel_rfl) rfl)) hH.kn hH.nc ho (hH.hB ▸ (fun v w' hs hb => by rw [hd]; exact hJ.step (i := 24) rfl hL hs hb))
  | 25, _ => exact atG (d := 76) (g := 16) (by kernel_rfl) (by kernel_rfl) (hJ.get (i := 25) (j := 16) hr (by kernel_rfl) rfl) fun o ho hd => opRow (d := 75) (T := #[24]) ho (hJ.get (i := 25) (j := 24) hr (by kernel_rfl) rfl) (hH.hE2 w hJ.2.2.1) entersE (fun v w' hs hb => by rw [hd]; exact hJ.step (i := 25) rfl hL hs hb)
  | 26, _ => exact atG (d := 77) (g := 16) (by kernel_rfl) (by kernel_rfl) (hJ.get (i := 26) (j := 16) hr (by kernel_rfl) rfl) fun o ho hd => opTwo (c := 72) (d := 76) (hJ.get (i := 26) (j := 21) hr (by kernel_rfl) rfl) (hJ.get (i := 26) (j := 25) hr (by kernel_rfl) rfl) ho (fun v w' hs hb => by rw [hd]; exact hJ.step (i := 26) rfl hL hs hb)
  | 27, _ => exact atG (d := 78) (g := 16) (by kernel_rfl) (by kernel_rfl) (hJ.get (i := 27) (j := 16) hr (by kernel_rfl) rfl) fun o ho hd => opPair (d := 77) (T := #[24]) ho (hJ.get (i := 27) (j := 26) hr (by kernel_rfl) rfl) (hH.hE3 w hJ.2.2.1) entersE (fun v w' hs hb => by rw [hd]; exact hJ.step (i := 27) rfl hL hs hb)
  | 28, _ => exact atG (d := 79) (g := 16) (by kernel_rfl) (by kernel_rfl) (hJ.get (i := 28) (j := 16) hr (by kernel_rfl) rfl) fun o ho hd => opText (d := 78) (T := #[30]) ho (hJ.get (i := 28) (j := 27) hr (by kernel_rfl) rfl) (hH.hE4 w hJ.2.2.1) entersT (hH.h2 ▸ (fun v w' hs hb => by rw [hd]; exact hJ.step (i := 28) rfl hL hs hb))
  | 29, _ => exact atG (d := 80) (g := 16) (by kernel_rfl) (by kernel_rfl) (hJ.get (i := 29) (j := 16) hr (by kernel_rfl) rfl) fun o ho hd => opEql (c := 68) (d := 79) (hH.h2 ▸ (hJ.get (i := 29) (j := 17) hr (by kernel_rfl) rfl)) (hH.h2 ▸ (hJ.get (i := 29) (j := 28) hr (by kernel_rfl) rfl)) ho (fun v w' hs hb => by rw [hd]; exact hJ.step (i := 29) rfl hL hs hb)
  | 30, _ => exact atB (d := 81) (by kernel_rfl) fun o ho hd => opPick (c := 67) (d := 80) (hJ.get (i := 30) (j := 16) hr (by kernel_rfl) rfl) (hJ.get (i := 30) (j := 29) hr (by kernel_rfl) rfl) ho (fun v w' hs hb => by rw [hd]; exact hJ.step (i := 30) rfl hL hs hb)
  | 31, _ => exact atB (d := 82) (by kernel_rfl) fun o ho hd => opMove (d := 81) (s := .v tt) (hJ.get (i := 31) (j := 30) hr (by kernel_rfl) rfl) ho (fun v w' hs hb => by rw [hd]; exact hJ.step (i := 31) rfl hL hs hb)
  | 32, _ => exact atG (d := 83) (g := 31) (by kernel_rfl) (by kernel_rfl) (hJ.get (i := 32) (j := 31) hr (by kernel_rfl) rfl) fun o ho hd => opMove (d := 11) (s := SB.v p.S2) (hJ.2.2.2.1 (11, p.S2) (by simp [BP.f])) ho (fun v w' hs hb => by rw [hd]; exact hJ.step (i := 32) rfl hL hs hb)
  | 33, _ => exact atG (d := 84) (g := 31) (by kernel_rfl) (by kernel_rfl) (hJ.get (i := 33) (j := 31) hr (by kernel_rfl) rfl) fun o ho hd => opMove (d := 8) (s := SB.v p.Q) (hJ.2.2.2.1 (8, p.Q) (by simp [BP.f])) ho (fun v w' hs hb => by rw [hd]; exact hJ.step (i := 33) rfl hL hs hb)
  | 34, _ => exact atG (d := 85) (g := 31) (by kernel_rfl) (by kernel_rfl) (hJ.get (i := 34) (j := 31) hr (by kernel_rfl) rfl) fun o ho hd => opRow (d := 84) (T := #[24]) ho (hJ.get (i := 34) (j := 33) hr (by kernel_rfl) rfl) (hH.hE5 w hJ.2.2.1) entersE (fun v w' hs hb => by rw [hd]; exact hJ.step (i := 34) rfl hL hs hb)
  | 35, _ => exact atG (d := 86) (g := 31) (by kernel_rfl) (by kernel_rfl) (hJ.get (i := 35) (j := 31) hr (by kernel_rfl) rfl) fun o ho hd => opText (d := 85) (T := #[30]) ho (hJ.get (i := 35) (j := 34) hr (by kernel_rfl) rfl) (hH.hE6 w hJ.2.2.1) entersT (hH.h2 ▸ (fun v w' hs hb => by rw [hd]; exact hJ.step (i := 35) rfl hL hs hb))
  | 36, _ => exact atG (d := 87) (g := 31) (by kernel_rfl) (by kernel_rfl) (hJ.get (i := 36) (j := 31) hr (by kernel_rfl) rfl) fun o ho hd => opEql (c := 83) (d := 86) (hH.h2 ▸ (hJ.get (i := 36) (j := 32) hr (by kernel_rfl) rfl)) (hH.h2 ▸ (hJ.get (i := 36) (j := 35) hr (by kernel_rfl) rfl)) ho (fun v w' hs hb => by rw [hd]; exact hJ.step (i := 36) rfl hL hs hb)
  | 37, _ => exact atB (d := 88) (by kernel_rfl) fun o ho hd => opPick (c := 82) (d := 87) (hJ.get (i := 37) (j := 31) hr (by kernel_rfl) rfl) (hJ.get (i := 37) (j := 36) hr (by kernel_rfl) rfl) ho (fun v w' hs hb => by rw [hd]; exact hJ.step (i := 37) rfl hL hs hb)
  | 38, _ => exact atB (d := 4) (by kernel_rfl) fun o ho hd => opAssign (d := 88) (s := .v tt) (hJ.get (i := 38) (j := 37) hr (by kernel_rfl) rfl) ho (fun v w' hs hb => by rw [hd]; exact hJ.step (i := 38) rfl hL hs hb)
  | n + 39, h => omega
end

set_option maxRecDepth 100000 in
/-- The region leaves 'true' in its slot. -/
theorem brk_region {p : BP} {W : World} {tmps : Array Value} {ops : Array Oper} {Q : Exit → Act → World → Prop} {g off k n cp : Nat} {S1 S2 : ByteArray} (hH : BH p W g off k n cp S1 S2) (hops : opsB = ops) (hsz : tmps.size = 89) (hf : ∀ x ∈ p.f, tmps.getD x.1 undef = x.2)
    (hQ : ∀ (tm : Array Value) (w : World), tm.size = 89 → tm.getD 4 undef = .bool true → Below W.heap.size W w → Q .normal ⟨tm, []⟩ w) : (Code.region 15 ops true).wp Tryd.prog Q ⟨tmps, []⟩ W := by
  subst hops
  have hm : Tryd.prog.follows .mixedOrders = true := by kernel_rfl
  refine wp_region_inv (JB p W) hm ⟨hsz, rfl, ⟨rfl, rfl, rfl, Nat.le_refl _, fun k _ => rfl⟩, hf, fun i s hs hl => ?_⟩ (fun L a w i hL hJ hr => ?_) (fun L a w hL hJ hr => ?_)
  · exfalso
    rw [Array.getD_eq_getD_getElem?, Array.getElem?_replicate] at hl
    split at hl <;> simp at hl
  · have hi := (ready_iff.1 hr).1
    rw [opsB_size] at hi hL
    exact jb_step hH hL hJ hr hi
  · have hl := all_listed opsB_acy hL hr 38 (by rw [opsB_size]; omega)
    obtain ⟨tm, df⟩ := a
    obtain ⟨j1, j2, j3, j4, j6⟩ := hJ
    simp only at j2
    subst j2
    exact hQ _ _ j1 (j6 38 (.v tt) rfl hl) j3

end Go.Proofs.YtchicecmoknkjabDoor
