/- Joined texts; each begins with what it says. -/
import Derived.Test.YtfgaadhacifhiaaGreatDoorCards
import Derived.Test.YtfgaadhacifhiaaGreatDoorTie
import Derived.Test.YtfgaadhacifhiaaGreatDoorOwed
import Derived.Test.YtfgaadhacifhiaaGreatDoorW5
import Derived.Laws.IdiomArrays
import Derived.ProofKit
import Derived.OpenShut
import Derived.LaidMore
import Derived.Lay
import Derived.Carry
import Derived.ChangeSlices
import Derived.ChangeMaps5
import Derived.SevenTiedAt
import Derived.Stop.Joined
import Derived.LaidSub
import Derived.Lib.LaidTab
import Derived.Test.YtfgaadhacifhiaaGreatDoorList
import Derived.Test.YtfgaadhacifhiaaGreatDoorW0
import Derived.Test.YtfgaadhacifhiaaGreatDoorW2
/-! What a law of layer 8 owes besides its walk: its arguments, opened and handed back. No condition. -/
namespace Go.Proofs.YtfgaadhacifhiaaGreatDoor
open Go.ChangeShapes Go.WideShapes Go.ChangeAt Go.RowKit Go.Lib
set_option linter.unusedVariables false
set_option linter.unusedSimpArgs false

theorem laidOutP : laidOutB Tryz.prog = true := by kernel_rfl
theorem cellsByte : Tryz.prog.cellsOf 5 = 1 := by kernel_rfl

theorem bounds_u8 {x : Int} (h : (Lit.int .u8 x).wf = true) : 0 ≤ x ∧ x ≤ 255 := by simpa [Lit.wf, IntKind.min, IntKind.max, IntKind.signed, IntKind.bits] using h
theorem bounds_u16 {x : Int} (h : (Lit.int .u16 x).wf = true) : 0 ≤ x ∧ x ≤ 65535 := by simpa [Lit.wf, IntKind.min, IntKind.max, IntKind.signed, IntKind.bits] using h

/-- A slice of bytes that reads so. -/
def BytesAt (W : World) (v : Value) (zs : List Int) : Prop :=
  ∃ a cap, v = .slice a zs.length cap ∧ zs.length ≤ cap ∧ zs.length ≤ maxLen ∧ (∀ z ∈ zs, 0 ≤ z ∧ z ≤ 255) ∧
    (0 < zs.length → ∃ b off, a = some ⟨b, off, none⟩ ∧ b < W.heap.size ∧ ∀ (i : Nat) (z : Int), zs[i]? = some z → W.cell? ⟨b, off + i, none⟩ = some (.int .u8 z))

theorem BytesAt.below {W W' : World} {v : Value} {zs : List Int} (h : BytesAt W v zs) (hb : Below W.heap.size W W') : BytesAt W' v zs := by
  obtain ⟨a, cap, h1, h2, h3, h4, h5⟩ := h
  refine ⟨a, cap, h1, h2, h3, h4, fun hn => ?_⟩
  obtain ⟨b, off, ha, hlt, hc⟩ := h5 hn
  exact ⟨b, off, ha, Nat.lt_of_lt_of_le hlt hb.size, fun i z hz => (hb.cell (p := ⟨b, off + i, none⟩) hlt).trans (hc i z hz)⟩

theorem bounds_i64 {x : Int} (h : (Lit.int .i64 x).wf = true) : -9223372036854775808 ≤ x ∧ x ≤ 9223372036854775807 := by simpa [Lit.wf, IntKind.min, IntKind.max, IntKind.signed, IntKind.bits] using h

theorem tabs_of_laid {l : List (String × DataW Unit)} {W : World} (h : laidMetH Tryz.prog l W) (hp : laidMetH Tryz.prog l W = laidMet Tryz.prog l W)
    (e1 : l.filter (fun x => x.1 == "math/bits.deBruijn64tab") = [("math/bits.deBruijn64tab", Lib.tabData .u8 bruijnTab)])
    (e2 : l.filter (fun x => x.1 == "internal/strconv.uint64pow10") = [("internal/strconv.uint64pow10", Lib.tabData .u64 Lib.pow10Tab)]) : Tab1 W := by
  rw [hp] at h
  have h1 := laidMet.filter (fun x => x.1 == "math/bits.deBruijn64tab") h
  have h2 := laidMet.filter (fun x => x.1 == "internal/strconv.uint64pow10") h
  rw [e1] at h1
  rw [e2] at h2
  have t1 := Lib.tabIs_of_head (g := 1) (t := 152) (e := 5) (n := 64) (by kernel_rfl) (by kernel_rfl) Tryz.underlying152 Tryz.underlying5 (by kernel_rfl) (by kernel_rfl) h1
  have t2 := Lib.tabIs_of_head (g := 2) (t := 158) (e := 23) (n := 20) (by kernel_rfl) (by kernel_rfl) Tryz.underlying158 Tryz.underlying23 (by kernel_rfl) (by kernel_rfl) h2
  exact ⟨t2, t1⟩

theorem BytesAt.low {W W' : World} {a : Option Addr} {cap : Nat} {zs : List Int} {n : Nat} (h : BytesAt W (.slice a n cap) zs) (hb : Below W.heap.size W W') : n = zs.length ∧ BytesLow W' W'.heap.size (.slice a zs.length cap) zs := by
  obtain ⟨a', cap', h1, h2, h3, h4, h5⟩ := h
  cases h1
  refine ⟨rfl, a, cap, rfl, h2, h3, h4, fun hn => ?_⟩
  obtain ⟨b, off, ha, hlt, hc⟩ := h5 hn
  exact ⟨b, off, ha, Nat.lt_of_lt_of_le hlt hb.size, fun i z hz => (hb.cell (p := ⟨b, off + i, none⟩) hlt).trans (hc i z hz)⟩

theorem cellsWord : Tryz.prog.cellsOf 23 = 1 := by kernel_rfl
theorem cellsSet : Tryz.prog.cellsOf 25 = 4 := by kernel_rfl

theorem list4 {α : Type} (l : List α) (h : (⟨l⟩ : Array α).size = 4) : ∃ a b c d, l = [a, b, c, d] := by
  match l, h with
  | [a, b, c, d], _ => exact ⟨a, b, c, d, rfl⟩

section
variable {H : Type} {enc : TypeId × Value → H}

/-- The datum of a set. -/
def setD (a0 a1 a2 a3 : Int) : DataW H := .agg [.lit (.int .u64 a0), .lit (.int .u64 a1), .lit (.int .u64 a2), .lit (.int .u64 a3)]

theorem wfu64r {x : Int} (h : (Lit.int .u64 x).wf = true) : 0 ≤ x ∧ x ≤ 18446744073709551615 := by simpa [Lit.wf, IntKind.min, IntKind.max, IntKind.signed, IntKind.bits] using h

set_option maxRecDepth 100000 in
theorem open_set {W : World} {base b0 : Nat} {sp : Nat → Bool} {v : Value} {d : DataW H} {p : List MemPlace} (hval : Value.okWide Tryz.prog W .any base 25 v) (h : DataW.Trod enc Tryz.prog W b0 sp true 25 v d p) :
    ∃ a0 a1 a2 a3 : Int, v = .agg #[.int .u64 a0, .int .u64 a1, .int .u64 a2, .int .u64 a3] ∧ d = setD a0 a1 a2 a3 ∧ p = [] ∧ ((Lit.int .u64 a0).wf = true ∧ (Lit.int .u64 a1).wf = true ∧ (Lit.int .u64 a2).wf = true ∧ (Lit.int .u64 a3).wf = true) ∧ IsSet a0 a1 a2 a3 (memb a0 a1 a2 a3) := by
  obtain ⟨cs, rfl, hsz, _⟩ : ∃ cs, v = .agg cs ∧ cs.size = Tryz.prog.cellsOf 25 ∧ Row.okWide Tryz.prog W .any base 25 cs := by
    simpa [Value.okWide, Tryz.underlying25] using hval
  rw [cellsSet] at hsz
  obtain ⟨l⟩ := cs
  obtain ⟨c0, c1, c2, c3, rfl⟩ := list4 l hsz
  obtain ⟨fuel, hf⟩ := h
  obtain ⟨y0, y1, y2, y3, m, hx, hy0, hy1, hy2, hy3⟩ := trod_array4 Tryz.underlying25 cellsWord hf
  obtain ⟨x0, e0, rfl, w0⟩ := DataW.trod_int Tryz.underlying23 hy0
  obtain ⟨x1, e1, rfl, w1⟩ := DataW.trod_int Tryz.underlying23 hy1
  obtain ⟨x2, e2, rfl, w2⟩ := DataW.trod_int Tryz.underlying23 hy2
  obtain ⟨x3, e3, rfl, w3⟩ := DataW.trod_int Tryz.underlying23 hy3
  simp at e0 e1 e2 e3
  subst e0 e1 e2 e3
  simp only [Prod.mk.injEq] at hx
  obtain ⟨rfl, rfl⟩ := hx
  exact ⟨x0, x1, x2, x3, rfl, rfl, rfl, ⟨w0, w1, w2, w3⟩, IsSet.of _ _ _ _ (wfu64r w0) (wfu64r w1) (wfu64r w2) (wfu64r w3)⟩

set_option maxRecDepth 100000 in
theorem shut_set {W : World} {b0 : Nat} {sp : Nat → Bool} {hd : Bool} {a0 a1 a2 a3 : Int} (h : (Lit.int .u64 a0).wf = true ∧ (Lit.int .u64 a1).wf = true ∧ (Lit.int .u64 a2).wf = true ∧ (Lit.int .u64 a3).wf = true) :
    DataW.Trod enc Tryz.prog W b0 sp hd 25 (.agg #[.int .u64 a0, .int .u64 a1, .int .u64 a2, .int .u64 a3]) (setD a0 a1 a2 a3) [] := by
  obtain ⟨w0, w1, w2, w3⟩ := h
  exact ⟨2, by simp [setD, DataW.trod, Value.cells, Tryz.underlying25, Tryz.underlying23, cellsSet, cellsWord, w0, w1, w2, w3, show List.range 4 = [0, 1, 2, 3] from rfl]⟩


set_option maxRecDepth 100000 in
theorem open_bytes {W : World} {base : Nat} {v : Value} {d : DataW H} {p : List MemPlace} (hval : Value.okWide Tryz.prog W .any base 22 v) (h : DataW.Trod enc Tryz.prog W 0 (fun _ => true) true 22 v d p) :
    ∃ zs, BytesAt W v zs := by
  obtain ⟨a0, len, cap, rfl⟩ := okWide_slice Tryz.underlying22 hval
  obtain ⟨fuel, hf⟩ := h
  rcases open_ints Tryz.underlying22 Tryz.underlying5 cellsByte hf with ⟨hcs, hx⟩ | ⟨a, len', cap', zs, hcs, _, hl, hm, hz, hx, hc, hw⟩
  · simp [Value.cells] at hcs
    obtain ⟨rfl, rfl, rfl⟩ := hcs
    exact ⟨[], none, 0, rfl, Nat.le_refl _, Nat.zero_le _, fun z hz => by simp at hz, fun h => by simp at h⟩
  · simp [Value.cells] at hcs
    obtain ⟨rfl, rfl, rfl⟩ := hcs
    simp only [if_true] at hz

    have hlen : (zs.take len).length = len := by rw [List.length_take]; omega
    refine ⟨zs.take len, some a, cap, by rw [hlen], by omega, Nat.le_trans (by omega : (zs.take len).length ≤ cap) hm, fun z hz => bounds_u8 (hw z (List.mem_of_mem_take hz)), fun hn => ?_⟩
    obtain ⟨b, off, spot⟩ := a
    have h0 := hc 0 (by omega)
    have hspot : spot = none := by simpa [Addr.add] using World.cell?_spot h0
    subst hspot
    have hlt : b < W.heap.size := by
      have := World.block_lt_of_cell? W _ h0
      simpa [Addr.add] using this
    refine ⟨b, off, rfl, hlt, fun i z hzi => ?_⟩
    have hi : i < len := by
      have := (List.getElem?_eq_some_iff.1 hzi).1
      omega
    have hci := hc i (by omega)
    rw [List.getElem?_take_of_lt hi] at hzi
    have e : (⟨b, off, none⟩ : Addr).add i = ⟨b, off + i, none⟩ := by cases i <;> simp [Addr.add]
    rw [e, List.getD_eq_getElem?_getD, hzi] at hci
    exact hci

/-- What a law owes behind its walk, where an argument lies in memory. -/
theorem post_of_old {P : Program} {f : Func} {s : ChangeSpec} {fresh handsOn : Bool} {W W' : World} {args : Array Value} {v : Value} {ds gs : List (DataW H)} {before pa pv : List MemPlace}
    (hW : DataW.Whole enc P f.params.toList s.vars false W args.toList ds gs before)
    (hres : ∀ (b : Nat) (sp : Nat → Bool) (hd : Bool), DataW.TrodAll enc P W' b sp hd f.resultTypes.toList (v.resultList f.resultTypes.size) (s.fn H (ds ++ gs)).results [])
    (hargs : DataW.TrodAll enc P W' 0 (fun b => decide (b < W.heap.size)) true f.params.toList args.toList (s.fn H (ds ++ gs)).args pa)
    (hvars : ∀ sp : Nat → Bool, DataW.TrodVars enc P W' sp s.vars (s.fn H (ds ++ gs)).vars pv)
    (hps : before = pa ++ pv) (hb : Below W.heap.size W W') :
    s.post enc P f false fresh handsOn false W args v W' := by
  refine ⟨ds, gs, before, [], pa, pv, hW, hres _ _ _, hargs, hvars _, World.keptBut_mono (fun p hp => ⟨hp, ?_⟩) (hb.frame _), fun h => by cases h⟩
  rw [hps, List.mem_append] at hp
  exact Or.inr hp
end

end Go.Proofs.YtfgaadhacifhiaaGreatDoor

/-! What Match asks of two in a Cat or an Either, and of one ahead of any text. No condition. -/
namespace Go.Proofs.YtfgaadhacifhiaaGreatDoor
open Go.RowKit Go.Lib
set_option linter.unusedVariables false
set_option linter.unusedSimpArgs false

theorem T_del {t : RT} (hg : good t) : T 0 (seqOf t) ≤ t.sz ∧ 1048576 * T 1 (seqOf t) + 65536 * T 2 (seqOf t) + 4096 * T 3 (seqOf t) + 256 * T 4 (seqOf t) + 16 * T 5 (seqOf t) + T 6 (seqOf t) = Del t [] := by
  have k := fun j => T_seq j t []
  have e : ∀ j, T (j + 1) (seqOf t) = Dm j t [] := fun j => by
    have h4 := k j
    rw [List.append_nil] at h4
    have h5 : T (j + 1) ([] : List RT) = 0 := rfl
    rw [h4, h5]
    simp
  have e0 := e 0
  have e1 := e 1
  have e2 := e 2
  have e3 := e 3
  have e4 := e 4
  have e5 := e 5
  simp only [Nat.zero_add, Nat.reduceAdd] at e0 e1 e2 e3 e4 e5
  refine ⟨(seq_sz hg).1, ?_⟩
  unfold Del
  rw [e0, e1, e2, e3, e4, e5]
theorem fitM_del5 {t : RT} (hg : good t) (hs : t.sz ≤ 1000) (hD : Del t [] ≤ 95000000000) (hd : t.dep ≤ 125) (l : List Nat) (hl : l.length ≤ 5) : FitM t l := by
  obtain ⟨h0, h1⟩ := T_del hg
  have hk : ∀ k, k < 5 → T k (seqOf t) ≤ 399000000 := fun k hk => by
    match k, hk with
    | 0, _ => omega
    | 1, _ => omega
    | 2, _ => omega
    | 3, _ => omega
    | 4, _ => omega
    | n + 5, h => omega
  have h5 : T 5 (seqOf t) ≤ 5950000000 := by omega
  refine fitM_of l t hg ?_ (fun k h => by have := hk k (by omega); omega) ?_
  · have : 2 ^ l.length ≤ 2 ^ 5 := Nat.pow_le_pow_right (by decide) hl
    have h3 : t.dep * 2 ^ l.length ≤ 125 * 2 ^ 5 := Nat.mul_le_mul hd this
    omega
  · by_cases e : l.length = 5
    · rw [e]; omega
    · have := hk l.length (by omega); omega
theorem fitM_del6 {t : RT} (hg : good t) (hs : t.sz ≤ 1000) (hD : Del t [] ≤ 5900000000) (hd : t.dep ≤ 62) (l : List Nat) (hl : l.length ≤ 6) : FitM t l := by
  obtain ⟨h0, h1⟩ := T_del hg
  have hk : ∀ k, k < 6 → T k (seqOf t) ≤ 399000000 := fun k hk => by
    match k, hk with
    | 0, _ => omega
    | 1, _ => omega
    | 2, _ => omega
    | 3, _ => omega
    | 4, _ => omega
    | 5, _ => omega
    | n + 6, h => omega
  refine fitM_of l t hg ?_ (fun k h => by have := hk k (by omega); omega) ?_
  · have : 2 ^ l.length ≤ 2 ^ 6 := Nat.pow_le_pow_right (by decide) hl
    have h3 : t.dep * 2 ^ l.length ≤ 62 * 2 ^ 6 := Nat.mul_le_mul hd this
    omega
  · by_cases e : l.length = 6
    · rw [e]; omega
    · have := hk l.length (by omega); omega
/-- Two by the law's picker, in a Cat. -/
theorem cat2_del {a b : RT} (ha : Lv 161 4842888568831 5008 5766931476091 4966 a) (hb : Lv 161 4842888568831 5008 5766931476091 4966 b) : Del (catM [a, b]) [] ≤ 95000000000 := by
  have hg : ∀ t ∈ [a, b], good t := by
    intro t ht
    simp at ht
    rcases ht with rfl | rfl
    · exact ha.good
    · exact hb.good
  have h := del_cat hg []
  have hp : Psi [] = 0 := rfl
  have p := psi_seq hb.good []
  have d1 := lvany4 ha (seqOf b ++ [])
  have d2 := lvany4 hb []
  have sb := hb.sz
  simp only [DelL] at h
  have e1 : fl [b] ++ [] = seqOf b ++ [] := by simp [fl]
  have e2 : Del b (fl [] ++ []) = Del b [] := by simp [fl]
  rw [e1, e2] at h
  rw [hp] at p d2
  have h2 : Del (catM [a, b]) [] ≤ Del a (seqOf b ++ []) + Del b [] := by
    revert h
    cases nullM a <;> cases nullM b <;> (intro h; simp only [Bool.false_eq_true, if_true, if_false] at h; omega)
  omega
/-- In an Either. -/
theorem either2_del {a b : RT} (ha : Lv 161 4842888568831 5008 5766931476091 4966 a) (hb : Lv 161 4842888568831 5008 5766931476091 4966 b) : Del (eitherM [a, b]) [] ≤ 95000000000 := by
  have h := del_either [a, b] []
  have d1 := lvany4 ha []
  have d2 := lvany4 hb []
  have hp : Psi [] = 0 := rfl
  rw [hp] at d1 d2
  simp only [List.map_cons, List.map_nil, List.sum_cons, List.sum_nil] at h
  omega
/-- One ahead of any text. -/
theorem ahead_del {a s : RT} (ha : Lv 161 4842888568831 5008 5766931476091 4966 a) (hs : Lv 5 6093484621 73 5955687767 69 s) (sb : s.sz ≤ 2) : Del (catM [a, s]) [] ≤ 5900000000 := by
  have hg : ∀ t ∈ [a, s], good t := by
    intro t ht
    simp at ht
    rcases ht with rfl | rfl
    · exact ha.good
    · exact hs.good
  have h := del_cat hg []
  have hp : Psi [] = 0 := rfl
  have p := psi_seq hs.good []
  have d1 := lvany4 ha (seqOf s ++ [])
  have d2 := lv1_any hs []
  simp only [DelL] at h
  have e1 : fl [s] ++ [] = seqOf s ++ [] := by simp [fl]
  have e2 : Del s (fl [] ++ []) = Del s [] := by simp [fl]
  rw [e1, e2] at h
  rw [hp] at p d2
  have h2 : Del (catM [a, s]) [] ≤ Del a (seqOf s ++ []) + Del s [] := by
    revert h
    cases nullM a <;> cases nullM s <;> (intro h; simp only [Bool.false_eq_true, if_true, if_false] at h; omega)
  omega

end Go.Proofs.YtfgaadhacifhiaaGreatDoor

/-! Plain facts on the ranges of a set: each rises, with a gap between two, and together they hold the set's bytes; no condition. -/
namespace Go.Proofs.YtfgaadhacifhiaaGreatDoor
open Go.RowKit

/-- Does one of the ranges hold b? -/
def inR (l : List (Nat × Nat)) (b : Nat) : Bool := l.any fun r => decide (r.1 ≤ b) && decide (b ≤ r.2)

theorem inR_snoc (l : List (Nat × Nat)) (r : Nat × Nat) (b : Nat) : inR (l ++ [r]) b = (inR l b || (decide (r.1 ≤ b) && decide (b ≤ r.2))) := by simp [inR]

/-- Each range rises and ends ahead of k; between two there is a gap. -/
def GoodR (k : Nat) (l : List (Nat × Nat)) : Prop := (∀ r ∈ l, r.1 ≤ r.2 ∧ r.2 < k) ∧ l.Pairwise (fun p r => p.2 + 1 < r.1)

theorem GoodR.ext {k : Nat} {l : List (Nat × Nat)} (h : GoodR k l) : GoodR (k + 1) (ext l k) := by
  rcases List.eq_nil_or_concat l with rfl | ⟨l', r, rfl⟩
  · simp [ext_nil, GoodR]
  · rw [List.concat_eq_append] at h ⊢
    obtain ⟨h1, h2⟩ := h
    rw [List.pairwise_append] at h2
    obtain ⟨p1, _, p3⟩ := h2
    have hr := h1 r (by simp)
    by_cases hk : r.2 + 1 = k
    · rw [ext_yes _ _ _ hk]
      refine ⟨?_, ?_⟩
      · intro q hq
        rcases List.mem_append.1 hq with hq | hq
        · have := h1 q (List.mem_append.2 (.inl hq)); omega
        · simp at hq; subst hq; simp; omega
      · rw [List.pairwise_append]
        refine ⟨p1, by simp, ?_⟩
        intro q hq s hs
        simp at hs; subst hs
        exact p3 q hq r (by simp)
    · rw [ext_no _ _ _ hk]
      refine ⟨?_, ?_⟩
      · intro q hq
        rcases List.mem_append.1 hq with hq | hq
        · have := h1 q hq; omega
        · simp at hq; subst hq; simp
      · rw [List.pairwise_append]
        refine ⟨by rw [List.pairwise_append]; exact ⟨p1, by simp, p3⟩, by simp, ?_⟩
        intro q hq s hs
        simp at hs; subst hs
        rcases List.mem_append.1 hq with hq | hq
        · have a := p3 q hq r (by simp); simp; omega
        · simp at hq; subst hq; simp; omega

theorem inR_ext {k : Nat} {l : List (Nat × Nat)} (h : GoodR k l) (b : Nat) : inR (ext l k) b = (inR l b || b == k) := by
  rcases List.eq_nil_or_concat l with rfl | ⟨l', r, rfl⟩
  · simp only [ext_nil, inR]
    rw [Bool.eq_iff_iff]; simp; omega
  · rw [List.concat_eq_append] at h ⊢
    have hr := h.1 r (by simp)
    by_cases hk : r.2 + 1 = k
    · rw [ext_yes _ _ _ hk, inR_snoc, inR_snoc, Bool.or_assoc]
      congr 1
      rw [Bool.eq_iff_iff]; simp; omega
    · rw [ext_no _ _ _ hk, inR_snoc]
      congr 1
      rw [Bool.eq_iff_iff]; simp; omega

theorem rgs_good (f : Nat → Bool) : ∀ k, GoodR k (rgs f k)
  | 0 => by simp [rgs, GoodR]
  | k + 1 => by
    have ih := rgs_good f k
    unfold rgs
    split
    · exact ih.ext
    · exact ⟨fun r hr => by have := ih.1 r hr; omega, ih.2⟩

theorem rgs_in (f : Nat → Bool) (b : Nat) : ∀ k, inR (rgs f k) b = (decide (b < k) && f b)
  | 0 => by simp [rgs, inR]
  | k + 1 => by
    have ih := rgs_in f b k
    unfold rgs
    cases hf : f k with
    | true =>
      simp only [if_true]
      rw [inR_ext (rgs_good f k), ih]
      by_cases hb : b = k
      · subst hb; simp [hf]
      · have e : decide (b < k) = decide (b < k + 1) := by rw [Bool.eq_iff_iff]; simp; omega
        simp [hb, e]
    | false =>
      simp only [Bool.false_eq_true, if_false]
      rw [ih]
      by_cases hb : b = k
      · subst hb; simp [hf]
      · have e : decide (b < k) = decide (b < k + 1) := by rw [Bool.eq_iff_iff]; simp; omega
        rw [e]

theorem good_at {k : Nat} {l : List (Nat × Nat)} (h : GoodR k l) (i : Nat) (hi : i < l.length) : l[i].1 ≤ l[i].2 ∧ l[i].2 < k := h.1 _ (List.getElem_mem hi)

theorem good_gap {k : Nat} {l : List (Nat × Nat)} (h : GoodR k l) (i : Nat) (hi : i + 1 < l.length) : (l[i]'(by omega)).2 + 1 < l[i + 1].1 :=
  (List.pairwise_iff_getElem.1 h.2) i (i + 1) (by omega) hi (by omega)

theorem inR_take (l : List (Nat × Nat)) (i : Nat) (hi : i < l.length) (b : Nat) : inR (l.take (i + 1)) b = (inR (l.take i) b || (decide (l[i].1 ≤ b) && decide (b ≤ l[i].2))) := by
  rw [List.take_succ_eq_append_getElem hi, inR_snoc]

end Go.Proofs.YtfgaadhacifhiaaGreatDoor

/-! The text of a good expression says which one it is. No condition. -/
namespace Go.Proofs.YtfgaadhacifhiaaGreatDoor
open Go.RowKit Go.Lib
set_option linter.unusedVariables false
set_option linter.unusedSimpArgs false

/-! ### numbers and ranges -/
theorem span_split {D : UInt8 → Prop} : ∀ (A B : Tx) (c d : UInt8) (u v : Tx), (∀ x ∈ A, D x) → (∀ x ∈ B, D x) → ¬ D c → ¬ D d → A ++ c :: u = B ++ d :: v → A = B ∧ c = d ∧ u = v
  | [], [], c, d, u, v, _, _, _, _, h => by
    simp at h
    exact ⟨rfl, h.1, h.2⟩
  | [], b :: B, c, d, u, v, _, hB, hc, _, h => by
    simp at h
    exact absurd (h.1 ▸ hB b (by simp)) hc
  | a :: A, [], c, d, u, v, hA, _, _, hd, h => by
    simp at h
    exact absurd (h.1 ▸ hA a (by simp)) hd
  | a :: A, b :: B, c, d, u, v, hA, hB, hc, hd, h => by
    simp only [List.cons_append, List.cons.injEq] at h
    obtain ⟨h1, h2, h3⟩ := span_split A B c d u v (fun x hx => hA x (by simp [hx])) (fun x hx => hB x (by simp [hx])) hc hd h.2
    exact ⟨by rw [h.1, h1], h2, h3⟩
def isDg (c : UInt8) : Prop := 48 ≤ c.toNat ∧ c.toNat ≤ 57
theorem dg_of (n : Nat) : isDg (UInt8.ofNat (48 + n % 10)) ∧ (UInt8.ofNat (48 + n % 10)).toNat = 48 + n % 10 := by
  have h : (UInt8.ofNat (48 + n % 10)).toNat = 48 + n % 10 := by simp; omega
  exact ⟨⟨by rw [h]; omega, by rw [h]; omega⟩, h⟩
theorem digF_dg : ∀ f n, ∀ c ∈ digF f n, isDg c
  | 0, n, c, hc => by rw [digF] at hc; rw [List.mem_singleton.1 hc]; exact (dg_of n).1
  | f + 1, n, c, hc => by
    rw [digF] at hc
    split at hc
    · rw [List.mem_singleton.1 hc]; exact (dg_of n).1
    · rcases List.mem_append.1 hc with h | h
      · exact digF_dg f _ c h
      · rw [List.mem_singleton.1 h]; exact (dg_of n).1
def valT (l : Tx) : Nat := l.foldl (fun v c => 10 * v + (c.toNat - 48)) 0
theorem digF_val : ∀ f n, n < 10 ^ (f + 1) → valT (digF f n) = n
  | 0, n, h => by
    have := (dg_of n).2
    simp only [digF, valT, List.foldl_cons, List.foldl_nil]
    rw [this]
    have h : n < 10 := by simpa using h
    omega
  | f + 1, n, h => by
    have h1 := (dg_of n).2
    rw [digF]
    split
    · simp only [valT, List.foldl_cons, List.foldl_nil]
      rw [h1]
      omega
    · have h2 := digF_val f (n / 10) (by rw [Nat.pow_succ] at h; omega)
      unfold valT at h2 ⊢
      rw [List.foldl_append, h2]
      simp only [List.foldl_cons, List.foldl_nil]
      rw [h1]
      omega
theorem dig_inj {n m : Nat} (hn : n < 1000) (hm : m < 1000) (h : dig n = dig m) : n = m := by
  have h1 := digF_val 2 n hn
  have h2 := digF_val 2 m hm
  unfold dig at h
  rw [h] at h1
  omega
theorem dig_ne (n : Nat) : dig n ≠ [] := by
  unfold dig
  rw [digF]
  split <;> simp
theorem no_dg {c : UInt8} (h : c = 44 ∨ c = 45 ∨ c = 93) : ¬ isDg c := by
  rcases h with rfl | rfl | rfl <;> (unfold isDg; decide)
theorem dig_split {n m : Nat} (hn : n < 1000) (hm : m < 1000) {c d : UInt8} {u v : Tx} (hc : c = 44 ∨ c = 45 ∨ c = 93) (hd : d = 44 ∨ d = 45 ∨ d = 93) (h : dig n ++ c :: u = dig m ++ d :: v) : n = m ∧ c = d ∧ u = v := by
  obtain ⟨h1, h2, h3⟩ := span_split (D := isDg) _ _ c d u v (digF_dg 2 n) (digF_dg 2 m) (no_dg hc) (no_dg hd) h
  exact ⟨dig_inj hn hm h1, h2, h3⟩
def rgT (r : Nat × Nat) : Tx := dig r.1 ++ 45 :: dig r.2
def tailR : List (Nat × Nat) → Tx → Tx
  | [], u => 93 :: u
  | r :: R, u => 44 :: (rgT r ++ tailR R u)
theorem sep_tailR : ∀ (R : List (Nat × Nat)) (r : Nat × Nat) (u : Tx), sepB [44] ((r :: R).map rgT) ++ 93 :: u = rgT r ++ tailR R u
  | [], r, u => rfl
  | s :: R, r, u => by
    have h := sep_tailR R s u
    show (rgT r ++ [44] ++ sepB [44] ((s :: R).map rgT)) ++ 93 :: u = rgT r ++ 44 :: (rgT s ++ tailR R u)
    rw [List.append_assoc, h]
    simp
theorem tail_head : ∀ (R : List (Nat × Nat)) (u : Tx), ∃ c w, tailR R u = c :: w ∧ (c = 44 ∨ c = 45 ∨ c = 93)
  | [], u => ⟨93, u, rfl, .inr (.inr rfl)⟩
  | r :: R, u => ⟨44, _, rfl, .inl rfl⟩
theorem rg_split {r s : Nat × Nat} (hr : r.1 < 1000 ∧ r.2 < 1000) (hs : s.1 < 1000 ∧ s.2 < 1000) {R S : List (Nat × Nat)} {u v : Tx} (h : rgT r ++ tailR R u = rgT s ++ tailR S v) : r = s ∧ tailR R u = tailR S v := by
  obtain ⟨c, w, e1, hc⟩ := tail_head R u
  obtain ⟨d, z, e2, hd⟩ := tail_head S v
  unfold rgT at h
  rw [List.append_assoc, List.append_assoc] at h
  obtain ⟨h1, _, h2⟩ := dig_split hr.1 hs.1 (.inr (.inl rfl)) (.inr (.inl rfl)) h
  rw [e1, e2] at h2
  obtain ⟨h3, h4, h5⟩ := dig_split hr.2 hs.2 hc hd h2
  exact ⟨Prod.ext h1 h3, by rw [e1, e2, h4, h5]⟩
theorem tail_split : ∀ (R S : List (Nat × Nat)) (u v : Tx), (∀ r ∈ R, r.1 < 1000 ∧ r.2 < 1000) → (∀ r ∈ S, r.1 < 1000 ∧ r.2 < 1000) → tailR R u = tailR S v → R = S ∧ u = v
  | [], [], u, v, _, _, h => by simp [tailR] at h; exact ⟨rfl, h⟩
  | [], s :: S, u, v, _, _, h => by simp [tailR] at h
  | r :: R, [], u, v, _, _, h => by simp [tailR] at h
  | r :: R, s :: S, u, v, hR, hS, h => by
    simp only [tailR, List.cons.injEq, true_and] at h
    obtain ⟨h1, h2⟩ := rg_split (hR r (by simp)) (hS s (by simp)) h
    obtain ⟨h3, h4⟩ := tail_split R S u v (fun x hx => hR x (by simp [hx])) (fun x hx => hS x (by simp [hx])) h2
    exact ⟨by rw [h1, h3], h4⟩
theorem ranges_split {R S : List (Nat × Nat)} {u v : Tx} (hR : ∀ r ∈ R, r.1 < 1000 ∧ r.2 < 1000) (hS : ∀ r ∈ S, r.1 < 1000 ∧ r.2 < 1000) (h : sepB [44] (R.map rgT) ++ 93 :: u = sepB [44] (S.map rgT) ++ 93 :: v) : R = S ∧ u = v := by
  have hh : ∀ (s : Nat × Nat) (S : List (Nat × Nat)) (u v : Tx), 93 :: u ≠ rgT s ++ tailR S v := fun s S u v e => by
    unfold rgT at e
    rw [List.append_assoc] at e
    have e : ([] : Tx) ++ 93 :: u = dig s.1 ++ 45 :: (dig s.2 ++ tailR S v) := e
    obtain ⟨e1, _⟩ := span_split (D := isDg) _ _ _ _ _ _ (fun _ h => by cases h) (digF_dg 2 s.1) (no_dg (.inr (.inr rfl))) (no_dg (.inr (.inl rfl))) e
    exact dig_ne _ e1.symm
  match R, S with
  | [], [] => simp [sepB] at h; exact ⟨rfl, h⟩
  | [], s :: S => rw [sep_tailR] at h; exact absurd h (hh _ _ _ _)
  | r :: R, [] => rw [sep_tailR] at h; exact absurd h.symm (hh _ _ _ _)
  | r :: R, s :: S =>
    rw [sep_tailR, sep_tailR] at h
    obtain ⟨h1, h2⟩ := rg_split (hR r (by simp)) (hS s (by simp)) h
    obtain ⟨h3, h4⟩ := tail_split R S u v (fun x hx => hR x (by simp [hx])) (fun x hx => hS x (by simp [hx])) h2
    exact ⟨by rw [h1, h3], h4⟩
theorem rgs_small (f : Nat → Bool) : ∀ r ∈ rgs f 256, r.1 < 1000 ∧ r.2 < 1000 := fun r hr => by
  have h := (rgs_good f 256).1 r hr
  omega
theorem rng_inj {s t : W4} (hs : s.Ok) (ht : t.Ok) {u v : Tx} (h : rngT s ++ 93 :: u = rngT t ++ 93 :: v) : s = t ∧ u = v := by
  obtain ⟨h1, h2⟩ := ranges_split (rgs_small s.mem) (rgs_small t.mem) h
  refine ⟨?_, h2⟩
  rw [← of_mem hs, ← of_mem ht]
  refine of_congr fun b hb => ?_
  have e1 := rgs_in s.mem b 256
  have e2 := rgs_in t.mem b 256
  rw [h1] at e1
  rw [e1] at e2
  simpa [hb] using e2

/-! ### trees -/
def headC (c : UInt8) : Prop := c = 48 ∨ c = 49 ∨ c = 91 ∨ c = 40 ∨ c = 123
theorem txt_head : ∀ t : RT, good t → ∃ c r, txt t = c :: r ∧ headC c := by
  intro t
  induction t using RT.ind with
  | h k s kids ih =>
    intro hg
    obtain ⟨⟨_, h2⟩, _, h3⟩ := good_mk.1 hg
    rw [txt_mk]
    unfold headC
    split
    · exact ⟨48, [], rfl, by simp⟩
    · split
      · exact ⟨49, [], rfl, by simp⟩
      · split
        · exact ⟨91, _, rfl, by simp⟩
        · split
          · exact ⟨40, _, rfl, by simp⟩
          · split
            · rename_i e
              have : kids.length = 1 := by
                rcases h2 with ⟨q, _⟩ | ⟨_, q, _⟩ | ⟨q, _⟩ | ⟨q, _⟩
                · omega
                · exact q
                · omega
                · omega
              match kids, this with
              | [x], _ =>
                obtain ⟨c, r, e, hc⟩ := ih x (by simp) (h3 x (by simp))
                exact ⟨c, r ++ [42], by simp [sepB, e], hc⟩
            · exact ⟨123, _, rfl, by simp⟩
def catT : List RT → Tx → Tx
  | [], u => 41 :: u
  | t :: l, u => txt t ++ catT l u
theorem sep_catT : ∀ (l : List RT) (u : Tx), sepB [] (l.map txt) ++ 41 :: u = catT l u
  | [], u => rfl
  | [x], u => rfl
  | x :: y :: l, u => by
    have h := sep_catT (y :: l) u
    show (txt x ++ [] ++ sepB [] ((y :: l).map txt)) ++ 41 :: u = txt x ++ catT (y :: l) u
    rw [← h]
    simp
def eitT : List RT → Tx → Tx
  | [], u => 125 :: u
  | t :: l, u => 124 :: (txt t ++ eitT l u)
theorem sep_eitT : ∀ (l : List RT) (x : RT) (u : Tx), sepB [124] ((x :: l).map txt) ++ 125 :: u = txt x ++ eitT l u
  | [], x, u => rfl
  | y :: l, x, u => by
    have h := sep_eitT l y u
    show (txt x ++ [124] ++ sepB [124] ((y :: l).map txt)) ++ 125 :: u = txt x ++ 124 :: (txt y ++ eitT l u)
    rw [List.append_assoc, h]
    simp
/-- No star stands here. -/
def noS (u : Tx) : Prop := u.head? ≠ some 42
theorem noS_cat {l : List RT} (hg : ∀ t ∈ l, good t) (u : Tx) : noS (catT l u) := by
  match l with
  | [] => unfold noS; simp [catT]
  | t :: l =>
    obtain ⟨c, r, e, hc⟩ := txt_head t (hg t (by simp))
    unfold noS catT
    rw [e]
    simp
    unfold headC at hc
    rcases hc with rfl | rfl | rfl | rfl | rfl <;> decide
theorem noS_eit (l : List RT) (u : Tx) : noS (eitT l u) := by
  match l with
  | [] => unfold noS; simp [eitT]
  | t :: l => unfold noS; simp [eitT]
theorem lists_cat {n : Nat} (hI : ∀ x y : RT, x.sz ≤ n → good x → x.ok → good y → y.ok → ∀ u v, noS u → noS v → txt x ++ u = txt y ++ v → x = y ∧ u = v) :
    ∀ (l m : List RT) (u v : Tx), (∀ t ∈ l, t.sz ≤ n ∧ good t ∧ t.ok) → (∀ t ∈ m, good t ∧ t.ok) → catT l u = catT m v → l = m ∧ u = v
  | [], [], u, v, _, _, h => by simp [catT] at h; exact ⟨rfl, h⟩
  | [], t :: m, u, v, _, hm, h => by
    obtain ⟨c, r, e, hc⟩ := txt_head t (hm t (by simp)).1
    simp only [catT] at h
    rw [e] at h
    simp at h
    unfold headC at hc
    obtain ⟨rfl, _⟩ := h
    exact absurd hc (by decide)
  | t :: l, [], u, v, hl, _, h => by
    obtain ⟨c, r, e, hc⟩ := txt_head t (hl t (by simp)).2.1
    simp only [catT] at h
    rw [e] at h
    simp at h
    unfold headC at hc
    obtain ⟨rfl, _⟩ := h
    exact absurd hc (by decide)
  | t :: l, s :: m, u, v, hl, hm, h => by
    obtain ⟨h1, h2, h3⟩ := hl t (by simp)
    obtain ⟨h4, h5⟩ := hm s (by simp)
    obtain ⟨e1, e2⟩ := hI t s h1 h2 h3 h4 h5 _ _ (noS_cat (fun x hx => (hl x (by simp [hx])).2.1) u) (noS_cat (fun x hx => (hm x (by simp [hx])).1) v) h
    obtain ⟨e3, e4⟩ := lists_cat hI l m u v (fun x hx => hl x (by simp [hx])) (fun x hx => hm x (by simp [hx])) e2
    exact ⟨by rw [e1, e3], e4⟩
theorem lists_eit {n : Nat} (hI : ∀ x y : RT, x.sz ≤ n → good x → x.ok → good y → y.ok → ∀ u v, noS u → noS v → txt x ++ u = txt y ++ v → x = y ∧ u = v) :
    ∀ (l m : List RT) (u v : Tx), (∀ t ∈ l, t.sz ≤ n ∧ good t ∧ t.ok) → (∀ t ∈ m, good t ∧ t.ok) → eitT l u = eitT m v → l = m ∧ u = v
  | [], [], u, v, _, _, h => by simp [eitT] at h; exact ⟨rfl, h⟩
  | [], t :: m, u, v, _, hm, h => by simp [eitT] at h
  | t :: l, [], u, v, hl, _, h => by simp [eitT] at h
  | t :: l, s :: m, u, v, hl, hm, h => by
    obtain ⟨h1, h2, h3⟩ := hl t (by simp)
    obtain ⟨h4, h5⟩ := hm s (by simp)
    simp only [eitT, List.cons.injEq, true_and] at h
    obtain ⟨e1, e2⟩ := hI t s h1 h2 h3 h4 h5 _ _ (noS_eit l u) (noS_eit m v) h
    obtain ⟨e3, e4⟩ := lists_eit hI l m u v (fun x hx => hl x (by simp [hx])) (fun x hx => hm x (by simp [hx])) e2
    exact ⟨by rw [e1, e3], e4⟩
/-- Two that are no stars. -/
theorem unit_inj {n : Nat} (hI : ∀ x y : RT, x.sz ≤ n → good x → x.ok → good y → y.ok → ∀ u v, noS u → noS v → txt x ++ u = txt y ++ v → x = y ∧ u = v) :
    ∀ x y : RT, x.sz ≤ n + 1 → good x → x.ok → good y → y.ok → x.kind ≠ 5 → y.kind ≠ 5 → ∀ u v, txt x ++ u = txt y ++ v → x = y ∧ u = v := by
  intro x y hx gx ox gy oy kx ky u v h
  obtain ⟨k, s, l⟩ := x
  obtain ⟨k', s', l'⟩ := y
  obtain ⟨⟨f1, f2⟩, _, f3⟩ := good_mk.1 gx
  obtain ⟨⟨g1, g2⟩, _, g3⟩ := good_mk.1 gy
  obtain ⟨o1, o2⟩ := ok_mk.1 ox
  obtain ⟨p1, p2⟩ := ok_mk.1 oy
  simp only [RT.kind] at kx ky
  have hl : ∀ t ∈ l, t.sz ≤ n ∧ good t ∧ t.ok := fun t ht => ⟨by have := sz_kid (k := k) (s := s) ht; omega, f3 t ht, o2 t ht⟩
  have hm : ∀ t ∈ l', good t ∧ t.ok := fun t ht => ⟨g3 t ht, p2 t ht⟩
  have hz : k ≠ 2 → s = W4.zero := f1.2
  have hz' : k' ≠ 2 → s' = W4.zero := g1.2
  have hk : k = 0 ∧ l = [] ∨ k = 1 ∧ l = [] ∨ k = 2 ∧ l = [] ∨ k = 3 ∨ k = 4 ∧ 2 ≤ l.length := by
    rcases f2 with ⟨q | q | q, e⟩ | ⟨q, _⟩ | ⟨q, _⟩ | ⟨q, e, _⟩
    · exact .inl ⟨q, e⟩
    · exact .inr (.inl ⟨q, e⟩)
    · exact .inr (.inr (.inl ⟨q, e⟩))
    · exact absurd q kx
    · exact .inr (.inr (.inr (.inl q)))
    · exact .inr (.inr (.inr (.inr ⟨q, e⟩)))
  have hk' : k' = 0 ∧ l' = [] ∨ k' = 1 ∧ l' = [] ∨ k' = 2 ∧ l' = [] ∨ k' = 3 ∨ k' = 4 ∧ 2 ≤ l'.length := by
    rcases g2 with ⟨q | q | q, e⟩ | ⟨q, _⟩ | ⟨q, _⟩ | ⟨q, e, _⟩
    · exact .inl ⟨q, e⟩
    · exact .inr (.inl ⟨q, e⟩)
    · exact .inr (.inr (.inl ⟨q, e⟩))
    · exact absurd q ky
    · exact .inr (.inr (.inr (.inl q)))
    · exact .inr (.inr (.inr (.inr ⟨q, e⟩)))
  have t0 : ∀ (s : W4) (l : List RT), txt (.mk 0 s l) = [48] := fun s l => by rw [txt_mk, if_pos rfl]
  have t1 : ∀ (s : W4) (l : List RT), txt (.mk 1 s l) = [49] := fun s l => by rw [txt_mk, if_neg (by decide), if_pos rfl]
  have t2 : ∀ (s : W4) (l : List RT), txt (.mk 2 s l) = 91 :: (rngT s ++ [93]) := fun s l => by rw [txt_mk, if_neg (by decide), if_neg (by decide), if_pos rfl]
  have t3 : ∀ (s : W4) (l : List RT), txt (.mk 3 s l) = 40 :: (sepB [] (l.map txt) ++ [41]) := fun s l => by rw [txt_mk, if_neg (by decide), if_neg (by decide), if_neg (by decide), if_pos rfl]
  have t4 : ∀ (s : W4) (l : List RT), txt (.mk 4 s l) = 123 :: (sepB [124] (l.map txt) ++ [125]) := fun s l => by rw [txt_mk, if_neg (by decide), if_neg (by decide), if_neg (by decide), if_neg (by decide), if_neg (by decide)]
  rcases hk with ⟨rfl, rfl⟩ | ⟨rfl, rfl⟩ | ⟨rfl, rfl⟩ | rfl | ⟨rfl, e⟩ <;> rcases hk' with ⟨rfl, rfl⟩ | ⟨rfl, rfl⟩ | ⟨rfl, rfl⟩ | rfl | ⟨rfl, e'⟩ <;> simp only [t0, t1, t2, t3, t4, List.cons_append, List.nil_append, List.append_assoc, List.cons.injEq] at h
  all_goals first
    | exact absurd h.1 (by decide)
    | skip
  · exact ⟨by rw [hz (by decide), hz' (by decide)], h.2⟩
  · exact ⟨by rw [hz (by decide), hz' (by decide)], h.2⟩
  · obtain ⟨e1, e2⟩ := rng_inj o1 p1 h.2
    exact ⟨by rw [e1], e2⟩
  · have h2 := h.2
    have e1 := sep_catT l u
    have e2 := sep_catT l' v
    have h3 : catT l u = catT l' v := by rw [← e1, ← e2]; exact h2
    obtain ⟨q1, q2⟩ := lists_cat hI l l' u v hl hm h3
    exact ⟨by rw [q1, hz (by decide), hz' (by decide)], q2⟩
  · match l, l', e, e' with
    | a :: l, b :: l', _, _ =>
      have h2 := h.2
      have e1 := sep_eitT l a u
      have e2 := sep_eitT l' b v
      have h3 : txt a ++ eitT l u = txt b ++ eitT l' v := by rw [← e1, ← e2]; exact h2
      obtain ⟨i1, i2, i3⟩ := hl a (by simp)
      obtain ⟨i4, i5⟩ := hm b (by simp)
      obtain ⟨q1, q2⟩ := hI a b i1 i2 i3 i4 i5 _ _ (noS_eit l u) (noS_eit l' v) h3
      obtain ⟨q3, q4⟩ := lists_eit hI l l' u v (fun x hx => hl x (by simp [hx])) (fun x hx => hm x (by simp [hx])) q2
      exact ⟨by rw [q1, q3, hz (by decide), hz' (by decide)], q4⟩
theorem star_is {t : RT} (h : good t) (hk : t.kind = 5) : ∃ x, t = .mk 5 W4.zero [x] ∧ x.kind ≠ 5 ∧ txt t = txt x ++ [42] := by
  obtain ⟨k, s, l⟩ := t
  simp only [RT.kind] at hk
  subst hk
  obtain ⟨⟨f1, f2⟩, _, _⟩ := good_mk.1 h
  have hs := f1.2 (by decide)
  subst hs
  rcases f2 with ⟨q | q | q, _⟩ | ⟨_, e, q⟩ | ⟨q, _⟩ | ⟨q, _⟩
  · omega
  · omega
  · omega
  · match l, e with
    | [x], _ => exact ⟨x, rfl, (q x (by simp)).2.2, by rw [txt_mk, if_neg (by decide), if_neg (by decide), if_neg (by decide), if_neg (by decide), if_pos rfl]; rfl⟩
  · omega
  · omega
theorem txt_inj_at : ∀ (n : Nat) (x y : RT), x.sz ≤ n → good x → x.ok → good y → y.ok → ∀ u v, noS u → noS v → txt x ++ u = txt y ++ v → x = y ∧ u = v
  | 0, x, _, hx, _, _, _, _, _, _, _, _, _ => by have := sz_pos x; omega
  | n + 1, x, y, hx, gx, ox, gy, oy, u, v, hu, hv, h => by
    have hU := unit_inj (txt_inj_at n)
    have kid : ∀ {a : RT}, good (.mk 5 W4.zero [a]) → RT.ok (.mk 5 W4.zero [a]) → good a ∧ a.ok := fun g o => ⟨(good_mk.1 g).2.2 _ (by simp), (ok_mk.1 o).2 _ (by simp)⟩
    have ssz : ∀ {a : RT} {m : Nat}, (RT.mk 5 W4.zero [a]).sz ≤ m → a.sz ≤ m := fun h => by rw [sz_mk] at h; simp at h; omega
    by_cases kx : x.kind = 5
    · obtain ⟨a, rfl, ka, ta⟩ := star_is gx kx
      obtain ⟨ga, oa⟩ := kid gx ox
      have hsa := ssz hx
      by_cases ky : y.kind = 5
      · obtain ⟨b, rfl, kb, tb⟩ := star_is gy ky
        obtain ⟨gb, ob⟩ := kid gy oy
        rw [ta, tb, List.append_assoc, List.append_assoc] at h
        obtain ⟨e1, e2⟩ := hU a b hsa ga oa gb ob ka kb _ _ h
        simp at e2
        exact ⟨by rw [e1], e2⟩
      · rw [ta, List.append_assoc] at h
        obtain ⟨e1, e2⟩ := hU a y hsa ga oa gy oy ka ky _ _ h
        exact absurd (by rw [← e2]; rfl) hv
    · by_cases ky : y.kind = 5
      · obtain ⟨b, rfl, kb, tb⟩ := star_is gy ky
        obtain ⟨gb, ob⟩ := kid gy oy
        rw [tb, List.append_assoc] at h
        obtain ⟨e1, e2⟩ := hU x b hx gx ox gb ob kx kb _ _ h
        exact absurd (by rw [e2]; rfl) hu
      · exact hU x y hx gx ox gy oy kx ky _ _ h
/-- THE TEXT SAYS WHICH IT IS. -/
theorem txt_inj {x y : RT} (gx : good x) (ox : x.ok) (gy : good y) (oy : y.ok) (h : txt x = txt y) : x = y :=
  (txt_inj_at x.sz x y (Nat.le_refl _) gx ox gy oy [] [] (by unfold noS; simp) (by unfold noS; simp) (by rw [h])).1

end Go.Proofs.YtfgaadhacifhiaaGreatDoor

/-! Which byte strings an expression derives, and that making, Nullable and Deriv keep to it. Condition of Either: its parts are good. -/
namespace Go.Proofs.YtfgaadhacifhiaaGreatDoor
open Go.RowKit Go.Lib
set_option linter.unusedVariables false
set_option linter.unusedSimpArgs false

def CatP : List (List Nat → Prop) → List Nat → Prop
  | [], w => w = []
  | P :: Ps, w => ∃ u v, w = u ++ v ∧ P u ∧ CatP Ps v
inductive StarP (P : List Nat → Prop) : List Nat → Prop
  | nil : StarP P []
  | more {u v : List Nat} : P u → StarP P v → StarP P (u ++ v)
/-- The byte strings that one derives. -/
def Lg : RT → List Nat → Prop
  | .mk k s kids => fun w => if k = 1 then w = [] else if k = 2 then ∃ c, c < 256 ∧ w = [c] ∧ s.mem c = true else if k = 3 then CatP (kids.map Lg) w else if k = 4 then ∃ P ∈ kids.map Lg, P w
    else if k = 5 then (match kids.map Lg with | [P] => StarP P w | _ => w = []) else False
theorem lg_mk (k : Int) (s : W4) (kids : List RT) (w : List Nat) : Lg (.mk k s kids) w = if k = 1 then w = [] else if k = 2 then ∃ c, c < 256 ∧ w = [c] ∧ s.mem c = true else if k = 3 then CatP (kids.map Lg) w else if k = 4 then ∃ P ∈ kids.map Lg, P w
    else if k = 5 then (match kids.map Lg with | [P] => StarP P w | _ => w = []) else False := by rw [Lg]
theorem lg_none (s : W4) (l : List RT) (w : List Nat) : ¬ Lg (.mk 0 s l) w := by rw [lg_mk]; simp
theorem lg_empty (s : W4) (l : List RT) (w : List Nat) : Lg (.mk 1 s l) w ↔ w = [] := by rw [lg_mk]; simp
theorem lg_byte (s : W4) (l : List RT) (w : List Nat) : Lg (.mk 2 s l) w ↔ ∃ c, c < 256 ∧ w = [c] ∧ s.mem c = true := by rw [lg_mk]; simp
theorem lg_cat (s : W4) (l : List RT) (w : List Nat) : Lg (.mk 3 s l) w ↔ CatP (l.map Lg) w := by rw [lg_mk]; simp
theorem lg_either (s : W4) (l : List RT) (w : List Nat) : Lg (.mk 4 s l) w ↔ ∃ t ∈ l, Lg t w := by
  rw [lg_mk, if_neg (by decide), if_neg (by decide), if_neg (by decide), if_pos rfl]
  constructor
  · rintro ⟨P, hP, h⟩
    obtain ⟨t, ht, rfl⟩ := List.mem_map.1 hP
    exact ⟨t, ht, h⟩
  · rintro ⟨t, ht, h⟩
    exact ⟨_, List.mem_map_of_mem ht, h⟩
theorem lg_star (s : W4) (x : RT) (w : List Nat) : Lg (.mk 5 s [x]) w ↔ StarP (Lg x) w := by rw [lg_mk]; simp
theorem lg_kind0 {t : RT} (h : t.kind = 0) (w : List Nat) : ¬ Lg t w := by
  obtain ⟨k, s, l⟩ := t
  simp only [RT.kind] at h
  subst h
  exact lg_none s l w
theorem lg_kind1 {t : RT} (h : t.kind = 1) (w : List Nat) : Lg t w ↔ w = [] := by
  obtain ⟨k, s, l⟩ := t
  simp only [RT.kind] at h
  subst h
  exact lg_empty s l w
theorem catp_append : ∀ (A B : List (List Nat → Prop)) (w : List Nat), CatP (A ++ B) w ↔ ∃ u v, w = u ++ v ∧ CatP A u ∧ CatP B v
  | [], B, w => by
    constructor
    · intro h; exact ⟨[], w, rfl, rfl, h⟩
    · rintro ⟨u, v, rfl, rfl, h⟩; exact h
  | P :: A, B, w => by
    simp only [List.cons_append, CatP]
    constructor
    · rintro ⟨u, v, rfl, hp, h⟩
      obtain ⟨x, y, rfl, hx, hy⟩ := (catp_append A B v).1 h
      exact ⟨u ++ x, y, by simp, ⟨u, x, rfl, hp, hx⟩, hy⟩
    · rintro ⟨u, v, rfl, ⟨a, b, rfl, hp, hb⟩, hv⟩
      exact ⟨a, b ++ v, by simp, hp, (catp_append A B _).2 ⟨b, v, rfl, hb, hv⟩⟩
theorem catp_one (P : List Nat → Prop) (w : List Nat) : CatP [P] w ↔ P w := by
  simp only [CatP]
  constructor
  · rintro ⟨u, v, rfl, hp, rfl⟩; simpa using hp
  · intro h; exact ⟨w, [], by simp, h, rfl⟩
theorem catp_flat : ∀ (l : List RT) (w : List Nat), CatP ((flatM 3 l).map Lg) w ↔ CatP (l.map Lg) w
  | [], w => Iff.rfl
  | r :: l, w => by
    have e : flatM 3 (r :: l) = (if r.kind = 3 then r.kids else [r]) ++ flatM 3 l := by unfold flatM; rw [List.flatMap_cons]
    rw [e, List.map_append, catp_append]
    have h1 : ∀ u, CatP ((if r.kind = 3 then r.kids else [r]).map Lg) u ↔ Lg r u := fun u => by
      split
      · rename_i hk
        obtain ⟨k, s, kids⟩ := r
        simp only [RT.kind] at hk
        subst hk
        exact (lg_cat s kids u).symm
      · exact catp_one _ _
    show (∃ u v, _) ↔ (∃ u v, _)
    constructor
    · rintro ⟨u, v, rfl, hu, hv⟩
      exact ⟨u, v, rfl, (h1 u).1 hu, (catp_flat l v).1 hv⟩
    · rintro ⟨u, v, rfl, hu, hv⟩
      exact ⟨u, v, rfl, (h1 u).2 hu, (catp_flat l v).2 hv⟩
theorem catp_no : ∀ {l : List RT}, (∃ t ∈ l, t.kind = 0) → ∀ w, ¬ CatP (l.map Lg) w
  | [], h, w => by obtain ⟨t, ht, _⟩ := h; cases ht
  | r :: l, h, w => by
    rintro ⟨u, v, rfl, hu, hv⟩
    obtain ⟨t, ht, hk⟩ := h
    rcases List.mem_cons.1 ht with rfl | ht
    · exact lg_kind0 hk u hu
    · exact catp_no ⟨t, ht, hk⟩ v hv
theorem catp_drop : ∀ (l : List RT) (w : List Nat), CatP ((l.filter fun r => !(r.kind == 1)).map Lg) w ↔ CatP (l.map Lg) w
  | [], w => Iff.rfl
  | r :: l, w => by
    rw [List.filter_cons]
    by_cases hk : r.kind = 1
    · rw [if_neg (by simp [hk]), catp_drop l w]
      show _ ↔ ∃ u v, _
      constructor
      · intro h; exact ⟨[], w, rfl, (lg_kind1 hk []).2 rfl, h⟩
      · rintro ⟨u, v, rfl, hu, hv⟩
        rw [(lg_kind1 hk u).1 hu]
        simpa using hv
    · rw [if_pos (by simp [hk])]
      show (∃ u v, _) ↔ ∃ u v, _
      constructor
      · rintro ⟨u, v, rfl, hu, hv⟩
        exact ⟨u, v, rfl, hu, (catp_drop l v).1 hv⟩
      · rintro ⟨u, v, rfl, hu, hv⟩
        exact ⟨u, v, rfl, hu, (catp_drop l v).2 hv⟩
theorem some_cat (l : List RT) (w : List Nat) : Lg (someM 3 1 l) w ↔ CatP (l.map Lg) w := by
  match l with
  | [] => exact lg_empty _ _ w
  | [x] => exact (catp_one _ w).symm
  | x :: y :: l => exact lg_cat _ _ w
/-- What a Cat derives. -/
theorem lg_catM (l : List RT) (w : List Nat) : Lg (catM l) w ↔ CatP (l.map Lg) w := by
  unfold catM
  split
  · rename_i h
    obtain ⟨t, ht, hk⟩ := List.any_eq_true.1 h
    have h1 := catp_no (l := flatM 3 l) ⟨t, ht, by simpa using hk⟩ w
    rw [catp_flat] at h1
    exact ⟨fun h => absurd h (lg_none _ _ _), fun h => absurd h h1⟩
  · rw [some_cat, catp_drop, catp_flat]
theorem StarP.append {P : List Nat → Prop} {u v : List Nat} (hu : StarP P u) (hv : StarP P v) : StarP P (u ++ v) := by
  induction hu with
  | nil => exact hv
  | more hp _ ih => rw [List.append_assoc]; exact .more hp ih
theorem StarP.one {P : List Nat → Prop} {u : List Nat} (h : P u) : StarP P u := by
  have := StarP.more h (StarP.nil (P := P))
  simpa using this
theorem StarP.congr {P Q : List Nat → Prop} (h : ∀ u, P u → StarP Q u) {w : List Nat} (hw : StarP P w) : StarP Q w := by
  induction hw with
  | nil => exact .nil
  | more hp _ ih => exact (h _ hp).append ih
/-- What a Star derives. -/
theorem lg_starM (t : RT) (w : List Nat) (h5 : t.kind = 5 → ∃ x, t.kids = [x]) : Lg (starM t) w ↔ StarP (Lg t) w := by
  unfold starM
  split
  · rename_i h
    rw [show emptyM = .mk 1 W4.zero [] from rfl, lg_empty]
    constructor
    · rintro rfl; exact .nil
    · intro hw
      induction hw with
      | nil => rfl
      | more hp _ ih =>
        rcases h with h | h
        · exact absurd hp (lg_kind0 h _)
        · rw [(lg_kind1 h _).1 hp, ih]; rfl
  · split
    · rename_i h
      obtain ⟨x, hx⟩ := h5 h
      obtain ⟨k, s, kids⟩ := t
      simp only [RT.kind, RT.kids] at h hx
      subst h hx
      constructor
      · exact fun h => .one h
      · intro hw
        rw [lg_star]
        exact hw.congr fun u hu => (lg_star s x u).1 hu
    · exact lg_star _ t w
/-! ### Either -/
theorem lg_flat4 : ∀ (l : List RT) (w : List Nat), (∃ t ∈ flatM 4 l, Lg t w) ↔ ∃ t ∈ l, Lg t w
  | [], w => by simp [flatM]
  | r :: l, w => by
    have e : flatM 4 (r :: l) = (if r.kind = 4 then r.kids else [r]) ++ flatM 4 l := by unfold flatM; rw [List.flatMap_cons]
    have h1 : (∃ t ∈ (if r.kind = 4 then r.kids else [r]), Lg t w) ↔ Lg r w := by
      split
      · rename_i hk
        obtain ⟨k, s, kids⟩ := r
        simp only [RT.kind] at hk
        subst hk
        exact (lg_either s kids w).symm
      · simp
    have h2 := lg_flat4 l w
    rw [e]
    constructor
    · rintro ⟨t, ht, h⟩
      rcases List.mem_append.1 ht with ht | ht
      · exact ⟨r, by simp, h1.1 ⟨t, ht, h⟩⟩
      · obtain ⟨u, hu, h⟩ := h2.1 ⟨t, ht, h⟩
        exact ⟨u, by simp [hu], h⟩
    · rintro ⟨t, ht, h⟩
      rcases List.mem_cons.1 ht with rfl | ht
      · obtain ⟨u, hu, h⟩ := h1.2 h
        exact ⟨u, List.mem_append.2 (.inl hu), h⟩
      · obtain ⟨u, hu, h⟩ := h2.2 ⟨t, ht, h⟩
        exact ⟨u, List.mem_append.2 (.inr hu), h⟩
theorem memW_of (f : Nat → Bool) {b : Nat} (hb : b < 256) : (W4.of f).mem b = f b := (W4.isSet (of_ok f)).inj (of_isSet f) b hb
theorem lg_kind2 {t : RT} (h : t.kind = 2) (w : List Nat) : Lg t w ↔ ∃ c, c < 256 ∧ w = [c] ∧ t.set.mem c = true := by
  obtain ⟨k, s, l⟩ := t
  simp only [RT.kind] at h
  subst h
  exact lg_byte s l w
theorem lg_bytes (F : List RT) (w : List Nat) : (∃ t ∈ byteM F, Lg t w) ↔ ∃ t ∈ F, t.kind = 2 ∧ Lg t w := by
  have h1 : (∃ t ∈ byteM F, Lg t w) ↔ ∃ c, c < 256 ∧ w = [c] ∧ (unionM F).mem c = true := by
    unfold byteM
    split
    · rename_i e
      rw [e]
      constructor
      · rintro ⟨t, ht, _⟩; cases ht
      · rintro ⟨c, hc, _, h⟩
        have : W4.zero.mem c = false := by unfold W4.mem W4.zero memb; simp
        rw [this] at h
        cases h
    · simp only [List.mem_singleton, exists_eq_left]
      exact lg_byte _ _ w
  rw [h1]
  constructor
  · rintro ⟨c, hc, hw, h⟩
    unfold unionM at h
    rw [memW_of _ hc] at h
    obtain ⟨t, ht, h2⟩ := List.any_eq_true.1 h
    simp only [Bool.and_eq_true, beq_iff_eq] at h2
    exact ⟨t, ht, h2.1, (lg_kind2 h2.1 w).2 ⟨c, hc, hw, h2.2⟩⟩
  · rintro ⟨t, ht, hk, h⟩
    obtain ⟨c, hc, hw, h2⟩ := (lg_kind2 hk w).1 h
    refine ⟨c, hc, hw, ?_⟩
    unfold unionM
    rw [memW_of _ hc]
    exact List.any_eq_true.2 ⟨t, ht, by simp [hk, h2]⟩
theorem lg_parts (F : List RT) (w : List Nat) : (∃ t ∈ byteM F ++ othersM F, Lg t w) ↔ ∃ t ∈ F, Lg t w := by
  have hb := lg_bytes F w
  constructor
  · rintro ⟨t, ht, h⟩
    rcases List.mem_append.1 ht with ht | ht
    · obtain ⟨u, hu, _, h⟩ := hb.1 ⟨t, ht, h⟩
      exact ⟨u, hu, h⟩
    · exact ⟨t, (List.mem_filter.1 ht).1, h⟩
  · rintro ⟨t, ht, h⟩
    by_cases h2 : t.kind = 2
    · obtain ⟨u, hu, h⟩ := hb.2 ⟨t, ht, h2, h⟩
      exact ⟨u, List.mem_append.2 (.inl hu), h⟩
    · have h0 : t.kind ≠ 0 := fun e => lg_kind0 e w h
      exact ⟨t, List.mem_append.2 (.inr (List.mem_filter.2 ⟨ht, by simp [h0, h2]⟩)), h⟩
theorem putsL_keys (L : List RT) (t : Tx) : t ∈ (putsM L).map txt ↔ t ∈ L.map txt := by
  suffices h : ∀ (L o : List RT), Asc txt o → (t ∈ (L.foldl (fun o r => putL txt r false o) o).map txt ↔ t ∈ o.map txt ∨ t ∈ L.map txt) by
    have := h L [] List.Pairwise.nil
    simpa [putsM] using this
  intro L
  induction L with
  | nil => intro o _; simp
  | cons r L ih =>
    intro o h
    obtain ⟨g1, g2⟩ := putL_asc tlt_trans r o h
    rw [List.foldl_cons, ih _ g1, List.map_cons, List.mem_cons]
    have e : t ∈ (putL txt r false o).map txt ↔ t ∈ o.map txt ∨ t = txt r := by
      constructor
      · intro ht
        obtain ⟨x, hx, rfl⟩ := List.mem_map.1 ht
        rcases (g2 x).1 hx with q | ⟨rfl, _⟩
        · exact .inl (List.mem_map.2 ⟨x, q, rfl⟩)
        · exact .inr rfl
      · rintro (ht | rfl)
        · obtain ⟨x, hx, rfl⟩ := List.mem_map.1 ht
          exact List.mem_map.2 ⟨x, (g2 x).2 (.inl hx), rfl⟩
        · by_cases hy : ∃ y ∈ o, txt y = txt r
          · obtain ⟨y, hy, e⟩ := hy
            exact List.mem_map.2 ⟨y, (g2 y).2 (.inl hy), e⟩
          · exact List.mem_map.2 ⟨r, (g2 r).2 (.inr ⟨rfl, fun y h e => hy ⟨y, h, e⟩⟩), rfl⟩
    rw [e, or_assoc]
theorem some_either (l : List RT) (w : List Nat) : Lg (someM 4 0 l) w ↔ ∃ t ∈ l, Lg t w := by
  match l with
  | [] => exact ⟨fun h => absurd h (lg_none _ _ _), fun ⟨t, ht, _⟩ => by cases ht⟩
  | [x] => simp [someM]
  | x :: y :: l => exact lg_either _ _ w
theorem lg_puts {X : List RT} (hg : ∀ t ∈ X, good t ∧ t.ok) (w : List Nat) : (∃ t ∈ putsM X, Lg t w) ↔ ∃ t ∈ X, Lg t w := by
  have hs := (puts_asc X).2
  constructor
  · rintro ⟨t, ht, h⟩
    exact ⟨t, hs t ht, h⟩
  · rintro ⟨t, ht, h⟩
    obtain ⟨u, hu, e⟩ := List.mem_map.1 ((putsL_keys X (txt t)).2 (List.mem_map.2 ⟨t, ht, rfl⟩))
    obtain ⟨g1, o1⟩ := hg t ht
    obtain ⟨g2, o2⟩ := hg u (hs u hu)
    have := txt_inj g2 o2 g1 o1 e
    subst this
    exact ⟨u, hu, h⟩
theorem flat_ok {k : Int} {l : List RT} (h : ∀ t ∈ l, good t ∧ t.ok) : ∀ t ∈ flatM k l, good t ∧ t.ok := by
  intro t ht
  unfold flatM at ht
  obtain ⟨r, hr, ht⟩ := List.mem_flatMap.1 ht
  obtain ⟨g, o⟩ := h r hr
  split at ht
  · obtain ⟨k', s, kids⟩ := r
    exact ⟨(good_mk.1 g).2.2 t ht, (ok_mk.1 o).2 t ht⟩
  · rw [List.mem_singleton.1 ht]; exact ⟨g, o⟩
theorem parts_ok {F : List RT} (h : ∀ t ∈ F, good t ∧ t.ok) : ∀ t ∈ byteM F ++ othersM F, good t ∧ t.ok := by
  intro t ht
  rcases List.mem_append.1 ht with ht | ht
  · unfold byteM at ht
    split at ht
    · cases ht
    · rename_i e
      rw [List.mem_singleton.1 ht]
      exact ⟨good_mk.2 ⟨⟨⟨fun h => absurd h e, fun h => absurd rfl h⟩, .inl ⟨.inr (.inr rfl), rfl⟩⟩, ⟨fun h => absurd h (by decide), fun t ht => by cases ht⟩⟩, ok_mk.2 ⟨of_ok _, fun t ht => by cases ht⟩⟩
  · exact h t (List.mem_filter.1 ht).1
/-- What an Either derives. -/
theorem lg_eitherM {l : List RT} (hg : ∀ t ∈ l, good t ∧ t.ok) (w : List Nat) : Lg (eitherM l) w ↔ ∃ t ∈ l, Lg t w := by
  unfold eitherM
  rw [some_either, lg_puts (parts_ok (flat_ok hg)), lg_parts, lg_flat4]

end Go.Proofs.YtfgaadhacifhiaaGreatDoor

/-! Nullable, Deriv and Match keep to what is derived. Condition: the expression is good. -/
namespace Go.Proofs.YtfgaadhacifhiaaGreatDoor
open Go.RowKit Go.Lib
set_option linter.unusedVariables false
set_option linter.unusedSimpArgs false

theorem ok_leaf (k : Int) : (RT.mk k W4.zero []).ok := ok_mk.2 ⟨zero_ok, fun t ht => by cases ht⟩
theorem ok_some {k e : Int} {l : List RT} (h : ∀ t ∈ l, t.ok) : (someM k e l).ok := by
  match l, h with
  | [], _ => exact ok_leaf e
  | [x], h => exact h x (by simp)
  | x :: y :: l, h => exact ok_mk.2 ⟨zero_ok, h⟩
theorem ok_flat {k : Int} {l : List RT} (h : ∀ t ∈ l, t.ok) : ∀ t ∈ flatM k l, t.ok := by
  intro t ht
  unfold flatM at ht
  obtain ⟨r, hr, ht⟩ := List.mem_flatMap.1 ht
  split at ht
  · obtain ⟨k', s, kids⟩ := r
    exact (ok_mk.1 (h _ hr)).2 t ht
  · rw [List.mem_singleton.1 ht]; exact h r hr
theorem ok_cat {l : List RT} (h : ∀ t ∈ l, t.ok) : (catM l).ok := by
  unfold catM
  split
  · exact ok_leaf 0
  · exact ok_some fun t ht => ok_flat h t (List.mem_filter.1 ht).1
theorem ok_either {l : List RT} (h : ∀ t ∈ l, t.ok) : (eitherM l).ok := by
  unfold eitherM
  refine ok_some fun t ht => ?_
  rcases List.mem_append.1 ((puts_asc _).2 t ht) with ht | ht
  · unfold byteM at ht
    split at ht
    · cases ht
    · rw [List.mem_singleton.1 ht]
      exact ok_mk.2 ⟨of_ok _, fun t ht => by cases ht⟩
  · exact ok_flat h t (List.mem_filter.1 ht).1
theorem ok_star {t : RT} (h : t.ok) : (starM t).ok := by
  unfold starM
  split
  · exact ok_leaf 1
  · split
    · exact h
    · exact ok_mk.2 ⟨zero_ok, fun x hx => by rw [List.mem_singleton.1 hx]; exact h⟩
theorem ok_deriv (c : Nat) (t : RT) : t.ok → (derivM c t).ok := by
  induction t using RT.ind with
  | h k s kids ih =>
    intro h
    have hk := (ok_mk.1 h).2
    rw [deriv_mk]
    split
    · split
      · exact ok_leaf 1
      · exact ok_leaf 0
    · split
      · refine ok_either (cats_all (Q := RT.ok) (fun l hl => ok_cat hl) _ fun p hp => ?_)
        obtain ⟨x, hx, rfl⟩ := List.mem_map.1 hp
        exact ⟨hk x hx, ih x hx (hk x hx)⟩
      · split
        · refine ok_either fun u hu => ?_
          obtain ⟨x, hx, rfl⟩ := List.mem_map.1 hu
          exact ih x hx (hk x hx)
        · split
          · split
            · rename_i d e
              have hd : d ∈ kids.map (derivM c) := by rw [e]; simp
              obtain ⟨x, hx, rfl⟩ := List.mem_map.1 hd
              refine ok_cat fun u hu => ?_
              rcases List.mem_cons.1 hu with rfl | hu
              · exact ih x hx (hk x hx)
              · rw [List.mem_singleton.1 hu]; exact h
            · exact ok_leaf 0
          · exact ok_leaf 0
theorem catp_empty : ∀ (l : List RT), CatP (l.map Lg) [] ↔ ∀ t ∈ l, Lg t []
  | [] => by simp [CatP]
  | r :: l => by
    have h := catp_empty l
    constructor
    · rintro ⟨u, v, e, hu, hv⟩
      obtain ⟨rfl, rfl⟩ := List.append_eq_nil_iff.1 e.symm
      intro t ht
      rcases List.mem_cons.1 ht with rfl | ht
      · exact hu
      · exact h.1 hv t ht
    · intro ha
      exact ⟨[], [], rfl, ha r (by simp), h.2 fun t ht => ha t (by simp [ht])⟩
theorem starp_empty (P : List Nat → Prop) : StarP P [] := .nil
/-- Nullable: the empty text is derived. -/
theorem null_lg (t : RT) : good t → (nullM t = true ↔ Lg t []) := by
  induction t using RT.ind with
  | h k s kids ih =>
    intro hg
    have hk := (good_mk.1 hg).2.2
    have f2 := (good_mk.1 hg).1.2
    rw [null_mk]
    split
    · rename_i e
      rcases e with rfl | rfl
      · rw [lg_empty]; simp
      · have : kids.length = 1 := by
          rcases f2 with ⟨q | q | q, _⟩ | ⟨_, q, _⟩ | ⟨q, _⟩ | ⟨q, _⟩
          · omega
          · omega
          · omega
          · exact q
          · omega
          · omega
        match kids, this with
        | [x], _ => rw [lg_star]; exact ⟨fun _ => .nil, fun _ => rfl⟩
    · rename_i e1
      split
      · rename_i e
        subst e
        rw [lg_cat, catp_empty, List.all_eq_true]
        exact ⟨fun h t ht => (ih t ht (hk t ht)).1 (h t ht), fun h t ht => (ih t ht (hk t ht)).2 (h t ht)⟩
      · rename_i e3
        split
        · rename_i e
          subst e
          rw [lg_either, List.any_eq_true]
          exact ⟨fun ⟨t, ht, h⟩ => ⟨t, ht, (ih t ht (hk t ht)).1 h⟩, fun ⟨t, ht, h⟩ => ⟨t, ht, (ih t ht (hk t ht)).2 h⟩⟩
        · rename_i e4
          have hk02 : k = 0 ∨ k = 2 := by
            rcases f2 with ⟨q | q | q, _⟩ | ⟨q, _⟩ | ⟨q, _⟩ | ⟨q, _⟩
            · exact .inl q
            · exact absurd (.inl q) e1
            · exact .inr q
            · exact absurd (.inr q) e1
            · exact absurd q e3
            · exact absurd q e4
          rcases hk02 with rfl | rfl
          · exact ⟨fun h => by simp at h, fun h => absurd h (lg_none _ _ _)⟩
          · rw [lg_byte]
            exact ⟨fun h => by simp at h, fun ⟨c, _, h, _⟩ => by cases h⟩
theorem starp_cons {P : List Nat → Prop} {c : Nat} {w : List Nat} : StarP P (c :: w) ↔ ∃ u v, w = u ++ v ∧ P (c :: u) ∧ StarP P v := by
  constructor
  · intro h
    generalize hx : c :: w = x at h
    induction h with
    | nil => cases hx
    | more hp hs ih =>
      rename_i u v
      match u, hp, hx with
      | [], hp, hx => exact ih hx
      | d :: u, hp, hx =>
        simp only [List.cons_append, List.cons.injEq] at hx
        obtain ⟨rfl, rfl⟩ := hx
        exact ⟨u, v, rfl, hp, hs⟩
  · rintro ⟨u, v, rfl, hp, hv⟩
    exact StarP.more (u := c :: u) hp hv
theorem cats_lg (c : Nat) (d : RT → RT) : ∀ (l : List RT), (∀ t ∈ l, (nullM t = true ↔ Lg t []) ∧ ∀ w, Lg (d t) w ↔ Lg t (c :: w)) → ∀ w, (∃ u ∈ catsM (l.map fun x => (x, d x)), Lg u w) ↔ CatP (l.map Lg) (c :: w)
  | [], h, w => by
    constructor
    · rintro ⟨u, hu, _⟩; cases hu
    · intro h; cases h
  | x :: l, h, w => by
    obtain ⟨hn, hd⟩ := h x (by simp)
    have ih := cats_lg c d l (fun t ht => h t (by simp [ht])) w
    have hm : (l.map fun x => (x, d x)).map Prod.fst = l := by rw [List.map_map]; simp [Function.comp_def]
    show (∃ u ∈ catM (d x :: (l.map fun x => (x, d x)).map Prod.fst) :: (if nullM x then catsM (l.map fun x => (x, d x)) else []), Lg u w) ↔ _
    rw [hm]
    have e1 : Lg (catM (d x :: l)) w ↔ ∃ u v, w = u ++ v ∧ Lg x (c :: u) ∧ CatP (l.map Lg) v := by
      rw [lg_catM]
      show (∃ u v, _) ↔ _
      constructor
      · rintro ⟨u, v, e, hu, hv⟩; exact ⟨u, v, e, (hd u).1 hu, hv⟩
      · rintro ⟨u, v, e, hu, hv⟩; exact ⟨u, v, e, (hd u).2 hu, hv⟩
    constructor
    · rintro ⟨u, hu, hw⟩
      rcases List.mem_cons.1 hu with rfl | hu
      · obtain ⟨a, b, rfl, ha, hb⟩ := e1.1 hw
        exact ⟨c :: a, b, rfl, ha, hb⟩
      · split at hu
        · rename_i hx
          exact ⟨[], c :: w, rfl, hn.1 hx, ih.1 ⟨u, hu, hw⟩⟩
        · cases hu
    · rintro ⟨u, v, e, hu, hv⟩
      match u, e with
      | [], e =>
        obtain rfl : c :: w = v := e
        obtain ⟨y, hy, hw⟩ := ih.2 hv
        exact ⟨y, List.mem_cons_of_mem _ (by rw [if_pos (hn.2 hu)]; exact hy), hw⟩
      | b :: u, e =>
        simp only [List.cons_append, List.cons.injEq] at e
        obtain ⟨rfl, rfl⟩ := e
        exact ⟨_, List.mem_cons_self .., e1.2 ⟨u, v, rfl, hu, hv⟩⟩
/-- Deriv: what is left behind a byte. -/
theorem deriv_lg (c : Nat) (hc : c < 256) (t : RT) : good t → t.ok → ∀ w, Lg (derivM c t) w ↔ Lg t (c :: w) := by
  induction t using RT.ind with
  | h k s kids ih =>
    intro hg ho w
    obtain ⟨⟨_, f2⟩, _, hk⟩ := good_mk.1 hg
    have hko := (ok_mk.1 ho).2
    have hd : ∀ t ∈ kids, (nullM t = true ↔ Lg t []) ∧ ∀ w, Lg (derivM c t) w ↔ Lg t (c :: w) := fun t ht => ⟨null_lg t (hk t ht), ih t ht (hk t ht) (hko t ht)⟩
    rw [deriv_mk]
    rcases f2 with ⟨rfl | rfl | rfl, rfl⟩ | ⟨rfl, e, _⟩ | ⟨rfl, _⟩ | ⟨rfl, _⟩
    · rw [if_neg (by decide), if_neg (by decide), if_neg (by decide), if_neg (by decide)]
      exact ⟨fun h => absurd h (lg_none _ _ _), fun h => absurd h (lg_none _ _ _)⟩
    · rw [if_neg (by decide), if_neg (by decide), if_neg (by decide), if_neg (by decide), lg_empty]
      exact ⟨fun h => absurd h (lg_none _ _ _), fun h => by cases h⟩
    · rw [if_pos rfl, lg_byte]
      split
      · rename_i hm
        rw [show emptyM = .mk 1 W4.zero [] from rfl, lg_empty]
        constructor
        · rintro rfl; exact ⟨c, hc, rfl, hm⟩
        · rintro ⟨d, _, e, _⟩; simp at e; exact e.2
      · rename_i hm
        constructor
        · exact fun h => absurd h (lg_none _ _ _)
        · rintro ⟨d, _, e, h⟩
          simp at e
          rw [e.1] at hm
          exact absurd h hm
    · rw [if_neg (by decide), if_neg (by decide), if_neg (by decide), if_pos rfl]
      match kids, e with
      | [x], _ =>
        show Lg (catM [derivM c x, .mk 5 s [x]]) w ↔ _
        rw [lg_catM, lg_star, starp_cons]
        show (∃ u v, _) ↔ _
        constructor
        · rintro ⟨u, v, e, hu, hv⟩
          exact ⟨u, v, e, ((hd x (by simp)).2 u).1 hu, (lg_star s x v).1 ((catp_one _ v).1 hv)⟩
        · rintro ⟨u, v, e, hu, hv⟩
          exact ⟨u, v, e, ((hd x (by simp)).2 u).2 hu, (catp_one _ v).2 ((lg_star s x v).2 hv)⟩
    · rw [if_neg (by decide), if_pos rfl, lg_eitherM, lg_cat, cats_lg c (derivM c) kids hd w]
      refine cats_all (Q := fun t => good t ∧ t.ok) (fun l hl => ⟨good_cat fun t ht => (hl t ht).1, ok_cat fun t ht => (hl t ht).2⟩) _ fun p hp => ?_
      obtain ⟨x, hx, rfl⟩ := List.mem_map.1 hp
      exact ⟨⟨hk x hx, hko x hx⟩, good_deriv c x (hk x hx), ok_deriv c x (hko x hx)⟩
    · rw [if_neg (by decide), if_neg (by decide), if_pos rfl, lg_eitherM, lg_either]
      · constructor
        · rintro ⟨u, hu, h⟩
          obtain ⟨x, hx, rfl⟩ := List.mem_map.1 hu
          exact ⟨x, hx, ((hd x hx).2 w).1 h⟩
        · rintro ⟨x, hx, h⟩
          exact ⟨_, List.mem_map_of_mem hx, ((hd x hx).2 w).2 h⟩
      · intro u hu
        obtain ⟨x, hx, rfl⟩ := List.mem_map.1 hu
        exact ⟨good_deriv c x (hk x hx), ok_deriv c x (hko x hx)⟩
/-- Match: byte behind byte. -/
theorem ders_lg : ∀ (l : List Nat) (t : RT), (∀ c ∈ l, c < 256) → good t → t.ok → (nullM (dersM t l) = true ↔ Lg t l)
  | [], t, _, hg, _ => null_lg t hg
  | c :: l, t, hb, hg, ho => by
    have h := ders_lg l (derivM c t) (fun d hd => hb d (by simp [hd])) (good_deriv c t hg) (ok_deriv c t ho)
    rw [deriv_lg c (hb c (by simp)) t hg ho] at h
    exact h

end Go.Proofs.YtfgaadhacifhiaaGreatDoor

/-! What two derive in a Cat and in an Either, by their own answers. Condition: both are good. -/
namespace Go.Proofs.YtfgaadhacifhiaaGreatDoor
open Go.RowKit Go.Lib
set_option linter.unusedVariables false
set_option linter.unusedSimpArgs false

theorem byteL_lt (s : ByteArray) : ∀ c ∈ byteL s, c < 256 := fun c hc => by
  unfold byteL at hc
  obtain ⟨b, _, rfl⟩ := List.mem_map.1 hc
  exact UInt8.toNat_lt b
theorem byteL_size (s : ByteArray) : (byteL s).length = s.size := by unfold byteL; rw [List.length_map]; rfl
theorem byteL_head (s : ByteArray) (i : Nat) (hi : i ≤ s.size) : byteL (s.extract 0 i) = (byteL s).take i := by
  unfold byteL
  rw [ByteArray.data_extract, Array.toList_extract, List.map_take]
  simp [List.extract]
theorem byteL_rest (s : ByteArray) (i : Nat) (hi : i ≤ s.size) : byteL (s.extract i s.size) = (byteL s).drop i := by
  unfold byteL
  rw [ByteArray.data_extract, Array.toList_extract]
  have h : s.size = s.data.toList.length := rfl
  have e : s.data.toList.extract i s.size = s.data.toList.drop i := by
    show (s.data.toList.drop i).take (s.size - i) = _
    exact List.take_of_length_le (by rw [List.length_drop, h]; exact Nat.le_refl _)
  rw [e, List.map_drop]
/-- Whether the text falls apart ahead of place i. -/
noncomputable def splB (a b : RT) (l : List Nat) (i : Nat) : Bool := (List.range i).any fun j => nullM (dersM a (l.take j)) && nullM (dersM b (l.drop j))
theorem splB_succ (a b : RT) (l : List Nat) (i : Nat) : splB a b l (i + 1) = (splB a b l i || (nullM (dersM a (l.take i)) && nullM (dersM b (l.drop i)))) := by
  unfold splB
  rw [List.range_succ, List.any_append]
  simp
theorem joins_cat {a b : RT} (ga : good a) (oa : a.ok) (gb : good b) (ob : b.ok) (l : List Nat) (hl : ∀ c ∈ l, c < 256) : nullM (dersM (catM [a, b]) l) = splB a b l (l.length + 1) := by
  have hg : good (catM [a, b]) := good_cat fun t ht => by simp at ht; rcases ht with rfl | rfl <;> assumption
  have ho : (catM [a, b]).ok := ok_cat fun t ht => by simp at ht; rcases ht with rfl | rfl <;> assumption
  rw [Bool.eq_iff_iff, ders_lg l _ hl hg ho, lg_catM]
  unfold splB
  rw [List.any_eq_true]
  show (∃ u v, _) ↔ _
  constructor
  · rintro ⟨u, v, rfl, hu, hv⟩
    have hv := (catp_one _ v).1 hv
    refine ⟨u.length, by simp; omega, ?_⟩
    rw [Bool.and_eq_true, List.take_left, List.drop_left]
    exact ⟨(ders_lg u a (fun c hc => hl c (by simp [hc])) ga oa).2 hu, (ders_lg v b (fun c hc => hl c (by simp [hc])) gb ob).2 hv⟩
  · rintro ⟨j, _, h⟩
    rw [Bool.and_eq_true] at h
    exact ⟨l.take j, l.drop j, (List.take_append_drop j l).symm, (ders_lg _ a (fun c hc => hl c (List.mem_of_mem_take hc)) ga oa).1 h.1, (catp_one _ _).2 ((ders_lg _ b (fun c hc => hl c (List.mem_of_mem_drop hc)) gb ob).1 h.2)⟩
theorem joins_either {a b : RT} (ga : good a) (oa : a.ok) (gb : good b) (ob : b.ok) (l : List Nat) (hl : ∀ c ∈ l, c < 256) : nullM (dersM (eitherM [a, b]) l) = (nullM (dersM a l) || nullM (dersM b l)) := by
  have hg : good (eitherM [a, b]) := good_either fun t ht => by simp at ht; rcases ht with rfl | rfl <;> assumption
  have ho : (eitherM [a, b]).ok := ok_either fun t ht => by simp at ht; rcases ht with rfl | rfl <;> assumption
  rw [Bool.eq_iff_iff, ders_lg l _ hl hg ho, lg_eitherM (fun t ht => by simp at ht; rcases ht with rfl | rfl <;> exact ⟨by assumption, by assumption⟩), Bool.or_eq_true, ders_lg l a hl ga oa, ders_lg l b hl gb ob]
  simp

end Go.Proofs.YtfgaadhacifhiaaGreatDoor
