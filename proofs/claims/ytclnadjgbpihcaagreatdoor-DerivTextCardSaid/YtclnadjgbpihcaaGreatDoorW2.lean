/- Joined texts; each begins with what it says. -/
import Derived.Test.YtclnadjgbpihcaaGreatDoorW1
import Derived.Deep.AppendLies
import Derived.Deep.RegionLaw
import Derived.Deep.CutBlock
import Derived.Deep.CutRange
/-! The parts that are open, as they lie in memory; what a part more, and an answer, make of them. No condition. -/
namespace Go.Proofs.YtclnadjgbpihcaaGreatDoor
open Go.RowKit Go.Lib
set_option linter.unusedVariables false
set_option linter.unusedSimpArgs false

/-- What the calls want, of one and of what is needed of it. -/
inductive FitA (c : Nat) : RT → Prop
  | mk {t : RT} : FitD c t → (∀ k ∈ need t, FitA c k) → FitA c t
theorem FitA.here {c : Nat} {t : RT} (h : FitA c t) : FitD c t := by cases h with | mk h _ => exact h
theorem FitA.kid {c : Nat} {t k : RT} (h : FitA c t) (hk : k ∈ need t) : FitA c k := by cases h with | mk _ h => exact h k hk
theorem more_kid {t : RT} {i : Nat} (hi : ∀ j, j < i → moreD t j = true) (hm : moreD t i = true) : ∃ k, t.kids[i]? = some k ∧ k ∈ need t := by
  have hlt : i < t.kids.length := by
    unfold moreD at hm
    split at hm
    · simpa using hm
    · split at hm
      · simp at hm; omega
      · split at hm
        · simp at hm; omega
        · cases hm
  refine ⟨t.kids[i], List.getElem?_eq_getElem hlt, ?_⟩
  have hd : ∃ n, i < n ∧ (∀ j, j < n → moreD t j = true) ∧ moreD t n = false := by
    have hend : moreD t t.kids.length = false := by
      unfold moreD
      split
      · simp
      · split
        · by_cases h : t.kids.length = 0
          · simp [h]
          · simp [h]
        · split
          · simp
          · rfl
    have step : ∀ d i, i + d = t.kids.length → (∀ j, j < i → moreD t j = true) → ∃ n, i ≤ n ∧ (∀ j, j < n → moreD t j = true) ∧ moreD t n = false := by
      intro d
      induction d with
      | zero => intro i hi h; exact ⟨i, Nat.le_refl _, h, by rw [show i = t.kids.length by omega]; exact hend⟩
      | succ d ih =>
        intro i hi h
        by_cases hm : moreD t i = true
        · obtain ⟨n, h1, h2, h3⟩ := ih (i + 1) (by omega) fun j hj => by
            by_cases e : j = i
            · rw [e]; exact hm
            · exact h j (by omega)
          exact ⟨n, by omega, h2, h3⟩
        · exact ⟨i, Nat.le_refl _, h, by simpa using hm⟩
    obtain ⟨n, h1, h2, h3⟩ := step (t.kids.length - (i + 1)) (i + 1) (by omega) fun j hj => by
      by_cases e : j = i
      · rw [e]; exact hm
      · exact hi j (by omega)
    exact ⟨n, by omega, h2, h3⟩
  obtain ⟨n, h1, h2, h3⟩ := hd
  rw [← (take_need t n h2 h3).1]
  refine List.mem_iff_getElem?.2 ⟨i, ?_⟩
  rw [List.getElem?_take, if_pos h1]
  exact List.getElem?_eq_getElem hlt

/-- A part: where its expression lies, its mark, how deep, the expression, how many kids are settled, and where their facts lie. -/
structure PA where
  b : Nat
  o : Nat
  m : Option Addr
  d : Nat
  x : ReV
  t : RT
  i : Nat
  q : Option Addr
  kc : Nat
def PA.kv (e : PA) : Value := .slice e.q e.i e.kc
def PA.cells (e : PA) : List Value := [.pointer (some ⟨e.b, e.o, none⟩), .pointer e.m, .int .i64 e.d, .slice e.q e.i e.kc]
structure PA.Ok (w : World) (P : Nat → Prop) (c D : Nat) (e : PA) : Prop where
  place : PlaceR w e.b e.o e.x
  tree : RAt w P e.x e.t
  mark : MarkR w e.m e.t.sz
  dep : e.d + e.t.sz ≤ D
  fit : FitA c e.t
  more : ∀ j, j < e.i → moreD e.t j = true
theorem more_le {t : RT} {i : Nat} (hi : ∀ j, j < i → moreD t j = true) : i ≤ t.kids.length := by
  cases i with
  | zero => omega
  | succ i =>
    obtain ⟨k, hk, _⟩ := more_kid (fun j hj => hi j (by omega)) (hi i (by omega))
    have := (List.getElem?_eq_some_iff.1 hk).1
    omega
theorem flat4_len (l : List PA) : (l.flatMap PA.cells).length = l.length * 4 := by
  induction l with
  | nil => rfl
  | cons x l ih => simp [PA.cells] at ih ⊢; omega
/-- The facts of a part's settled kids, in a row of their own. -/
structure KF (w W : World) (Q : Nat → Prop) (kv : Value) (us : List FV) (l : List (RT × Bool)) : Prop where
  own : W.ownsRow w.heap.size 58 7 kv l.length (us.flatMap FV.cells)
  len : us.length = l.length
  each : ∀ (i : Nat) (y : FV) (r : RT × Bool), us[i]? = some y → l[i]? = some r → RAt W Q y.re r.1 ∧ y.nul = r.2
/-- Blocks that no row of the stack is in. -/
def PS (w : World) (P : Nat → Prop) (go : Nat) (S : List PA) (g : Nat) : Prop := (P g ∨ w.heap.size ≤ g) ∧ g ≠ go ∧ ∀ e ∈ S, e.kv.ownBlock ≠ some g
/-- Each part is a kid of the next; the last is the whole. -/
def Link (t0 : RT) : List PA → Prop
  | [] => False
  | [e] => e.t = t0 ∧ e.d = 1
  | e :: f :: S => e.d = f.d + 1 ∧ f.t.kids[f.i]? = some e.t ∧ moreD f.t f.i = true ∧ Link t0 (f :: S)
theorem Link.len {t0 : RT} : ∀ {S : List PA} {e : PA}, Link t0 (e :: S) → e.d = S.length + 1
  | [], e, h => h.2
  | f :: S, e, h => by rw [h.1, Link.len h.2.2.2]; rfl
structure InvD (w : World) (P : Nat → Prop) (c D : Nat) (t0 : RT) (W : World) (go cap : Nat) (S : List PA) : Prop where
  below : Below w.heap.size w W
  row : W.ownsRow w.heap.size 80 4 (.slice (some ⟨go, 0, none⟩) S.length cap) S.length (S.reverse.flatMap PA.cells)
  ok : ∀ e ∈ S, PA.Ok w P c D e
  facts : ∀ e ∈ S, ∃ us, KF w W (PS w P go S) e.kv us ((e.t.kids.take e.i).map (factOf c))
  far : ∀ e ∈ S, e.kv.ownBlock ≠ some go
  apart : S.Pairwise fun e f => ∀ g, e.kv.ownBlock = some g → f.kv.ownBlock ≠ some g
  link : Link t0 S
theorem KF.at {w W : World} {Q : Nat → Prop} {kv : Value} {us : List FV} {l : List (RT × Bool)} (h : KF w W Q kv us l) {W' : World} {Q' : Nat → Prop} (hk : Keeps W W' Q Q') (ho : ∀ g, kv.ownBlock = some g → W'.heap[g]? = W.heap[g]?) : KF w W' Q' kv us l := by
  refine ⟨?_, h.len, fun i y r hy hr => ⟨(h.each i y r hy hr).1.kept hk, (h.each i y r hy hr).2⟩⟩
  rcases row_forms h.own with ⟨rfl, h0⟩ | ⟨g, cp, rfl⟩
  · exact ⟨h.own.1, .inl ⟨rfl, h0⟩⟩
  · exact own_at h.own (ho g rfl)
theorem KF.lt {w W : World} {Q : Nat → Prop} {kv : Value} {us : List FV} {l : List (RT × Bool)} (h : KF w W Q kv us l) : ∀ g, kv.ownBlock = some g → w.heap.size ≤ g ∧ g < W.heap.size := fun g hg => by
  rcases row_forms h.own with ⟨rfl, h0⟩ | ⟨g', cp, rfl⟩
  · simp [Value.ownBlock] at hg
  · have := row_base h.own
    have e : g' = g := by simpa [Value.ownBlock] using hg
    subst e
    exact ⟨this.1, this.2.2.2⟩
theorem KF.rowf {w W : World} {Q : Nat → Prop} {q : Option Addr} {n kc : Nat} {us : List FV} {l : List (RT × Bool)} (h : KF w W Q (.slice q n kc) us l) (hn : n = l.length) : FactsR W Q q n kc us l := by
  refine ⟨⟨?_, by rw [h.len]; exact hn⟩, hn, h.each⟩
  have ho := h.own
  rw [← hn] at ho
  rcases row_forms ho with ⟨e, h0⟩ | ⟨g, cp, e⟩
  · obtain ⟨rfl, _, rfl⟩ : q = none ∧ n = 0 ∧ kc = 0 := by simpa using e
    exact .inl ⟨h0, fun _ => rfl⟩
  · obtain ⟨rfl, rfl⟩ : q = some ⟨g, 0, none⟩ ∧ kc = cp := by simpa using e
    obtain ⟨r1, r2, r3, r4⟩ := row_base ho
    rcases ho.2 with ⟨h2, _⟩ | ⟨g', cap', cur, hv, hb, hh, hc, hm, hsz, ht⟩
    · cases h2
    · obtain rfl : g = g' := by simp at hv; omega
      exact .inr ⟨g, 0, rfl, r2, r3, trivial, ⟨cur, _, by decide, hh⟩, fun j u hj => by rw [Nat.zero_add]; exact row_cell ho hj⟩
theorem InvD.under {w W W' : World} {P : Nat → Prop} {c D go cap : Nat} {t0 : RT} {S : List PA} (h : InvD w P c D t0 W go cap S) (hb : Below W.heap.size W W') : InvD w P c D t0 W' go cap S :=
  ⟨h.below.trans (hb.mono h.below.size), own_at h.row (hb.block go (row_base h.row).2.2.2), h.ok, fun e he => by
    obtain ⟨us, hk⟩ := h.facts e he
    exact ⟨us, hk.at (Keeps.below hb) fun g hg => hb.block g (hk.lt g hg).2⟩, h.far, h.apart, h.link⟩
theorem InvD.blocks {w W : World} {P : Nat → Prop} {c D go cap : Nat} {t0 : RT} {S : List PA} (h : InvD w P c D t0 W go cap S) : (w.heap.size ≤ go ∧ go < W.heap.size) ∧ ∀ u ∈ S, ∀ g, u.kv.ownBlock = some g → w.heap.size ≤ g ∧ g < W.heap.size :=
  ⟨⟨(row_base h.row).1, (row_base h.row).2.2.2⟩, fun u hu g hg => by
    obtain ⟨us, hk⟩ := h.facts u hu
    exact hk.lt g hg⟩
/-- A part more: the stack's row is grown, in its block or a new one. -/
theorem InvD.push {w W W' : World} {P : Nat → Prop} {c D go cap : Nat} {t0 : RT} {S : List PA} {e : PA} (h : InvD w P c D t0 W go cap (e :: S)) {f : PA} {gb cap' : Nat} (hf : PA.Ok w P c D f) (hi : f.i = 0) (hq : f.q = none) (hc : f.kc = 0)
    (hd : f.d = e.d + 1) (hk : e.t.kids[e.i]? = some f.t) (hm : moreD e.t e.i = true) (hrow : W'.ownsRow w.heap.size 80 4 (.slice (some ⟨gb, 0, none⟩) (S.length + 1 + 1) cap') (S.length + 1 + 1) ((e :: S).reverse.flatMap PA.cells ++ f.cells))
    (hg : W.grownBy W' (some go)) (hat : gb = go ∨ W.heap.size ≤ gb) : InvD w P c D t0 W' gb cap' (f :: e :: S) := by
  have hkv : f.kv.ownBlock = none := by unfold PA.kv; rw [hq]; rfl
  have hgo := (row_base h.row).2.2.2
  have hgw := (row_base h.row).1
  have hkeep : Keeps W W' (PS w P go (e :: S)) (PS w P gb (f :: e :: S)) := Keeps.of hg.size fun b hb hl => by
    obtain ⟨h1, h2, h3⟩ := hb
    refine ⟨hg.block b hl fun q => h2 (by simpa using q), h1, by rcases hat with q | q <;> omega, fun u hu => ?_⟩
    rcases List.mem_cons.1 hu with rfl | hu
    · rw [hkv]; simp
    · exact h3 u hu
  refine ⟨h.below.grown hg h.below.size fun b hb => by simp at hb; omega, ?_, ?_, ?_, ?_, ?_, ⟨hd, hk, hm, h.link⟩⟩
  · rw [List.reverse_cons, List.flatMap_append]
    simpa using hrow
  · intro u hu
    rcases List.mem_cons.1 hu with rfl | hu
    · exact hf
    · exact h.ok u hu
  · intro u hu
    rcases List.mem_cons.1 hu with rfl | hu
    · refine ⟨[], ?_⟩
      rw [hi]
      refine ⟨?_, rfl, fun i y r hy => by simp at hy⟩
      unfold PA.kv
      rw [hq, hi, hc]
      exact World.ownsRow_nil _ _ _ _
    · obtain ⟨us, hkf⟩ := h.facts u hu
      exact ⟨us, hkf.at hkeep fun g hg' => hg.block g (hkf.lt g hg').2 fun q => h.far u hu (by rw [hg', q])⟩
  · intro u hu
    rcases List.mem_cons.1 hu with rfl | hu
    · rw [hkv]; simp
    · intro q
      rcases hat with e1 | e1
      · exact h.far u hu (by rw [q, e1])
      · obtain ⟨us, hkf⟩ := h.facts u hu
        have := (hkf.lt gb q).2
        omega
  · refine List.pairwise_cons.2 ⟨fun u hu g hg' => ?_, h.apart⟩
    rw [hkv] at hg'
    cases hg'

/-! ### the measure -/
def remT (e : PA) : Nat := e.t.sz - ((e.t.kids.take e.i).map RT.sz).sum
def remN (e : PA) : Nat := e.t.sz - ((e.t.kids.take (e.i + 1)).map RT.sz).sum
theorem take_sum (l : List RT) (i : Nat) : ((l.take i).map RT.sz).sum ≤ (l.map RT.sz).sum := by
  induction l generalizing i with
  | nil => simp
  | cons a l ih =>
    cases i with
    | zero => simp
    | succ i => have := ih i; simp only [List.take_succ_cons, List.map_cons, List.sum_cons]; omega
theorem kids_sum (t : RT) : (t.kids.map RT.sz).sum < t.sz := by
  obtain ⟨k, s, kids⟩ := t
  rw [sz_mk]
  show (kids.map RT.sz).sum < _
  omega
theorem rem_pos (e : PA) : 1 ≤ remT e ∧ 1 ≤ remN e := by
  have h1 := take_sum e.t.kids e.i
  have h2 := take_sum e.t.kids (e.i + 1)
  have h3 := kids_sum e.t
  unfold remT remN
  omega
def mu : List PA → Nat
  | [] => 0
  | e :: S => 2 * remT e + (S.map fun f => 2 * remN f - 1).sum
theorem mu_push {e f : PA} {S : List PA} (hk : e.t.kids[e.i]? = some f.t) (hi : f.i = 0) : mu (f :: e :: S) + 1 = mu (e :: S) := by
  have h1 : ((e.t.kids.take (e.i + 1)).map RT.sz).sum = ((e.t.kids.take e.i).map RT.sz).sum + f.t.sz := by
    rw [List.take_add_one, hk, List.map_append, List.sum_append]
    simp
  have h2 : remT f = f.t.sz := by unfold remT; rw [hi]; simp
  have h3 := take_sum e.t.kids (e.i + 1)
  have h4 := kids_sum e.t
  simp only [mu, List.map_cons, List.sum_cons]
  rw [h2]
  unfold remT remN
  rw [h1]
  omega
theorem mu_pop {e f f' : PA} {S : List PA} (ht : f'.t = f.t) (hi : f'.i = f.i + 1) : mu (f' :: S) < mu (e :: f :: S) := by
  have h1 : remT f' = remN f := by unfold remT remN; rw [ht, hi]
  have h2 := rem_pos e
  have h3 := rem_pos f
  simp only [mu, List.map_cons, List.sum_cons]
  rw [h1]
  omega

end Go.Proofs.YtclnadjgbpihcaaGreatDoor

/-! A part that is settled goes, and its answer is put behind those of the part around it. No condition. -/
namespace Go.Proofs.YtclnadjgbpihcaaGreatDoor
open Go.RowKit Go.Lib
set_option linter.unusedVariables false
set_option linter.unusedSimpArgs false

def PA.told (f : PA) (gb kc : Nat) : PA := ⟨f.b, f.o, f.m, f.d, f.x, f.t, f.i + 1, some ⟨gb, 0, none⟩, kc⟩
theorem set_end4 {l : List Value} {n : Nat} (hl : l.length = n * 4) (a b c d v : Value) : (l ++ [a, b, c, d]).set (n * 4 + 3) v = l ++ [a, b, c, v] := by
  rw [List.set_append_right _ _ (by omega), hl, show n * 4 + 3 - n * 4 = 3 by omega]
  rfl
theorem InvD.pop {w W W1 : World} {P : Nat → Prop} {c D go cap : Nat} {t0 : RT} {S : List PA} {e f : PA} (h : InvD w P c D t0 W go cap (e :: f :: S)) {us : List FV} (hus : KF w W (PS w P go (e :: f :: S)) f.kv us ((f.t.kids.take f.i).map (factOf c))) {y : FV} (hy : RAt W (PS w P go (e :: f :: S)) y.re (derivM c e.t)) (hn : y.nul = nullM e.t)
    {gb kc' : Nat} (hg : W.grownBy W1 f.kv.ownBlock) (hrow : W1.ownsRow w.heap.size 58 7 (.slice (some ⟨gb, 0, none⟩) (f.i + 1) kc') (f.i + 1) (us.flatMap FV.cells ++ y.cells)) (hat : f.kv.ownBlock = some gb ∨ W.heap.size ≤ gb) :
    InvD w P c D t0 (W1.setCell ⟨go, S.length * 4 + 3, none⟩ (.slice (some ⟨gb, 0, none⟩) (f.i + 1) kc')) go cap (f.told gb kc' :: S) := by
  obtain ⟨hlink1, hlink2, hlink3, hlink4⟩ := h.link
  have hgo := (row_base h.row).2.2.2
  have hgw := (row_base h.row).1
  have hfok := h.ok f (by simp)
  have hfi : f.i ≤ f.t.kids.length := more_le hfok.more
  have hap := List.pairwise_cons.1 (List.pairwise_cons.1 h.apart).2
  have hgbgo : gb ≠ go := fun q => by
    rcases hat with h1 | h1
    · exact h.far f (by simp) (by rw [h1, q])
    · omega
  have hap2 : ∀ u ∈ S, u.kv.ownBlock ≠ some gb := fun u hu q => by
    rcases hat with h1 | h1
    · exact hap.1 u hu gb h1 q
    · obtain ⟨us, hkf⟩ := h.facts u (by simp [hu])
      have := (hkf.lt gb q).2
      omega
  have hkeep : Keeps W (W1.setCell ⟨go, S.length * 4 + 3, none⟩ (.slice (some ⟨gb, 0, none⟩) (f.i + 1) kc')) (PS w P go (e :: f :: S)) (PS w P go (f.told gb kc' :: S)) := Keeps.of (by simp [World.setCell]; exact hg.size) fun b hb hl => by
    obtain ⟨h1, h2, h3⟩ := hb
    refine ⟨(heap_set_ne _ _ _ h2).trans (hg.block b hl fun q => h3 f (by simp) q.symm), h1, h2, fun u hu => ?_⟩
    rcases List.mem_cons.1 hu with rfl | hu
    · intro q
      have q : gb = b := by simpa [PA.kv, PA.told, Value.ownBlock] using q
      rcases hat with h4 | h4
      · exact h3 f (by simp) (by rw [h4, q])
      · omega
    · exact h3 u (by simp [hu])
  have hbel : Below w.heap.size w W1 := h.below.grown hg h.below.size fun b hb => by
    obtain ⟨us', hkf⟩ := h.facts f (by simp)
    exact (hkf.lt b hb).1
  refine ⟨hbel.setCell hgw _, ?_, ?_, ?_, ?_, ?_, ?_⟩
  · have hl4 : ((f :: S).reverse.flatMap PA.cells).length = (f :: S).length * 4 := by rw [flat4_len]; simp
    have hr := h.row
    rw [List.reverse_cons, List.flatMap_append] at hr
    have hp := ownsRow_pop hl4 hr
    have hp1 : W1.ownsRow w.heap.size 80 4 (.slice (some ⟨go, 0, none⟩) (f :: S).length cap) (f :: S).length ((f :: S).reverse.flatMap PA.cells) := own_at hp (hg.block go hgo fun q => h.far f (by simp) q.symm)
    have hp2 := own_set5r hp1 (S.length * 4 + 3) (.slice (some ⟨gb, 0, none⟩) (f.i + 1) kc')
    have hlS : (S.reverse.flatMap PA.cells).length = S.length * 4 := by rw [flat4_len]; simp
    have e1 : ((f :: S).reverse.flatMap PA.cells).set (S.length * 4 + 3) (.slice (some ⟨gb, 0, none⟩) (f.i + 1) kc') = (f.told gb kc' :: S).reverse.flatMap PA.cells := by
      rw [List.reverse_cons, List.reverse_cons, List.flatMap_append, List.flatMap_append]
      have e2 : [f].flatMap PA.cells = [.pointer (some ⟨f.b, f.o, none⟩), .pointer f.m, .int .i64 f.d, .slice f.q f.i f.kc] := rfl
      have e3 : [f.told gb kc'].flatMap PA.cells = [.pointer (some ⟨f.b, f.o, none⟩), .pointer f.m, .int .i64 f.d, .slice (some ⟨gb, 0, none⟩) (f.i + 1) kc'] := rfl
      rw [e2, e3, set_end4 hlS]
    rw [e1] at hp2
    exact hp2
  · intro u hu
    rcases List.mem_cons.1 hu with rfl | hu
    · refine ⟨hfok.place, hfok.tree, hfok.mark, hfok.dep, hfok.fit, fun j hj => ?_⟩
      have hj : j < f.i + 1 := hj
      by_cases q : j = f.i
      · rw [q]; exact hlink3
      · exact hfok.more j (by omega)
    · exact h.ok u (by simp [hu])
  · intro u hu
    rcases List.mem_cons.1 hu with rfl | hu
    · refine ⟨us ++ [y], ?_⟩
      have e1 : (f.t.kids.take (f.i + 1)).map (factOf c) = (f.t.kids.take f.i).map (factOf c) ++ [factOf c e.t] := by rw [List.take_add_one, hlink2, List.map_append]; rfl
      have hlen : ((f.t.kids.take f.i).map (factOf c)).length = f.i := by rw [List.length_map, List.length_take]; omega
      show KF w _ _ _ _ ((f.t.kids.take (f.i + 1)).map (factOf c))
      rw [e1]
      refine ⟨?_, by rw [List.length_append, List.length_append, hus.len]; rfl, fun i z r hz hr => ?_⟩
      · rw [List.length_append, hlen, List.flatMap_append]
        have := hrow
        simp only [List.flatMap_cons, List.flatMap_nil, List.append_nil]
        exact own_at this (heap_set_ne _ _ _ hgbgo)
      · by_cases hi : i < us.length
        · rw [List.getElem?_append_left hi] at hz
          rw [List.getElem?_append_left (by rw [← hus.len]; exact hi)] at hr
          have := hus.each i z r hz hr
          exact ⟨this.1.kept hkeep, this.2⟩
        · rw [List.getElem?_append_right (by omega)] at hz
          rw [List.getElem?_append_right (by rw [← hus.len]; omega), ← hus.len] at hr
          cases hi2 : i - us.length with
          | zero =>
            rw [hi2] at hz hr
            simp at hz hr
            subst hz hr
            exact ⟨hy.kept hkeep, hn⟩
          | succ k => rw [hi2] at hz; simp at hz
    · obtain ⟨us', hkf⟩ := h.facts u (by simp [hu])
      refine ⟨us', hkf.at hkeep fun g hg' => ?_⟩
      have h1 := hkf.lt g hg'
      refine (heap_set_ne _ _ _ fun q => h.far u (by simp [hu]) (by rw [hg', q])).trans (hg.block g h1.2 fun q => hap.1 u hu g q.symm hg')
  · intro u hu
    rcases List.mem_cons.1 hu with rfl | hu
    · intro q
      exact hgbgo (by simpa [PA.kv, PA.told, Value.ownBlock] using q)
    · exact h.far u (by simp [hu])
  · refine List.pairwise_cons.2 ⟨fun u hu g hg' => ?_, hap.2⟩
    have : gb = g := by simpa [PA.kv, PA.told, Value.ownBlock] using hg'
    rw [← this]
    exact hap2 u hu
  · cases S with
    | nil => exact hlink4
    | cons g S => exact hlink4

end Go.Proofs.YtclnadjgbpihcaaGreatDoor

/-! Whether one derives the empty text: which kids are asked, and what they say. No condition but size. -/
namespace Go.Proofs.YtclnadjgbpihcaaGreatDoor
open Go.RowKit Go.Lib
set_option linter.unusedVariables false
set_option linter.unusedSimpArgs false

def moreN (t : RT) (i : Nat) : Bool := if t.kind = 3 then decide (i < t.kids.length) && (decide (i = 0) || nullM (t.kids.getD (i - 1) noneM)) else if t.kind = 4 then decide (i < t.kids.length) && (decide (i = 0) || !nullM (t.kids.getD (i - 1) noneM)) else false
theorem moreN_lt {t : RT} {i : Nat} (h : moreN t i = true) : i < t.kids.length := by
  unfold moreN at h
  split at h
  · simp at h; omega
  · split at h
    · simp at h; omega
    · cases h
theorem moreN_le {t : RT} {i : Nat} (hi : ∀ j, j < i → moreN t j = true) : i ≤ t.kids.length := by
  cases i with
  | zero => omega
  | succ i => have := moreN_lt (hi i (by omega)); omega
/-- Asked so far, and no more wanted: what they say is what all say. -/
theorem stop_at (p : RT → Bool) (l : List RT) (i : Nat) (hi : ∀ j, j < i → j < l.length ∧ (j = 0 ∨ p (l.getD (j - 1) noneM) = true)) (hn : ¬ (i < l.length ∧ (i = 0 ∨ p (l.getD (i - 1) noneM) = true))) : (l.take i).all p = l.all p := by
  induction l generalizing i with
  | nil => simp
  | cons k l ih =>
    cases i with
    | zero => exact absurd ⟨by simp, .inl rfl⟩ hn
    | succ i =>
      rw [List.take_succ_cons, List.all_cons, List.all_cons]
      by_cases h : p k = true
      · rw [ih i (fun j hj => ?_) (fun q => ?_)]
        · have := hi (j + 1) (by omega)
          refine ⟨by have := this.1; simp at this; omega, ?_⟩
          rcases this.2 with h1 | h1
          · omega
          · by_cases hj0 : j = 0
            · exact .inl hj0
            · right
              obtain ⟨j', rfl⟩ : ∃ j', j = j' + 1 := ⟨j - 1, by omega⟩
              simpa using h1
        · refine hn ⟨by have := q.1; simp; omega, .inr ?_⟩
          rcases q.2 with h1 | h1
          · subst h1
            simpa using h
          · by_cases hi0 : i = 0
            · subst hi0
              simpa using h
            · obtain ⟨i', rfl⟩ : ∃ i', i = i' + 1 := ⟨i - 1, by omega⟩
              simpa using h1
      · simp [h]
theorem moreN_three {t : RT} (h : t.kind = 3) (i : Nat) : moreN t i = true ↔ i < t.kids.length ∧ (i = 0 ∨ nullM (t.kids.getD (i - 1) noneM) = true) := by
  unfold moreN
  rw [if_pos h]
  simp
theorem moreN_four {t : RT} (h : t.kind = 4) (i : Nat) : moreN t i = true ↔ i < t.kids.length ∧ (i = 0 ∨ (!nullM (t.kids.getD (i - 1) noneM)) = true) := by
  unfold moreN
  rw [if_neg (by omega), if_pos h]
  simp
theorem null_stop (t : RT) (i : Nat) (hi : ∀ j, j < i → moreN t j = true) (hn : moreN t i = false) :
    nullM t = if t.kind = 1 ∨ t.kind = 5 then true else if t.kind = 3 then !(((t.kids.take i).map nullM).contains false) else if t.kind = 4 then ((t.kids.take i).map nullM).contains true else false := by
  have hc1 : ∀ l : List RT, ((l.map nullM).contains true) = l.any nullM := by
    intro l
    induction l with
    | nil => rfl
    | cons a l ih => rw [List.map_cons, List.contains_cons, ih, List.any_cons]; cases nullM a <;> rfl
  have hc2 : ∀ l : List RT, (!(l.map nullM).contains false) = l.all nullM := by
    intro l
    induction l with
    | nil => rfl
    | cons a l ih => rw [List.map_cons, List.contains_cons, List.all_cons, ← ih]; cases nullM a <;> simp
  rw [hc1, hc2]
  obtain ⟨k, s, kids⟩ := t
  rw [null_mk]
  show _ = if k = 1 ∨ k = 5 then true else if k = 3 then (kids.take i).all nullM else if k = 4 then (kids.take i).any nullM else false
  by_cases h1 : k = 1 ∨ k = 5
  · rw [if_pos h1, if_pos h1]
  rw [if_neg h1, if_neg h1]
  by_cases h3 : k = 3
  · subst h3
    rw [if_pos rfl, if_pos rfl]
    exact (stop_at nullM kids i (fun j hj => (moreN_three (t := .mk 3 s kids) rfl j).1 (hi j hj)) fun q => by rw [(moreN_three (t := .mk 3 s kids) rfl i).2 q] at hn; cases hn).symm
  rw [if_neg h3, if_neg h3]
  by_cases h4 : k = 4
  · subst h4
    rw [if_pos rfl, if_pos rfl]
    have := stop_at (fun t => !nullM t) kids i (fun j hj => (moreN_four (t := .mk 4 s kids) rfl j).1 (hi j hj)) fun q => by rw [(moreN_four (t := .mk 4 s kids) rfl i).2 q] at hn; cases hn
    have e : ∀ l : List RT, l.any nullM = !(l.all fun t => !nullM t) := fun l => by
      induction l with
      | nil => rfl
      | cons a l ih => rw [List.any_cons, List.all_cons, ih]; cases nullM a <;> simp
    rw [e, e, this]
  rw [if_neg h4, if_neg h4]

set_option maxRecDepth 100000 in
set_option maxHeartbeats 4000000 in
theorem isopen_any {P PF : Nat → Prop} (W : World) (b o : Nat) (x : ReV) (t : RT) (hp : PlaceR W b o x) (ht : RAt W P x t) {p : Option Addr} {i cap : Nat} {bs : List Bool} (h : RowB W PF p i cap bs) (hb : i ≤ 9000000000)
    (hl : 0 < i → bs[i - 1]? = some (nullM (t.kids.getD (i - 1) noneM))) :
    Calls Tryz.prog 34 #[.pointer (some ⟨b, o, none⟩), .slice p i cap] W fun e w' => e = .returned (.bool (moreN t i)) ∧ W = w' := by
  obtain ⟨R, hR⟩ : ∃ R, R = moreN t i := ⟨_, rfl⟩
  rw [← hR]
  obtain ⟨vs0, et, _, hk⟩ := ht.kids
  have hkd : t.kind = x.kind := by rw [et]; rfl
  have hnn : x.n = t.kids.length := hk.num
  obtain ⟨c0, _, _, _, _, c5⟩ := hp.six
  obtain ⟨k, hkk⟩ : ∃ k, k = x.kind := ⟨_, rfl⟩
  obtain ⟨n, hn⟩ : ∃ n, n = x.n := ⟨_, rfl⟩
  obtain ⟨xp, hxp⟩ : ∃ xp, xp = x.p := ⟨_, rfl⟩
  obtain ⟨xc, hxc⟩ : ∃ xc, xc = x.cap := ⟨_, rfl⟩
  rw [← hkk] at c0 hkd
  rw [← hn, ← hxp, ← hxc] at c5
  rw [← hn] at hnn
  unfold moreN at hR
  rw [hkd, ← hnn] at hR
  obtain ⟨V, hV⟩ : ∃ V, V = nullM (t.kids.getD (i - 1) noneM) := ⟨_, rfl⟩
  rw [← hV] at hl hR
  have HR := Lib.hid hR
  have HL := Lib.hid hl
  have HF := Lib.hid h
  clear hR hkk hn hxp hxc hp ht et hk hl h hkd hnn hV
  by_cases k3 : k = 3
  · subst k3
    by_cases hlt : i < n
    · have hltz : (i : Int) < (n : Int) := by omega
      by_cases hi : i = 0
      · subst hi
        have e : R = true := by rw [HR.out]; simp [hlt]
        have HE := Lib.hid e
        clear e
        go_enter Tryz.func34, Tryz.ntmps34
        go_wp2
        go_ret
        exact ⟨by rw [HE.out]; rfl, rfl⟩
      · have hiz : ((i : Int) == 0) = false := by simp; omega
        obtain ⟨g, off, rfl⟩ := HF.out.some_of (i := 0) (by omega)
        have c6 := HF.out.cell (HL.out (by omega))
        have hi1 : ((i : Int) - 1) = ((i - 1 : Nat) : Int) := by omega
        have hi2 : i - 1 < i := by omega
        obtain ⟨j, hj⟩ : ∃ j, j = i - 1 := ⟨_, rfl⟩
        rw [← hj] at c6 hi1 hi2
        have hw1 : IntKind.i64.wrap ((i : Int) - 1) = (j : Int) := by rw [IntKind.wrap_i64]; omega
        have hjz : (j : Int) < (i : Int) := by omega
        have e : R = (V) := by rw [HR.out]; simp [hi, hlt]
        have HE := Lib.hid e
        clear hj e
        go_enter Tryz.func34, Tryz.ntmps34
        go_wp2
        go_ret
        exact ⟨by rw [HE.out]; rfl, rfl⟩
    · have hltz : ¬ (i : Int) < (n : Int) := by omega
      have e : R = false := by rw [HR.out]; simp [hlt]
      have HE := Lib.hid e
      clear e
      go_enter Tryz.func34, Tryz.ntmps34
      go_wp2
      go_ret
      exact ⟨by rw [HE.out]; rfl, rfl⟩
  have q3 : (k == 3) = false := by simpa using k3
  by_cases k4 : k = 4
  · subst k4
    by_cases hlt : i < n
    · have hltz : (i : Int) < (n : Int) := by omega
      by_cases hi : i = 0
      · subst hi
        have e : R = true := by rw [HR.out]; simp [hlt]
        have HE := Lib.hid e
        clear e
        go_enter Tryz.func34, Tryz.ntmps34
        go_wp2
        go_ret
        exact ⟨by rw [HE.out]; rfl, rfl⟩
      · have hiz : ((i : Int) == 0) = false := by simp; omega
        obtain ⟨g, off, rfl⟩ := HF.out.some_of (i := 0) (by omega)
        have c6 := HF.out.cell (HL.out (by omega))
        have hi1 : ((i : Int) - 1) = ((i - 1 : Nat) : Int) := by omega
        have hi2 : i - 1 < i := by omega
        obtain ⟨j, hj⟩ : ∃ j, j = i - 1 := ⟨_, rfl⟩
        rw [← hj] at c6 hi1 hi2
        have hw1 : IntKind.i64.wrap ((i : Int) - 1) = (j : Int) := by rw [IntKind.wrap_i64]; omega
        have hjz : (j : Int) < (i : Int) := by omega
        have e : R = (!V) := by rw [HR.out]; simp [hi, hlt]
        have HE := Lib.hid e
        clear hj e
        go_enter Tryz.func34, Tryz.ntmps34
        go_wp2
        go_ret
        exact ⟨by rw [HE.out]; rfl, rfl⟩
    · have hltz : ¬ (i : Int) < (n : Int) := by omega
      have e : R = false := by rw [HR.out]; simp [hlt]
      have HE := Lib.hid e
      clear e
      go_enter Tryz.func34, Tryz.ntmps34
      go_wp2
      go_ret
      exact ⟨by rw [HE.out]; rfl, rfl⟩
  have q4 : (k == 4) = false := by simpa using k4
  have e : R = false := by rw [HR.out, if_neg k3, if_neg k4]
  subst e
  clear k3 k4
  go_enter Tryz.func34, Tryz.ntmps34
  go_wp2
  go_ret
  exact ⟨rfl, rfl⟩

set_option maxRecDepth 100000 in
set_option maxHeartbeats 4000000 in
/-- The closure of Nullable. -/
theorem settleN_any {P PF : Nat → Prop} (W : World) (b o : Nat) (x : ReV) (t : RT) (hp : PlaceR W b o x) (ht : RAt W P x t) {p : Option Addr} {i cap : Nat} (h : RowB W PF p i cap ((t.kids.take i).map nullM)) (hb : i ≤ 9000000000) (hi : ∀ j, j < i → moreN t j = true) (hn : moreN t i = false) :
    Calls Tryz.prog 30 #[.pointer (some ⟨b, o, none⟩), .slice p i cap] W fun e w' => e = .returned (.bool (nullM t)) ∧ W = w' := by
  obtain ⟨_, et, _, hk⟩ := ht.kids
  have hkd : x.kind = t.kind := by rw [et]; rfl
  have hN := null_stop t i hi hn
  rw [← hkd] at hN
  obtain ⟨S, hS⟩ : ∃ S, S = ((t.kids.take i).map nullM).contains true := ⟨_, rfl⟩
  obtain ⟨A, hA⟩ : ∃ A, A = ((t.kids.take i).map nullM).contains false := ⟨_, rfl⟩
  have c1 := containsb_any W true h (by omega)
  have c2 := containsb_any W false h (by omega)
  rw [← hS] at c1 hN
  rw [← hA] at c2 hN
  have c3 := exprnull_any W b o x hp S (!A)
  rw [← hN] at c3
  obtain ⟨N, hNN⟩ : ∃ N, N = nullM t := ⟨_, rfl⟩
  rw [← hNN] at c3 ⊢
  clear hp ht h hi hn et hk hkd hN hS hA hNN
  go_enter Tryz.func30, Tryz.ntmps30
  go_wp2_with fail
  ((with_reducible refine c1.mono ?_))
  rintro _ _ ⟨rfl, rfl⟩
  go_wp2_with fail
  ((with_reducible refine c2.mono ?_))
  rintro _ _ ⟨rfl, rfl⟩
  go_wp2_with fail
  ((with_reducible refine c3.mono ?_))
  rintro _ _ ⟨rfl, rfl⟩
  go_wp2
  go_ret
  exact ⟨rfl, rfl⟩

end Go.Proofs.YtclnadjgbpihcaaGreatDoor

/-! The open parts of Nullable, as they lie in memory. No condition. -/
namespace Go.Proofs.YtclnadjgbpihcaaGreatDoor
open Go.RowKit Go.Lib
set_option linter.unusedVariables false
set_option linter.unusedSimpArgs false

structure PA.OkN (w : World) (P : Nat → Prop) (D : Nat) (e : PA) : Prop where
  place : PlaceR w e.b e.o e.x
  tree : RAt w P e.x e.t
  mark : MarkR w e.m e.t.sz
  dep : e.d + e.t.sz ≤ D
  more : ∀ j, j < e.i → moreN e.t j = true
def saidN (e : PA) : List Bool := (e.t.kids.take e.i).map nullM
def LinkN (t0 : RT) : List PA → Prop
  | [] => False
  | [e] => e.t = t0 ∧ e.d = 1
  | e :: f :: S => e.d = f.d + 1 ∧ f.t.kids[f.i]? = some e.t ∧ moreN f.t f.i = true ∧ LinkN t0 (f :: S)
theorem LinkN.len {t0 : RT} : ∀ {S : List PA} {e : PA}, LinkN t0 (e :: S) → e.d = S.length + 1
  | [], e, h => h.2
  | f :: S, e, h => by rw [h.1, LinkN.len h.2.2.2]; rfl
structure InvN (w : World) (P : Nat → Prop) (D : Nat) (t0 : RT) (W : World) (go cap : Nat) (S : List PA) : Prop where
  below : Below w.heap.size w W
  row : W.ownsRow w.heap.size 86 4 (.slice (some ⟨go, 0, none⟩) S.length cap) S.length (S.reverse.flatMap PA.cells)
  ok : ∀ e ∈ S, PA.OkN w P D e
  facts : ∀ e ∈ S, W.ownsRow w.heap.size 4 1 e.kv e.i (bcells (saidN e))
  far : ∀ e ∈ S, e.kv.ownBlock ≠ some go
  apart : S.Pairwise fun e f => ∀ g, e.kv.ownBlock = some g → f.kv.ownBlock ≠ some g
  link : LinkN t0 S
theorem row_at {W W' : World} {base size n : Nat} {e : TypeId} {v : Value} {xs : List Value} (h : W.ownsRow base e size v n xs) (ho : ∀ g, v.ownBlock = some g → W'.heap[g]? = W.heap[g]?) : W'.ownsRow base e size v n xs := by
  rcases row_forms h with ⟨rfl, h0⟩ | ⟨g, cp, rfl⟩
  · exact ⟨h.1, .inl ⟨rfl, h0⟩⟩
  · exact own_at h (ho g rfl)
theorem row_lt {W : World} {base size n : Nat} {e : TypeId} {v : Value} {xs : List Value} (h : W.ownsRow base e size v n xs) : ∀ g, v.ownBlock = some g → base ≤ g ∧ g < W.heap.size := fun g hg => by
  rcases row_forms h with ⟨rfl, h0⟩ | ⟨g', cp, rfl⟩
  · simp [Value.ownBlock] at hg
  · have := row_base h
    have e : g' = g := by simpa [Value.ownBlock] using hg
    subst e
    exact ⟨this.1, this.2.2.2⟩
theorem saidN_len {w : World} {P : Nat → Prop} {D : Nat} {e : PA} (h : PA.OkN w P D e) : (saidN e).length = e.i := by
  have := moreN_le h.more
  unfold saidN
  rw [List.length_map, List.length_take]
  omega
theorem InvN.blocks {w W : World} {P : Nat → Prop} {D go cap : Nat} {t0 : RT} {S : List PA} (h : InvN w P D t0 W go cap S) : (w.heap.size ≤ go ∧ go < W.heap.size) ∧ ∀ u ∈ S, ∀ g, u.kv.ownBlock = some g → w.heap.size ≤ g ∧ g < W.heap.size :=
  ⟨⟨(row_base h.row).1, (row_base h.row).2.2.2⟩, fun u hu g hg => row_lt (h.facts u hu) g hg⟩
theorem InvN.under {w W W' : World} {P : Nat → Prop} {D go cap : Nat} {t0 : RT} {S : List PA} (h : InvN w P D t0 W go cap S) (hb : Below W.heap.size W W') : InvN w P D t0 W' go cap S :=
  ⟨h.below.trans (hb.mono h.below.size), own_at h.row (hb.block go (row_base h.row).2.2.2), h.ok, fun e he => row_at (h.facts e he) fun g hg => hb.block g (row_lt (h.facts e he) g hg).2, h.far, h.apart, h.link⟩
theorem rowb_of {W : World} {base n kc : Nat} {q : Option Addr} {bs : List Bool} (ho : W.ownsRow base 4 1 (.slice q n kc) n (bcells bs)) (hn : n = bs.length) : RowB W (fun _ => True) q n kc bs := by
  refine ⟨?_, hn⟩
  rcases row_forms ho with ⟨e, h0⟩ | ⟨g, cp, e⟩
  · obtain ⟨rfl, _, rfl⟩ : q = none ∧ n = 0 ∧ kc = 0 := by simpa using e
    exact .inl ⟨h0, fun _ => rfl⟩
  · obtain ⟨rfl, rfl⟩ : q = some ⟨g, 0, none⟩ ∧ kc = cp := by simpa using e
    obtain ⟨r1, r2, r3, r4⟩ := row_base ho
    rcases ho.2 with ⟨h2, _⟩ | ⟨g', cap', cur, hv, hb, hh, hc, hm, hsz, ht⟩
    · cases h2
    · obtain rfl : g = g' := by simp at hv; omega
      exact .inr ⟨g, 0, rfl, r2, r3, trivial, ⟨cur, _, by decide, hh⟩, fun j u hj => by rw [Nat.zero_add]; exact row_cell ho hj⟩
theorem InvN.push {w W W' : World} {P : Nat → Prop} {D go cap : Nat} {t0 : RT} {S : List PA} {e : PA} (h : InvN w P D t0 W go cap (e :: S)) {f : PA} {gb cap' : Nat} (hf : PA.OkN w P D f) (hi : f.i = 0) (hq : f.q = none) (hc : f.kc = 0)
    (hd : f.d = e.d + 1) (hk : e.t.kids[e.i]? = some f.t) (hm : moreN e.t e.i = true) (hrow : W'.ownsRow w.heap.size 86 4 (.slice (some ⟨gb, 0, none⟩) (S.length + 1 + 1) cap') (S.length + 1 + 1) ((e :: S).reverse.flatMap PA.cells ++ f.cells))
    (hg : W.grownBy W' (some go)) (hat : gb = go ∨ W.heap.size ≤ gb) : InvN w P D t0 W' gb cap' (f :: e :: S) := by
  have hkv : f.kv.ownBlock = none := by unfold PA.kv; rw [hq]; rfl
  have hgo := (row_base h.row).2.2.2
  have hgw := (row_base h.row).1
  refine ⟨h.below.grown hg h.below.size fun b hb => by simp at hb; omega, ?_, ?_, ?_, ?_, ?_, ⟨hd, hk, hm, h.link⟩⟩
  · rw [List.reverse_cons, List.flatMap_append]
    simpa using hrow
  · intro u hu
    rcases List.mem_cons.1 hu with rfl | hu
    · exact hf
    · exact h.ok u hu
  · intro u hu
    rcases List.mem_cons.1 hu with rfl | hu
    · unfold saidN PA.kv
      rw [hq, hi, hc]
      exact World.ownsRow_nil _ _ _ _
    · exact row_at (h.facts u hu) fun g hg' => hg.block g (row_lt (h.facts u hu) g hg').2 fun q => h.far u hu (by rw [hg', q])
  · intro u hu
    rcases List.mem_cons.1 hu with rfl | hu
    · rw [hkv]; simp
    · intro q
      rcases hat with e1 | e1
      · exact h.far u hu (by rw [q, e1])
      · have := (row_lt (h.facts u hu) gb q).2
        omega
  · refine List.pairwise_cons.2 ⟨fun u hu g hg' => ?_, h.apart⟩
    rw [hkv] at hg'
    cases hg'
theorem InvN.pop {w W W1 : World} {P : Nat → Prop} {D go cap : Nat} {t0 : RT} {S : List PA} {e f : PA} (h : InvN w P D t0 W go cap (e :: f :: S))
    {gb kc' : Nat} (hg : W.grownBy W1 f.kv.ownBlock) (hrow : W1.ownsRow w.heap.size 4 1 (.slice (some ⟨gb, 0, none⟩) (f.i + 1) kc') (f.i + 1) (bcells (saidN f) ++ [.bool (nullM e.t)])) (hat : f.kv.ownBlock = some gb ∨ W.heap.size ≤ gb) :
    InvN w P D t0 (W1.setCell ⟨go, S.length * 4 + 3, none⟩ (.slice (some ⟨gb, 0, none⟩) (f.i + 1) kc')) go cap (f.told gb kc' :: S) := by
  obtain ⟨hlink1, hlink2, hlink3, hlink4⟩ := h.link
  have hgo := (row_base h.row).2.2.2
  have hgw := (row_base h.row).1
  have hfok := h.ok f (by simp)
  have hap := List.pairwise_cons.1 (List.pairwise_cons.1 h.apart).2
  have hgbgo : gb ≠ go := fun q => by
    rcases hat with h1 | h1
    · exact h.far f (by simp) (by rw [h1, q])
    · omega
  have hap2 : ∀ u ∈ S, u.kv.ownBlock ≠ some gb := fun u hu q => by
    rcases hat with h1 | h1
    · exact hap.1 u hu gb h1 q
    · have := (row_lt (h.facts u (by simp [hu])) gb q).2
      omega
  have hbel : Below w.heap.size w W1 := h.below.grown hg h.below.size fun b hb => (row_lt (h.facts f (by simp)) b hb).1
  refine ⟨hbel.setCell hgw _, ?_, ?_, ?_, ?_, ?_, ?_⟩
  · have hl4 : ((f :: S).reverse.flatMap PA.cells).length = (f :: S).length * 4 := by rw [flat4_len]; simp
    have hr := h.row
    rw [List.reverse_cons, List.flatMap_append] at hr
    have hp := ownsRow_pop hl4 hr
    have hp1 : W1.ownsRow w.heap.size 86 4 (.slice (some ⟨go, 0, none⟩) (f :: S).length cap) (f :: S).length ((f :: S).reverse.flatMap PA.cells) := own_at hp (hg.block go hgo fun q => h.far f (by simp) q.symm)
    have hp2 := own_set5r hp1 (S.length * 4 + 3) (.slice (some ⟨gb, 0, none⟩) (f.i + 1) kc')
    have hlS : (S.reverse.flatMap PA.cells).length = S.length * 4 := by rw [flat4_len]; simp
    have e1 : ((f :: S).reverse.flatMap PA.cells).set (S.length * 4 + 3) (.slice (some ⟨gb, 0, none⟩) (f.i + 1) kc') = (f.told gb kc' :: S).reverse.flatMap PA.cells := by
      rw [List.reverse_cons, List.reverse_cons, List.flatMap_append, List.flatMap_append]
      have e2 : [f].flatMap PA.cells = [.pointer (some ⟨f.b, f.o, none⟩), .pointer f.m, .int .i64 f.d, .slice f.q f.i f.kc] := rfl
      have e3 : [f.told gb kc'].flatMap PA.cells = [.pointer (some ⟨f.b, f.o, none⟩), .pointer f.m, .int .i64 f.d, .slice (some ⟨gb, 0, none⟩) (f.i + 1) kc'] := rfl
      rw [e2, e3, set_end4 hlS]
    rw [e1] at hp2
    exact hp2
  · intro u hu
    rcases List.mem_cons.1 hu with rfl | hu
    · refine ⟨hfok.place, hfok.tree, hfok.mark, hfok.dep, fun j hj => ?_⟩
      have hj : j < f.i + 1 := hj
      by_cases q : j = f.i
      · rw [q]; exact hlink3
      · exact hfok.more j (by omega)
    · exact h.ok u (by simp [hu])
  · intro u hu
    rcases List.mem_cons.1 hu with rfl | hu
    · have e1 : bcells (saidN (f.told gb kc')) = bcells (saidN f) ++ [.bool (nullM e.t)] := by
        show bcells ((f.t.kids.take (f.i + 1)).map nullM) = _
        rw [List.take_add_one, hlink2, List.map_append]
        unfold bcells
        rw [List.map_append]
        rfl
      rw [e1]
      exact own_at hrow (heap_set_ne _ _ _ hgbgo)
    · have hf := h.facts u (by simp [hu])
      refine row_at hf fun g hg' => ?_
      exact (heap_set_ne _ _ _ fun q => h.far u (by simp [hu]) (by rw [hg', q])).trans (hg.block g (row_lt hf g hg').2 fun q => hap.1 u hu g q.symm hg')
  · intro u hu
    rcases List.mem_cons.1 hu with rfl | hu
    · intro q
      exact hgbgo (by simpa [PA.kv, PA.told, Value.ownBlock] using q)
    · exact h.far u (by simp [hu])
  · refine List.pairwise_cons.2 ⟨fun u hu g hg' => ?_, hap.2⟩
    have : gb = g := by simpa [PA.kv, PA.told, Value.ownBlock] using hg'
    rw [← this]
    exact hap2 u hu
  · cases S with
    | nil => exact hlink4
    | cons g S => exact hlink4

end Go.Proofs.YtclnadjgbpihcaaGreatDoor

/-! settled, for what is left of an expression: the program's stack. No condition but the library's table and size. -/
namespace Go.Proofs.YtclnadjgbpihcaaGreatDoor
open Go.RowKit Go.Lib
set_option linter.unusedVariables false
set_option linter.unusedSimpArgs false

theorem infoPartD : (Tryz.prog.info? 80).map (fun i => (i.zero, i.size, i.bytes)) = some (some (.agg #[.pointer none, .pointer none, .int .i64 0, .slice none 0 0]), 4, 48) := by kernel_rfl
theorem partD_parts : ∃ i0, Tryz.prog.info? 80 = some i0 ∧ i0.zero = some (.agg #[.pointer none, .pointer none, .int .i64 0, .slice none 0 0]) ∧ i0.size = 4 ∧ i0.bytes = 48 := by
  have h := infoPartD
  cases e : Tryz.prog.info? 80 with
  | none => rw [e] at h; cases h
  | some j =>
    rw [e] at h
    simp at h
    exact ⟨j, rfl, h.1, h.2.1, h.2.2⟩
theorem fact_parts : ∃ i0, Tryz.prog.info? 58 = some i0 ∧ i0.zero = some (.agg #[.int .i64 0, .int .u64 0, .int .u64 0, .int .u64 0, .int .u64 0, .slice none 0 0, .bool false]) ∧ i0.size = 7 ∧ i0.bytes = 72 := by
  have h := infoFact
  cases e : Tryz.prog.info? 58 with
  | none => rw [e] at h; cases h
  | some j =>
    rw [e] at h
    simp at h
    exact ⟨j, rfl, h.1, h.2.1, h.2.2⟩
theorem infoExpr : ∃ j : TypeInfo, Tryz.prog.info? 77 = some j ∧ j.size ≠ 0 := by
  have h : (Tryz.prog.info? 77).map (fun i => i.size) = some 6 := by kernel_rfl
  cases e : Tryz.prog.info? 77 with
  | none => rw [e] at h; cases h
  | some j =>
    rw [e] at h
    simp at h
    exact ⟨j, rfl, by omega⟩
theorem pointeeExpr : Tryz.prog.underlying 55 = some (.pointer 77) := by kernel_rfl
/-- The program's test of the mark, in a world in which what was there stays. -/
theorem eql_markD {w W : World} {P : Nat → Prop} {m : Option Addr} {b o : Nat} {x : ReV} {t : RT} (h : MarkR w m t.sz) (hp : PlaceR w b o x) (hE : RAt w P x t) (hb : Below w.heap.size w W) :
    (binOp .eql 55 (.pointer (some ⟨b, o, none⟩)) (.pointer m)).run Tryz.prog W = .ok (.bool false) W := by
  have hn := h.ne hp hE
  rcases h with rfl | ⟨b', o', X, T, rfl, h2, h3, _⟩
  · rw [run_eql_pointer_nil W _ _ (by kernel_rfl)]
    rfl
  · obtain ⟨j, hj, hs⟩ := infoExpr
    obtain ⟨c, t, _, hc⟩ := (hp.under hb).blk
    obtain ⟨c', t', _, hc'⟩ := (h2.under hb).blk
    exact run_eql_ptr_other W (te := 77) pointeeExpr hj hs (fun e => hn (by rw [e])) hc hc'

theorem ps_weak {w W : World} {P : Nat → Prop} {c D go cap : Nat} {t0 : RT} {S : List PA} (h : InvD w P c D t0 W go cap S) {g : Nat} (hg : W.heap.size ≤ g) : PS w P go S g := by
  have hlt := h.blocks
  have h1 := h.below.size
  exact ⟨.inr (by omega), by have := hlt.1; omega, fun u hu q => by have := hlt.2 u hu g q; omega⟩
theorem mid_alloc {w W W2 w5 : World} {P : Nat → Prop} {c D go cap : Nat} {t0 : RT} {S : List PA} {y : FV} {R : RT} {N : Bool} (h : InvD w P c D t0 W go cap S) (hb : Below W.heap.size W W2) (h5 : Below W2.heap.size W2 w5)
    (hy : RAt w5 (fun g => (PS w P go S g ∧ g < W.heap.size) ∨ W2.heap.size ≤ g) y.re R) (hn : y.nul = N) :
    Hid ((w5.alloc (.cells y.cells.toArray 58)).heap[w5.heap.size]? = some (.cells y.cells.toArray 58 (0, 0))) ∧ Hid (InvD w P c D t0 (w5.alloc (.cells y.cells.toArray 58)) go cap S) ∧ Hid (RAt (w5.alloc (.cells y.cells.toArray 58)) (PS w P go S) y.re R) ∧ Hid (y.nul = N) ∧ w.heap.size ≤ w5.heap.size := by
  have hi5 := (h.under hb).under h5
  have hb6 : Below w5.heap.size w5 (w5.alloc (.cells y.cells.toArray 58)) := (Below.refl _ _).alloc (Nat.le_refl _) _
  refine ⟨heap_alloc_new w5 _, hi5.under hb6, (hy.under hb6).weak fun g hg _ => ?_, hn, hi5.below.size⟩
  rcases hg with hg | hg
  · exact hg.1
  · exact ps_weak h (Nat.le_trans hb.size hg)
theorem mid_set {w W w5 : World} {P : Nat → Prop} {c D go cap : Nat} {t0 : RT} {S : List PA} {e0 e1 e2 e3 e4 : Int} {q5 : Option Addr} {m5 cp5 : Nat} {nb : Bool} {R : RT} {N : Bool} (h : InvD w P c D t0 W go cap S)
    (hB : w5.heap[W.heap.size]? = some (.cells #[.int .i64 0, .int .u64 0, .int .u64 0, .int .u64 0, .int .u64 0, .slice none 0 0, .bool false] 58 (0, 0))) (h5 : Below (W.alloc (.cells #[.int .i64 0, .int .u64 0, .int .u64 0, .int .u64 0, .int .u64 0, .slice none 0 0, .bool false] 58)).drew.heap.size (W.alloc (.cells #[.int .i64 0, .int .u64 0, .int .u64 0, .int .u64 0, .int .u64 0, .slice none 0 0, .bool false] 58)).drew w5)
    (hy : RAt w5 (fun g => (PS w P go S g ∧ g < W.heap.size) ∨ (W.alloc (.cells #[.int .i64 0, .int .u64 0, .int .u64 0, .int .u64 0, .int .u64 0, .slice none 0 0, .bool false] 58)).drew.heap.size ≤ g) ⟨e0, e1, e2, e3, e4, q5, m5, cp5⟩ R) (hn : nb = N) :
    Hid ((((((((w5.setCell ⟨W.heap.size, 0, none⟩ (.int .i64 e0)).setCell ⟨W.heap.size, 1, none⟩ (.int .u64 e1)).setCell ⟨W.heap.size, 2, none⟩ (.int .u64 e2)).setCell ⟨W.heap.size, 3, none⟩ (.int .u64 e3)).setCell ⟨W.heap.size, 4, none⟩ (.int .u64 e4)).setCell ⟨W.heap.size, 5, none⟩ (.slice q5 m5 cp5)).setCell ⟨W.heap.size, 6, none⟩ (.bool nb)).heap[W.heap.size]? = some (.cells (FV.cells ⟨⟨e0, e1, e2, e3, e4, q5, m5, cp5⟩, nb⟩).toArray 58 (0, 0))) ∧
    Hid (InvD w P c D t0 (((((((w5.setCell ⟨W.heap.size, 0, none⟩ (.int .i64 e0)).setCell ⟨W.heap.size, 1, none⟩ (.int .u64 e1)).setCell ⟨W.heap.size, 2, none⟩ (.int .u64 e2)).setCell ⟨W.heap.size, 3, none⟩ (.int .u64 e3)).setCell ⟨W.heap.size, 4, none⟩ (.int .u64 e4)).setCell ⟨W.heap.size, 5, none⟩ (.slice q5 m5 cp5)).setCell ⟨W.heap.size, 6, none⟩ (.bool nb)) go cap S) ∧
    Hid (RAt (((((((w5.setCell ⟨W.heap.size, 0, none⟩ (.int .i64 e0)).setCell ⟨W.heap.size, 1, none⟩ (.int .u64 e1)).setCell ⟨W.heap.size, 2, none⟩ (.int .u64 e2)).setCell ⟨W.heap.size, 3, none⟩ (.int .u64 e3)).setCell ⟨W.heap.size, 4, none⟩ (.int .u64 e4)).setCell ⟨W.heap.size, 5, none⟩ (.slice q5 m5 cp5)).setCell ⟨W.heap.size, 6, none⟩ (.bool nb)) (PS w P go S) (FV.mk ⟨e0, e1, e2, e3, e4, q5, m5, cp5⟩ nb).re R) ∧ Hid ((FV.mk ⟨e0, e1, e2, e3, e4, q5, m5, cp5⟩ nb).nul = N) ∧ w.heap.size ≤ W.heap.size := by
  have hs : (W.alloc (.cells #[.int .i64 0, .int .u64 0, .int .u64 0, .int .u64 0, .int .u64 0, .slice none 0 0, .bool false] 58)).drew.heap.size = W.heap.size + 1 := by show (W.alloc (.cells #[.int .i64 0, .int .u64 0, .int .u64 0, .int .u64 0, .int .u64 0, .slice none 0 0, .bool false] 58)).heap.size = _; simp
  have hda : Below W.heap.size W (W.alloc (.cells #[.int .i64 0, .int .u64 0, .int .u64 0, .int .u64 0, .int .u64 0, .slice none 0 0, .bool false] 58)).drew := below_drawn ((Below.refl _ _).alloc (Nat.le_refl _) _) 1
  have hall : Below W.heap.size W w5 := hda.trans (h5.mono hda.size)
  refine ⟨set7_heap hB _ _ _ _ _ _ _, h.under (seven_set hall (Nat.le_refl _) _ _ _ _ _ _ _), ?_, hn, h.below.size⟩
  refine hy.kept (Keeps.of (by simp [World.setCell]) fun z hz _ => ?_)
  rw [hs] at hz
  refine ⟨seven_ne (by rcases hz with ⟨_, hz⟩ | hz <;> omega) _ _ _ _ _ _ _, ?_⟩
  rcases hz with hz | hz
  · exact hz.1
  · exact ps_weak h (by omega)

set_option maxRecDepth 100000 in
set_option maxHeartbeats 8000000 in
theorem settledD_any {P : Nat → Prop} (w : World) (c : Nat) (hc : c < 256) (bx : Nat) (hbx : w.cell? ⟨bx, 0, none⟩ = some (.int .i64 (c : Int))) (b0 o0 : Nat) (x0 : ReV) (t0 : RT) (hp0 : PlaceR w b0 o0 x0) (ht0 : RAt w P x0 t0) (hT : Tab1 w) (hf : FitA c t0) (hsz0 : t0.sz ≤ 1000000000) :
    Calls Tryz.prog 28 #[.pointer (some ⟨b0, o0, none⟩), .func (.func 29) #[] #[], .func (.func 26) #[] #[.pointer (some ⟨bx, 0, none⟩)]] w (GivesFact (fun g => P g ∨ w.heap.size ≤ g) c t0 w) := by
  obtain ⟨i0, hi0, hz0, hz1, hz2⟩ := partD_parts
  obtain ⟨i1, hi1, hy0, hy1, hy2⟩ := fact_parts
  obtain ⟨D0, hD0⟩ : ∃ D0, D0 = w.heap.size := ⟨_, rfl⟩
  obtain ⟨w1, hw1⟩ : ∃ w1 : World, w1 = w.alloc (.cells #[.int .i64 0, .int .u64 0, .int .u64 0, .int .u64 0, .int .u64 0, .slice none 0 0, .bool false] 58) := ⟨_, rfl⟩
  have hb1 : Below w.heap.size w w1 := by rw [hw1]; exact (Below.refl _ _).alloc (Nat.le_refl _) _
  have hnD : w1.heap[D0]? = some (.cells #[.int .i64 0, .int .u64 0, .int .u64 0, .int .u64 0, .int .u64 0, .slice none 0 0, .bool false] 58 (0, 0)) := by rw [hw1, hD0]; exact heap_alloc_new _ _
  have hs1 : w1.heap.size = D0 + 1 := by rw [hw1, hD0]; simp
  obtain ⟨P', hP'⟩ : ∃ P' : Nat → Prop, P' = fun g => P g ∧ g < w.heap.size := ⟨_, rfl⟩
  have ht1 : RAt w1 P' x0 t0 := by rw [hP']; exact (ht0.weak fun g hg hl => (⟨hg, hl⟩ : P g ∧ g < w.heap.size)).under hb1
  have hp1 := hp0.under hb1
  obtain ⟨D, hD⟩ : ∃ D, D = t0.sz + 1 := ⟨_, rfl⟩
  have hDb : D ≤ 1000000001 := by omega
  have HOK0 : Hid (PA.Ok w1 P' c D ⟨b0, o0, none, 1, x0, t0, 0, none, 0⟩) := ⟨hp1, ht1, .inl rfl, by show 1 + t0.sz ≤ D; omega, hf, fun j hj => by have hj : j < 0 := hj; omega⟩
  have hbl : bx < w.heap.size := by
    unfold World.cell? at hbx
    cases e : w.heap[bx]? with
    | none => simp [e] at hbx
    | some o => exact (Array.getElem?_eq_some_iff.1 e).1
  have HBX : Hid (∀ W, Below w1.heap.size w1 W → W.cell? ⟨bx, 0, none⟩ = some (.int .i64 (c : Int))) := fun W hb => ((hb1.trans (hb.mono hb1.size)).cell (p := ⟨bx, 0, none⟩) hbl).trans hbx
  have HT1 := Lib.hid (hT.stays hb1)
  have HB1 := Lib.hid hb1
  have HND := Lib.hid hnD
  have HW1 := Lib.hid hw1
  have HDD := Lib.hid hD0
  have HS1 := Lib.hid hs1
  have HP' := Lib.hid hP'
  have HDE := Lib.hid hD
  clear hp0 ht0 hT hf hsz0 hbx hb1 hnD hw1 hD0 hs1 hP' ht1 hp1 hD hbl
  go_enter Tryz.func28, Tryz.ntmps28
  go_wp2
  rw [← HW1.out, ← HDD.out]
  go_loopg [7] (2 * D) (fun gk v wr => ∃ (S : List PA) (go cap : Nat), v = .slice (some ⟨go, 0, none⟩) S.length cap ∧ Hid (InvD w1 P' c D t0 wr go cap S) ∧ Hid (mu S ≤ gk))
  case atStart =>
    refine ⟨[⟨b0, o0, none, 1, x0, t0, 0, none, 0⟩], _, _, rfl, ⟨?_, ?_, ?_, ?_, ?_, ?_, ?_⟩, ?_⟩
    · exact (Below.refl _ _).alloc (Nat.le_refl _) _
    · have h := heap_alloc_new w1 (.cells #[.pointer (some ⟨b0, o0, none⟩), .pointer none, .int .i64 1, .slice none 0 0] 80)
      rw [HS1.out] at h
      exact row_of_block (by rw [HS1.out]; exact Nat.le_refl _) h (by unfold maxLen; simp) rfl
    · intro e he
      simp at he
      subst he
      exact HOK0.out
    · intro e he
      simp at he
      subst he
      exact ⟨[], World.ownsRow_nil _ _ _ _, rfl, fun i y r hy => by simp at hy⟩
    · intro e he
      simp at he
      subst he
      simp [PA.kv, Value.ownBlock]
    · simp
    · exact ⟨rfl, rfl⟩
    · unfold Hid mu remT
      have := HDE.out
      simp
      omega
  case round =>
    obtain ⟨S, go, cap, rfl, HI, HMU⟩ := hrel
    obtain ⟨e, S', rfl⟩ : ∃ e S', S = e :: S' := by
      cases S with
      | nil => exact absurd HI.out.link (by simp [Link])
      | cons e S' => exact ⟨e, S', rfl⟩
    obtain ⟨n, hn⟩ : ∃ n, n = S'.length := ⟨_, rfl⟩
    have HOK := Lib.hid (HI.out.ok e (by simp))
    have hdn : e.d = n + 1 := by rw [hn]; exact Link.len HI.out.link
    have hlen : (e :: S').length = n + 1 := by rw [hn]; rfl
    have hrow := HI.out.row
    rw [hlen, List.reverse_cons, List.flatMap_append] at hrow
    have hl4 : (S'.reverse.flatMap PA.cells).length = n * 4 := by rw [flat4_len, hn]; simp
    have g0 := row_cell hrow (j := n * 4) (u := .pointer (some ⟨e.b, e.o, none⟩)) (by rw [List.getElem?_append_right (by omega), hl4, Nat.sub_self]; rfl)
    have g1 := row_cell hrow (j := n * 4 + 1) (u := .pointer e.m) (by rw [List.getElem?_append_right (by omega), hl4, show n * 4 + 1 - n * 4 = 1 by omega]; rfl)
    have g2 := row_cell hrow (j := n * 4 + 2) (u := .int .i64 e.d) (by rw [List.getElem?_append_right (by omega), hl4, show n * 4 + 2 - n * 4 = 2 by omega]; rfl)
    have g3 := row_cell hrow (j := n * 4 + 3) (u := .slice e.q e.i e.kc) (by rw [List.getElem?_append_right (by omega), hl4, show n * 4 + 3 - n * 4 = 3 by omega]; rfl)
    obtain ⟨q1, q2, q3, q4⟩ := row_base hrow
    obtain ⟨us, hus⟩ := HI.out.facts e (by simp)
    have hle := more_le HOK.out.more
    have hll : ((e.t.kids.take e.i).map (factOf c)).length = e.i := by rw [List.length_map, List.length_take]; omega
    have hrf := hus.rowf hll.symm
    have hdep := HOK.out.dep
    have hsz := sz_pos e.t
    have hkb : e.i ≤ 1000000001 := by have := kids_len e.t; omega
    have hm := needsmore_any wr.drew e.b e.o e.x e.t ((HOK.out.place.under HI.out.below).under (below_drawn (Below.refl _ _) 1)) ((HOK.out.tree.under HI.out.below).under (below_drawn (Below.refl _ _) 1)) (hrf.rowf.under (below_drawn (Below.refl _ _) 1)) (by omega) (fun h0 => by
      obtain ⟨u1, h1⟩ : ∃ u1, us[e.i - 1]? = some u1 := ⟨_, List.getElem?_eq_getElem (by rw [hus.len, hll]; omega)⟩
      obtain ⟨u2, h2⟩ : ∃ u2, e.t.kids[e.i - 1]? = some u2 := ⟨_, List.getElem?_eq_getElem (by omega)⟩
      refine ⟨_, h1, ?_⟩
      have := (hus.each _ _ (factOf c u2) h1 (by rw [List.getElem?_map, List.getElem?_take, if_pos (by omega), h2]; rfl)).2
      rw [this, List.getD_eq_getElem?_getD, h2]
      rfl)
    obtain ⟨M, hM⟩ : ∃ M, M = moreD e.t e.i := ⟨_, rfl⟩
    rw [← hM] at hm
    have HM := Lib.hid hM
    have HUS := Lib.hid hus
    have HLL := Lib.hid hll
    have HROW := Lib.hid hrow
    have HL4 := Lib.hid hl4
    have HN := Lib.hid hn
    have hn1 : ((n + 1 : Nat) : Int) - 1 = (n : Int) := by omega
    have hnb : n + 1 ≤ 1000000001 := by omega
    have hdb : e.d ≤ 1000000001 := by omega
    clear hdn
    rw [hlen]
    clear hus hrf hll hrow hl4 hn hM hle hlen
    go_upto_region 3 with fail
    go_cut [30] from 21 to 31 (fun s30 W => s30 = .bool M ∧ W = wr.drew)
    case first =>
      go_region_law (first | (go_simp; go_at_call 29; (with_reducible (refine hm.mono ?_)); rintro _ _ ⟨rfl, rfl⟩) | fail)
      all_goals (go_wp2_with fail; go_meet; exact ⟨rfl, rfl⟩)
    case rest =>
      obtain ⟨rfl, rfl⟩ := hcut
      have hi2 : InvD w1 P' c D t0 wr.drew go cap (e :: S') := HI.out.under (below_drawn (Below.refl _ _) 1)
      cases M with
      | true =>
        obtain ⟨kt, hkt, hneed⟩ := more_kid HOK.out.more HM.out.symm
        obtain ⟨vs, et, hok, hkids⟩ := HOK.out.tree.kids
        have hil : e.i < e.t.kids.length := (List.getElem?_eq_some_iff.1 hkt).1
        have hxn : e.x.n = e.t.kids.length := hkids.num
        obtain ⟨gk2, offk, hxp⟩ := hkids.rowv.some_of (i := e.i) (by omega)
        obtain ⟨y, hy⟩ : ∃ y, vs[e.i]? = some y := ⟨_, List.getElem?_eq_getElem (by rw [hkids.len]; exact hil)⟩
        have hktree := hkids.each e.i y kt hy hkt
        have hkplace : PlaceR w1 gk2 (offk + e.i * 6) y := by rw [hxp] at hkids; exact hkids.place hy
        have hksz : kt.sz < e.t.sz := kids_sz (List.mem_of_getElem? hkt)
        obtain ⟨mk, hmk⟩ : ∃ mk, mk = markK e.b e.o e.m e.d := ⟨_, rfl⟩
        have hmark : MarkR w1 mk kt.sz := by
          rw [hmk]
          unfold markK
          split
          · exact .inr ⟨e.b, e.o, e.x, e.t, rfl, HOK.out.place, HOK.out.tree.weak fun _ _ _ => trivial, hksz⟩
          · exact HOK.out.mark.less (by omega)
        have HF : Hid (PA.Ok w1 P' c D ⟨gk2, offk + e.i * 6, mk, e.d + 1, y, kt, 0, none, 0⟩) := ⟨hkplace, hktree, hmark, by show e.d + 1 + kt.sz ≤ D; omega, HOK.out.fit.kid hneed, fun j hj => by have hj : j < 0 := hj; omega⟩
        obtain ⟨W, hW⟩ : ∃ W : World, W = wr.drew := ⟨_, rfl⟩
        have k0 : W.cell? ⟨go, n * 4, none⟩ = some (.pointer (some ⟨e.b, e.o, none⟩)) := by rw [hW]; exact g0
        have k1 : W.cell? ⟨go, n * 4 + 1, none⟩ = some (.pointer e.m) := by rw [hW]; exact g1
        have k2 : W.cell? ⟨go, n * 4 + 2, none⟩ = some (.int .i64 e.d) := by rw [hW]; exact g2
        have k3 : W.cell? ⟨go, n * 4 + 3, none⟩ = some (.slice e.q e.i e.kc) := by rw [hW]; exact g3
        rw [← hW] at hi2
        have c1 := nextF_any W go (n * 4) e.b e.o e.d e.i e.kc e.m e.q e.x gk2 offk k0 k1 k2 k3 (HOK.out.place.under hi2.below) hxp (by omega) (by omega)
        rw [← hmk] at c1
        rw [← hW]
        have HI2 := Lib.hid hi2
        have HKT := Lib.hid hkt
        clear hi2 hkt hneed et hok hkids hy hktree hkplace hmark hmk hW k0 k1 k2 k3 g0 g1 g2 g3 hm hxp vs
        go_wp2_with fail
        ((with_reducible refine c1.mono ?_))
        rintro _ w2 ⟨rfl, hb2⟩
        have hi3 : InvD w1 P' c D t0 (w2.alloc (.cells #[.pointer (some ⟨gk2, offk + e.i * 6, none⟩), .pointer mk, .int .i64 ((e.d : Int) + 1), .slice none 0 0] 80)) go cap (e :: S') := (HI2.out.under hb2).under ((Below.refl _ _).alloc (Nat.le_refl _) _)
        have hpe := eql_markD HF.out.mark HF.out.place HF.out.tree hi3.below
        have HI3 := Lib.hid hi3
        have hi4 : InvD w1 P' c D t0 ((w2.alloc (.cells #[.pointer (some ⟨gk2, offk + e.i * 6, none⟩), .pointer mk, .int .i64 ((e.d : Int) + 1), .slice none 0 0] 80)).alloc (.cells #[.pointer (some ⟨gk2, offk + e.i * 6, none⟩), .pointer mk, .int .i64 ((e.d : Int) + 1), .slice none 0 0] 80)) go cap (e :: S') := hi3.under ((Below.refl _ _).alloc (Nat.le_refl _) _)
        have HI4 := Lib.hid hi4
        have HRW : Hid (((w2.alloc (.cells #[.pointer (some ⟨gk2, offk + e.i * 6, none⟩), .pointer mk, .int .i64 ((e.d : Int) + 1), .slice none 0 0] 80)).alloc (.cells #[.pointer (some ⟨gk2, offk + e.i * 6, none⟩), .pointer mk, .int .i64 ((e.d : Int) + 1), .slice none 0 0] 80)).ownsRow w1.heap.size 80 4 (.slice (some ⟨go, 0, none⟩) (n + 1) cap) (n + 1) ((e :: S').reverse.flatMap PA.cells)) := by
          have h := hi4.row
          rw [show (e :: S').length = n + 1 by rw [HN.out]; rfl] at h
          exact h
        have hw2 : w1.heap.size ≤ w2.heap.size := by have := (HI2.out.under hb2).below.size; exact this
        clear hb2 c1 hi3 hi4
        go_wp2_with (at_builtin; go_loud (refine wpList_append_own_at _ rfl _ _ 81 rfl w1.heap.size 80 i0 _ 4 48 Tryz.underlying81 hi0 hz0 hz1 hz2 rfl (by decide) _ _ _ rfl HRW.out ⟨w2.heap.size + 1, 0, none⟩ 1 1 [.pointer (some ⟨gk2, offk + e.i * 6, none⟩), .pointer mk, .int .i64 ((e.d : Int) + 1), .slice none 0 0] rfl rfl ?c1 ?c2 ?c3 ?c4 ?c5 ?_))
        case c1 =>
          have h := new3 (w2.alloc (.cells #[.pointer (some ⟨gk2, offk + e.i * 6, none⟩), .pointer mk, .int .i64 ((e.d : Int) + 1), .slice none 0 0] 80)) #[.pointer (some ⟨gk2, offk + e.i * 6, none⟩), .pointer mk, .int .i64 ((e.d : Int) + 1), .slice none 0 0] 80 [.pointer (some ⟨gk2, offk + e.i * 6, none⟩), .pointer mk, .int .i64 ((e.d : Int) + 1), .slice none 0 0] rfl
          rw [show (w2.alloc (.cells #[.pointer (some ⟨gk2, offk + e.i * 6, none⟩), .pointer mk, .int .i64 ((e.d : Int) + 1), .slice none 0 0] 80)).heap.size = w2.heap.size + 1 by simp] at h
          exact h
        case c2 => intro x hx; simp at hx; rcases hx with rfl | rfl | rfl | rfl <;> rfl
        case c3 => unfold maxLen; omega
        case c4 => omega
        case c5 => simp; omega
        intro v' w4 hown hgrow _ hat
        obtain ⟨g4, cap4, rfl⟩ := (row_forms hown).resolve_left (fun h => by cases h.2)
        have HOWN := Lib.hid hown
        have HGROW := Lib.hid hgrow
        have HAT := Lib.hid hat
        clear hown hgrow hat
        go_wp2
        go_roundg (mu (⟨gk2, offk + e.i * 6, mk, e.d + 1, y, kt, 0, none, 0⟩ :: e :: S'))
        case measure =>
          have h1 := mu_push (e := e) (f := ⟨gk2, offk + e.i * 6, mk, e.d + 1, y, kt, 0, none, 0⟩) (S := S') HKT.out rfl
          have h2 := HMU.out
          omega
        case rel =>
          refine ⟨⟨gk2, offk + e.i * 6, mk, e.d + 1, y, kt, 0, none, 0⟩ :: e :: S', g4, cap4, by rw [HN.out]; rfl, ?_, Nat.le_refl _⟩
          refine HI4.out.push HF.out rfl rfl rfl rfl HKT.out HM.out.symm ?_ HGROW.out ?_
          · have h := HOWN.out
            rw [← List.append_assoc] at h
            rw [← HN.out, List.reverse_cons, List.flatMap_append, show [e].flatMap PA.cells = e.cells by simp]
            exact h
          · rcases HAT.out with h | h
            · exact .inl (by simpa [Value.ownBlock] using h)
            · right
              simp [Value.ownBlock] at h
              simp
              omega
      | false =>
        obtain ⟨hneed, hnl⟩ := take_need e.t e.i HOK.out.more HM.out.symm
        obtain ⟨W, hW⟩ : ∃ W : World, W = wr.drew := ⟨_, rfl⟩
        have k0 : W.cell? ⟨go, n * 4, none⟩ = some (.pointer (some ⟨e.b, e.o, none⟩)) := by rw [hW]; exact g0
        have k3 : W.cell? ⟨go, n * 4 + 3, none⟩ = some (.slice e.q e.i e.kc) := by rw [hW]; exact g3
        have hfacts : FactsR W (PS w1 P' go (e :: S')) e.q e.i e.kc us ((need e.t).map (factOf c)) := by
          have h := HUS.out.rowf HLL.out.symm
          rw [hneed] at h
          rw [hW]
          exact h.under (below_drawn (Below.refl _ _) 1)
        rw [← hW] at hi2 ⊢
        have hlt := hi2.blocks
        have htree : RAt W (fun g => PS w1 P' go (e :: S') g ∧ g < W.heap.size) e.x e.t := (HOK.out.tree.under hi2.below).weak fun g hg hl => by
          rw [HP'.out] at hg
          have h1 := HB1.out.size
          refine ⟨⟨.inl (by rw [HP'.out]; exact hg), by have := hlt.1; omega, fun u hu q => by have := hlt.2 u hu g q; omega⟩, hl⟩
        have hfac2 := hfacts.weak (P' := fun g => PS w1 P' go (e :: S') g ∧ g < W.heap.size) fun g hg hl => ⟨hg, hl⟩
        have HCON : Hid (∀ W2, Below W.heap.size W W2 → Calls Tryz.prog 26 #[.pointer (some ⟨e.b, e.o, none⟩), .slice e.q e.i e.kc, .pointer (some ⟨bx, 0, none⟩)] W2 (GivesFact (fun g => (PS w1 P' go (e :: S') g ∧ g < W.heap.size) ∨ W2.heap.size ≤ g) c e.t W2)) := fun W2 hb =>
          settleD_any W2 c hc bx (HBX.out W2 (hi2.below.trans (hb.mono hi2.below.size))) e.b e.o e.x e.t ((HOK.out.place.under hi2.below).under hb) (htree.under hb) (hfac2.under hb) ((HT1.out.stays hi2.below).stays hb) HOK.out.fit.here (by omega)
        have HI2 := Lib.hid hi2
        have HDA : Hid (Below W.heap.size W W.drew) := below_drawn (Below.refl _ _) 1
        have HDB : Hid (Below W.heap.size W (W.alloc (.cells #[.int .i64 0, .int .u64 0, .int .u64 0, .int .u64 0, .int .u64 0, .slice none 0 0, .bool false] 58)).drew) := below_drawn ((Below.refl _ _).alloc (Nat.le_refl _) _) 1
        have HZN : Hid (∀ w5, Below (W.alloc (.cells #[.int .i64 0, .int .u64 0, .int .u64 0, .int .u64 0, .int .u64 0, .slice none 0 0, .bool false] 58)).drew.heap.size (W.alloc (.cells #[.int .i64 0, .int .u64 0, .int .u64 0, .int .u64 0, .int .u64 0, .slice none 0 0, .bool false] 58)).drew w5 → w5.heap[W.heap.size]? = some (.cells #[.int .i64 0, .int .u64 0, .int .u64 0, .int .u64 0, .int .u64 0, .slice none 0 0, .bool false] 58 (0, 0))) := fun w5 hb => by
          have h := heap_alloc_new W (.cells #[.int .i64 0, .int .u64 0, .int .u64 0, .int .u64 0, .int .u64 0, .slice none 0 0, .bool false] 58)
          exact (hb.block W.heap.size (by show W.heap.size < (W.alloc (.cells #[.int .i64 0, .int .u64 0, .int .u64 0, .int .u64 0, .int .u64 0, .slice none 0 0, .bool false] 58)).heap.size; simp)).trans h
        have k0b : (W.alloc (.cells #[.int .i64 0, .int .u64 0, .int .u64 0, .int .u64 0, .int .u64 0, .slice none 0 0, .bool false] 58)).drew.cell? ⟨go, n * 4, none⟩ = some (.pointer (some ⟨e.b, e.o, none⟩)) := (HDB.out.cell (p := ⟨go, n * 4, none⟩) hlt.1.2).trans k0
        have k3b : (W.alloc (.cells #[.int .i64 0, .int .u64 0, .int .u64 0, .int .u64 0, .int .u64 0, .slice none 0 0, .bool false] 58)).drew.cell? ⟨go, n * 4 + 3, none⟩ = some (.slice e.q e.i e.kc) := (HDB.out.cell (p := ⟨go, n * 4 + 3, none⟩) hlt.1.2).trans k3
        clear hW g0 g1 g2 g3 hm hfacts hfac2 htree hneed hlt hi2 hnl
        go_upto_region 9 with fail
        go_cut [11] from 43 to 53 (fun s11 W2 => ∃ (B : Nat) (y : FV), s11 = .pointer (some ⟨B, 0, none⟩) ∧ Hid (W2.heap[B]? = some (.cells y.cells.toArray 58 (0, 0))) ∧ Hid (InvD w1 P' c D t0 W2 go cap (e :: S')) ∧ Hid (RAt W2 (PS w1 P' go (e :: S')) y.re (derivM c e.t)) ∧ Hid (y.nul = nullM e.t) ∧ w1.heap.size ≤ B)
        case first =>
          go_region_law (first | (go_simp; go_at_call 26; (with_reducible (refine (HCON.out W.drew HDA.out).mono ?_)); rintro _ w5 ⟨y, rfl, hy, hyn, hb5⟩; obtain ⟨⟨e0, e1, e2, e3, e4, q5, m5, cp5⟩, nb⟩ := y; unfold FV.val; have hone : 1 = 1 := rfl; have HY := Lib.hid hy; have HYN := Lib.hid hyn; have HB5 := Lib.hid hb5; clear hy hyn hb5) | (go_simp; go_at_call 26; (with_reducible (refine (HCON.out (W.alloc (.cells #[.int .i64 0, .int .u64 0, .int .u64 0, .int .u64 0, .int .u64 0, .slice none 0 0, .bool false] 58)).drew HDB.out).mono ?_)); rintro _ w5 ⟨y, rfl, hy, hyn, hb5⟩; obtain ⟨⟨e0, e1, e2, e3, e4, q5, m5, cp5⟩, nb⟩ := y; unfold FV.val; have h5B := HZN.out w5 hb5; obtain ⟨⟨x0, x1, x2, x3, x4, x5, x6⟩, f0, f1, f2, f3, f4, f5, f6⟩ := seven_facts h5B; have HH5 := Lib.hid h5B; have HY := Lib.hid hy; have HYN := Lib.hid hyn; have HB5 := Lib.hid hb5; clear hy hyn hb5 h5B) | fail)
          all_goals go_wp2_with fail
          all_goals go_meet
          all_goals first
            | (refine ⟨W.heap.size, ⟨⟨e0, e1, e2, e3, e4, q5, m5, cp5⟩, nb⟩, rfl, ?_⟩; exact mid_set HI2.out HH5.out HB5.out HY.out HYN.out)
            | (refine ⟨w5.heap.size, ⟨⟨e0, e1, e2, e3, e4, q5, m5, cp5⟩, nb⟩, rfl, ?_⟩; exact mid_alloc (y := ⟨⟨e0, e1, e2, e3, e4, q5, m5, cp5⟩, nb⟩) HI2.out HDA.out HB5.out HY.out HYN.out)
        case rest =>
          rename World => w6
          obtain ⟨B, y, rfl, HBC, HI5, HY, HYN, hBw⟩ := hcut
          obtain ⟨⟨e0, e1, e2, e3, e4, q5, m5, cp5⟩, nb⟩ := y
          have hcells : (FV.cells ⟨⟨e0, e1, e2, e3, e4, q5, m5, cp5⟩, nb⟩).toArray = #[.int .i64 e0, .int .u64 e1, .int .u64 e2, .int .u64 e3, .int .u64 e4, .slice q5 m5 cp5, .bool nb] := rfl
          have hbc := HBC.out
          rw [hcells] at hbc
          obtain ⟨⟨b0', b1', b2', b3', b4', b5', b6'⟩, _⟩ := seven_facts hbc
          have HB6 := Lib.hid hbc
          clear hcells hbc
          by_cases hn0 : n = 0
          · subst hn0
            have hlen1 : S'.length + 1 = 0 + 1 := by rw [← HN.out]
            have hlink : e.t = t0 := by
              have h := HI5.out.link
              cases S' with
              | nil => exact h.1
              | cons f S' => simp at hlen1
            have HET := Lib.hid hlink
            have h6D : w6.heap[D0]? = some (.cells #[.int .i64 0, .int .u64 0, .int .u64 0, .int .u64 0, .int .u64 0, .slice none 0 0, .bool false] 58 (0, 0)) := (HI5.out.below.block D0 (by rw [HS1.out]; omega)).trans HND.out
            obtain ⟨⟨d0, d1, d2, d3, d4, d5, d6⟩, j0, j1, j2, j3, j4, j5, j6⟩ := seven_facts h6D
            have H6D := Lib.hid h6D
            clear hlen1 hlink h6D
            go_wp2
            refine bodyPost_ret_by (results_cell_row rfl _ _ D0 58 #[.int .i64 e0, .int .u64 e1, .int .u64 e2, .int .u64 e3, .int .u64 e4, .slice q5 m5 cp5, .bool nb] (0, 0) _ rfl (set7_heap H6D.out _ _ _ _ _ _ _) Tryz.underlying58 rfl (by kernel_rfl)) rfl ?_
            have h1 := HDD.out
            have h2 := HS1.out
            have hyn := HYN.out
            rw [HET.out] at hyn
            refine ⟨⟨⟨e0, e1, e2, e3, e4, q5, m5, cp5⟩, nb⟩, rfl, ?_, hyn, seven_set (HB1.out.trans (HI5.out.below.mono HB1.out.size)) (by omega) _ _ _ _ _ _ _⟩
            have hyt := HY.out
            rw [HET.out] at hyt
            refine hyt.kept (Keeps.of (by simp [World.setCell]) fun z hz _ => ?_)
            obtain ⟨hz, _, _⟩ := hz
            rw [HP'.out] at hz
            refine ⟨seven_ne (by rcases hz with ⟨_, hz⟩ | hz <;> omega) _ _ _ _ _ _ _, ?_⟩
            rcases hz with ⟨hz, _⟩ | hz
            · exact .inl hz
            · exact .inr (by omega)
          · obtain ⟨f, S2, rfl⟩ : ∃ f S2, S' = f :: S2 := by
              cases S' with
              | nil => exact absurd HN.out hn0
              | cons f S2 => exact ⟨f, S2, rfl⟩
            obtain ⟨k, hk⟩ : ∃ k, k = S2.length := ⟨_, rfl⟩
            obtain rfl : n = k + 1 := by rw [HN.out, hk]; rfl
            have hnz : (((k + 1 : Nat) : Int) == 0) = false := by simp; omega
            have hk1 : ((k + 1 : Nat) : Int) - 1 = (k : Int) := by omega
            have hrow6 := HI5.out.row
            rw [show (e :: f :: S2).length = k + 1 + 1 by rw [hk]; rfl, List.reverse_cons, List.reverse_cons, List.flatMap_append, List.flatMap_append] at hrow6
            have hl4b : (S2.reverse.flatMap PA.cells).length = k * 4 := by rw [flat4_len, hk]; simp
            have r3 := row_cell hrow6 (j := k * 4 + 3) (u := .slice f.q f.i f.kc) (by rw [List.append_assoc, List.getElem?_append_right (by omega), hl4b, show k * 4 + 3 - k * 4 = 3 by omega]; rfl)
            have rf3 := own_frozenR hrow6 (k * 4 + 3)
            obtain ⟨usf, husf⟩ := HI5.out.facts f (by simp)
            have hfok := HI5.out.ok f (by simp)
            have hfi := more_le hfok.more
            have hfl : ((f.t.kids.take f.i).map (factOf c)).length = f.i := by rw [List.length_map, List.length_take]; omega
            have hfb : f.i ≤ 1000000001 := by have h1 := kids_len f.t; have h2 := hfok.dep; omega
            have hgo6 : go < w6.heap.size := HI5.out.blocks.1.2
            have hbA : Below w6.heap.size w6 (w6.alloc (.cells #[.int .i64 e0, .int .u64 e1, .int .u64 e2, .int .u64 e3, .int .u64 e4, .slice q5 m5 cp5, .bool nb] 58)).drew := below_drawn ((Below.refl _ _).alloc (Nat.le_refl _) _) 1
            have r3b := (hbA.cell (p := ⟨go, k * 4 + 3, none⟩) hgo6).trans r3
            have hiA : InvD w1 P' c D t0 (w6.alloc (.cells #[.int .i64 e0, .int .u64 e1, .int .u64 e2, .int .u64 e3, .int .u64 e4, .slice q5 m5 cp5, .bool nb] 58)).drew go cap (e :: f :: S2) := HI5.out.under hbA
            have HRF : Hid ((w6.alloc (.cells #[.int .i64 e0, .int .u64 e1, .int .u64 e2, .int .u64 e3, .int .u64 e4, .slice q5 m5 cp5, .bool nb] 58)).drew.ownsRow w1.heap.size 58 7 (.slice f.q f.i f.kc) f.i (usf.flatMap FV.cells)) := by
              have h := (husf.at (Keeps.below hbA) fun g hg => hbA.block g (husf.lt g hg).2).own
              rw [hfl] at h
              exact h
            have HGO : Hid (∀ w8, (w6.alloc (.cells #[.int .i64 e0, .int .u64 e1, .int .u64 e2, .int .u64 e3, .int .u64 e4, .slice q5 m5 cp5, .bool nb] 58)).drew.grownBy w8 (Value.slice f.q f.i f.kc).ownBlock → w8.cell? ⟨go, k * 4 + 3, none⟩ = some (.slice f.q f.i f.kc) ∧ w8.frozen? ⟨go, k * 4 + 3, none⟩ = false) := fun w8 hg => by
              have hfar : f.kv.ownBlock ≠ some go := HI5.out.far f (by simp)
              have e1 : w8.heap[go]? = w6.heap[go]? := (hg.block go (Nat.lt_of_lt_of_le hgo6 hbA.size) fun q => hfar q.symm).trans (hbA.block go hgo6)
              refine ⟨(World.cell?_of_block (a := ⟨go, k * 4 + 3, none⟩) e1).trans r3, ?_⟩
              have h2 := rf3
              unfold World.frozen? at h2 ⊢
              simp only [e1]
              exact h2
            have HUF := Lib.hid husf
            have HFL := Lib.hid hfl
            have HIA := Lib.hid hiA
            have HKL := Lib.hid hk
            have HBA := Lib.hid hbA
            have HR3B := Lib.hid r3b
            have hw16 : w1.heap.size ≤ w6.heap.size := HI5.out.below.size
            clear hrow6 hl4b husf hfok hfi hfl hgo6 hbA hiA hk hn0 rf3
            go_wp2_with fail
            go_region_law (first | (refine step_append_any (by rfl) _ _ _ (by rfl) w1.heap.size 58 i1 _ 7 72 Tryz.underlying56 hi1 hy0 hy1 hy2 rfl (by omega) (.slice f.q f.i f.kc) f.i (usf.flatMap FV.cells) (by rfl) HRF.out ⟨w6.heap.size, 0, none⟩ 1 1 [.int .i64 e0, .int .u64 e1, .int .u64 e2, .int .u64 e3, .int .u64 e4, .slice q5 m5 cp5, .bool nb] (by rfl) (by rfl) (new3 _ _ _ _ rfl) (by intro u hu; simp at hu; rcases hu with rfl | rfl | rfl | rfl | rfl | rfl | rfl <;> rfl) (by omega) (by unfold maxLen; omega) (by omega) (by simp; omega) (w6.heap.size + 1) (by simp) ?_; intro g8 cp8 w8 hown hgrow hat hlt8; obtain ⟨z3, zf3⟩ := HGO.out w8 hgrow; have HOWN := Lib.hid hown; have HGROW := Lib.hid hgrow; have HAT := Lib.hid hat; clear hown hgrow hat) | fail)
            all_goals go_wp2_with fail
            all_goals
              go_roundg (mu (f.told g8 cp8 :: S2))
              case measure =>
                have h1 := mu_pop (e := e) (f := f) (f' := f.told g8 cp8) (S := S2) rfl rfl
                have h2 := HMU.out
                omega
              case rel =>
                refine ⟨f.told g8 cp8 :: S2, go, cap, by rw [HKL.out]; rfl, ?_, Nat.le_refl _⟩
                have hyA := HY.out.under HBA.out
                have hp := HIA.out.pop (us := usf) (HUF.out.at (Keeps.below HBA.out) fun g hg => HBA.out.block g (HUF.out.lt g hg).2) (y := ⟨⟨e0, e1, e2, e3, e4, q5, m5, cp5⟩, nb⟩) hyA HYN.out HGROW.out HOWN.out (HAT.out.imp id fun h => by rw [h]; show (w6.alloc _).heap.size ≤ _; simp)
                rw [← HKL.out] at hp
                first | exact hp | exact hp.under (below_drawn (Below.refl _ _) 1)

end Go.Proofs.YtclnadjgbpihcaaGreatDoor

/-! settled, for whether one derives the empty text: the program's stack. No condition but size. -/
namespace Go.Proofs.YtclnadjgbpihcaaGreatDoor
open Go.RowKit Go.Lib
set_option linter.unusedVariables false
set_option linter.unusedSimpArgs false

theorem infoPartN : (Tryz.prog.info? 86).map (fun i => (i.zero, i.size, i.bytes)) = some (some (.agg #[.pointer none, .pointer none, .int .i64 0, .slice none 0 0]), 4, 48) := by kernel_rfl
theorem partN_parts : ∃ i0, Tryz.prog.info? 86 = some i0 ∧ i0.zero = some (.agg #[.pointer none, .pointer none, .int .i64 0, .slice none 0 0]) ∧ i0.size = 4 ∧ i0.bytes = 48 := by
  have h := infoPartN
  cases e : Tryz.prog.info? 86 with
  | none => rw [e] at h; cases h
  | some j =>
    rw [e] at h
    simp at h
    exact ⟨j, rfl, h.1, h.2.1, h.2.2⟩
theorem bool_parts : ∃ i0, Tryz.prog.info? 4 = some i0 ∧ i0.zero = some (.bool false) ∧ i0.size = 1 ∧ i0.bytes = 1 := by
  have h : (Tryz.prog.info? 4).map (fun i => (i.zero, i.size, i.bytes)) = some (some (.bool false), 1, 1) := by kernel_rfl
  cases e : Tryz.prog.info? 4 with
  | none => rw [e] at h; cases h
  | some j =>
    rw [e] at h
    simp at h
    exact ⟨j, rfl, h.1, h.2.1, h.2.2⟩

set_option maxRecDepth 100000 in
set_option maxHeartbeats 8000000 in
theorem settledN_any {P : Nat → Prop} (w : World) (b0 o0 : Nat) (x0 : ReV) (t0 : RT) (hp0 : PlaceR w b0 o0 x0) (ht0 : RAt w P x0 t0) (hsz0 : t0.sz ≤ 8000000000) :
    Calls Tryz.prog 33 #[.pointer (some ⟨b0, o0, none⟩), .func (.func 34) #[] #[], .func (.func 30) #[] #[]] w (GivesBool (nullM t0) w) := by
  obtain ⟨i0, hi0, hz0, hz1, hz2⟩ := partN_parts
  obtain ⟨i1, hi1, hy0, hy1, hy2⟩ := bool_parts
  obtain ⟨D, hD⟩ : ∃ D, D = t0.sz + 1 := ⟨_, rfl⟩
  have hDb : D ≤ 8000000001 := by omega
  have HOK0 : Hid (PA.OkN w P D ⟨b0, o0, none, 1, x0, t0, 0, none, 0⟩) := ⟨hp0, ht0, .inl rfl, by show 1 + t0.sz ≤ D; omega, fun j hj => by have hj : j < 0 := hj; omega⟩
  have HDE := Lib.hid hD
  obtain ⟨R, hR⟩ : ∃ R, R = nullM t0 := ⟨_, rfl⟩
  rw [← hR]
  have HRE := Lib.hid hR
  clear hp0 ht0 hsz0 hD hR
  go_enter Tryz.func33, Tryz.ntmps33
  go_wp2
  go_loopg [7] (2 * D) (fun gk v wr => ∃ (S : List PA) (go cap : Nat), v = .slice (some ⟨go, 0, none⟩) S.length cap ∧ Hid (InvN w P D t0 wr go cap S) ∧ Hid (mu S ≤ gk))
  case atStart =>
    refine ⟨[⟨b0, o0, none, 1, x0, t0, 0, none, 0⟩], _, _, rfl, ⟨?_, ?_, ?_, ?_, ?_, ?_, ?_⟩, ?_⟩
    · exact (Below.refl _ _).alloc (Nat.le_refl _) _
    · exact row_of_block (Nat.le_refl _) (heap_alloc_new w _) (by unfold maxLen; simp) rfl
    · intro e he
      simp at he
      subst he
      exact HOK0.out
    · intro e he
      simp at he
      subst he
      exact World.ownsRow_nil _ _ _ _
    · intro e he
      simp at he
      subst he
      simp [PA.kv, Value.ownBlock]
    · simp
    · exact ⟨rfl, rfl⟩
    · unfold Hid mu remT
      have := HDE.out
      simp
      omega
  case round =>
    obtain ⟨S, go, cap, rfl, HI, HMU⟩ := hrel
    obtain ⟨e, S', rfl⟩ : ∃ e S', S = e :: S' := by
      cases S with
      | nil => exact absurd HI.out.link (by simp [LinkN])
      | cons e S' => exact ⟨e, S', rfl⟩
    obtain ⟨n, hn⟩ : ∃ n, n = S'.length := ⟨_, rfl⟩
    have HOK := Lib.hid (HI.out.ok e (by simp))
    have hdn : e.d = n + 1 := by rw [hn]; exact LinkN.len HI.out.link
    have hlen : (e :: S').length = n + 1 := by rw [hn]; rfl
    have hrow := HI.out.row
    rw [hlen, List.reverse_cons, List.flatMap_append] at hrow
    have hl4 : (S'.reverse.flatMap PA.cells).length = n * 4 := by rw [flat4_len, hn]; simp
    have g0 := row_cell hrow (j := n * 4) (u := .pointer (some ⟨e.b, e.o, none⟩)) (by rw [List.getElem?_append_right (by omega), hl4, Nat.sub_self]; rfl)
    have g1 := row_cell hrow (j := n * 4 + 1) (u := .pointer e.m) (by rw [List.getElem?_append_right (by omega), hl4, show n * 4 + 1 - n * 4 = 1 by omega]; rfl)
    have g2 := row_cell hrow (j := n * 4 + 2) (u := .int .i64 e.d) (by rw [List.getElem?_append_right (by omega), hl4, show n * 4 + 2 - n * 4 = 2 by omega]; rfl)
    have g3 := row_cell hrow (j := n * 4 + 3) (u := .slice e.q e.i e.kc) (by rw [List.getElem?_append_right (by omega), hl4, show n * 4 + 3 - n * 4 = 3 by omega]; rfl)
    obtain ⟨q1, q2, q3, q4⟩ := row_base hrow
    have hfa := HI.out.facts e (by simp)
    have hle := moreN_le HOK.out.more
    have hll := saidN_len HOK.out
    have hrb := rowb_of hfa hll.symm
    have hdep := HOK.out.dep
    have hsz := sz_pos e.t
    have hkb : e.i ≤ 8000000001 := by have := kids_len e.t; omega
    have hdr : Below wr.heap.size wr wr.drew := below_drawn (Below.refl _ _) 1
    have hm := isopen_any wr.drew e.b e.o e.x e.t ((HOK.out.place.under HI.out.below).under hdr) ((HOK.out.tree.under HI.out.below).under hdr) (hrb.under hdr) (by omega) (fun h0 => by
      obtain ⟨u2, h2⟩ : ∃ u2, e.t.kids[e.i - 1]? = some u2 := ⟨_, List.getElem?_eq_getElem (by omega)⟩
      unfold saidN
      rw [List.getElem?_map, List.getElem?_take, if_pos (by omega), List.getD_eq_getElem?_getD, h2]
      rfl)
    obtain ⟨M, hM⟩ : ∃ M, M = moreN e.t e.i := ⟨_, rfl⟩
    rw [← hM] at hm
    have HM := Lib.hid hM
    have HFA := Lib.hid hfa
    have HLL := Lib.hid hll
    have HRB := Lib.hid hrb
    have HROW := Lib.hid hrow
    have HL4 := Lib.hid hl4
    have HN := Lib.hid hn
    have HDR := Lib.hid hdr
    have hn1 : ((n + 1 : Nat) : Int) - 1 = (n : Int) := by omega
    have hnb : n + 1 ≤ 8000000001 := by omega
    have hdb : e.d ≤ 8000000001 := by omega
    clear hdn
    rw [hlen]
    clear hfa hrb hll hrow hl4 hn hM hle hlen hdr
    go_upto_region 3 with fail
    go_cut [30] from 21 to 31 (fun s30 W => s30 = .bool M ∧ W = wr.drew)
    case first =>
      go_region_law (first | (go_simp; go_at_call 34; (with_reducible (refine hm.mono ?_)); rintro _ _ ⟨rfl, rfl⟩) | fail)
      all_goals (go_wp2_with fail; go_meet; exact ⟨rfl, rfl⟩)
    case rest =>
      obtain ⟨rfl, rfl⟩ := hcut
      have hi2 : InvN w P D t0 wr.drew go cap (e :: S') := HI.out.under HDR.out
      cases M with
      | true =>
        obtain ⟨kt, hkt⟩ : ∃ kt, e.t.kids[e.i]? = some kt := ⟨_, List.getElem?_eq_getElem (moreN_lt HM.out.symm)⟩
        obtain ⟨vs, et, hok, hkids⟩ := HOK.out.tree.kids
        have hil : e.i < e.t.kids.length := (List.getElem?_eq_some_iff.1 hkt).1
        have hxn : e.x.n = e.t.kids.length := hkids.num
        obtain ⟨gk2, offk, hxp⟩ := hkids.rowv.some_of (i := e.i) (by omega)
        obtain ⟨y, hy⟩ : ∃ y, vs[e.i]? = some y := ⟨_, List.getElem?_eq_getElem (by rw [hkids.len]; exact hil)⟩
        have hktree := hkids.each e.i y kt hy hkt
        have hkplace : PlaceR w gk2 (offk + e.i * 6) y := by rw [hxp] at hkids; exact hkids.place hy
        have hksz : kt.sz < e.t.sz := kids_sz (List.mem_of_getElem? hkt)
        obtain ⟨mk, hmk⟩ : ∃ mk, mk = markK e.b e.o e.m e.d := ⟨_, rfl⟩
        have hmark : MarkR w mk kt.sz := by
          rw [hmk]
          unfold markK
          split
          · exact .inr ⟨e.b, e.o, e.x, e.t, rfl, HOK.out.place, HOK.out.tree.weak fun _ _ _ => trivial, hksz⟩
          · exact HOK.out.mark.less (by omega)
        have HF : Hid (PA.OkN w P D ⟨gk2, offk + e.i * 6, mk, e.d + 1, y, kt, 0, none, 0⟩) := ⟨hkplace, hktree, hmark, by show e.d + 1 + kt.sz ≤ D; omega, fun j hj => by have hj : j < 0 := hj; omega⟩
        obtain ⟨W, hW⟩ : ∃ W : World, W = wr.drew := ⟨_, rfl⟩
        have k0 : W.cell? ⟨go, n * 4, none⟩ = some (.pointer (some ⟨e.b, e.o, none⟩)) := by rw [hW]; exact g0
        have k1 : W.cell? ⟨go, n * 4 + 1, none⟩ = some (.pointer e.m) := by rw [hW]; exact g1
        have k2 : W.cell? ⟨go, n * 4 + 2, none⟩ = some (.int .i64 e.d) := by rw [hW]; exact g2
        have k3 : W.cell? ⟨go, n * 4 + 3, none⟩ = some (.slice e.q e.i e.kc) := by rw [hW]; exact g3
        rw [← hW] at hi2
        have c1 := nextB_any W go (n * 4) e.b e.o e.d e.i e.kc e.m e.q e.x gk2 offk k0 k1 k2 k3 (HOK.out.place.under hi2.below) hxp (by omega) (by omega)
        rw [← hmk] at c1
        rw [← hW]
        have HI2 := Lib.hid hi2
        have HKT := Lib.hid hkt
        clear hi2 hkt et hok hkids hy hktree hkplace hmark hmk hW k0 k1 k2 k3 g0 g1 g2 g3 hm hxp vs
        go_wp2_with fail
        ((with_reducible refine c1.mono ?_))
        rintro _ w2 ⟨rfl, hb2⟩
        have hi3 : InvN w P D t0 (w2.alloc (.cells #[.pointer (some ⟨gk2, offk + e.i * 6, none⟩), .pointer mk, .int .i64 ((e.d : Int) + 1), .slice none 0 0] 86)) go cap (e :: S') := (HI2.out.under hb2).under ((Below.refl _ _).alloc (Nat.le_refl _) _)
        have hpe := eql_markD HF.out.mark HF.out.place HF.out.tree hi3.below
        have HI3 := Lib.hid hi3
        have hi4 : InvN w P D t0 ((w2.alloc (.cells #[.pointer (some ⟨gk2, offk + e.i * 6, none⟩), .pointer mk, .int .i64 ((e.d : Int) + 1), .slice none 0 0] 86)).alloc (.cells #[.pointer (some ⟨gk2, offk + e.i * 6, none⟩), .pointer mk, .int .i64 ((e.d : Int) + 1), .slice none 0 0] 86)) go cap (e :: S') := hi3.under ((Below.refl _ _).alloc (Nat.le_refl _) _)
        have HI4 := Lib.hid hi4
        have HRW : Hid (((w2.alloc (.cells #[.pointer (some ⟨gk2, offk + e.i * 6, none⟩), .pointer mk, .int .i64 ((e.d : Int) + 1), .slice none 0 0] 86)).alloc (.cells #[.pointer (some ⟨gk2, offk + e.i * 6, none⟩), .pointer mk, .int .i64 ((e.d : Int) + 1), .slice none 0 0] 86)).ownsRow w.heap.size 86 4 (.slice (some ⟨go, 0, none⟩) (n + 1) cap) (n + 1) ((e :: S').reverse.flatMap PA.cells)) := by
          have h := hi4.row
          rw [show (e :: S').length = n + 1 by rw [HN.out]; rfl] at h
          exact h
        have hw2 : w.heap.size ≤ w2.heap.size := by have := (HI2.out.under hb2).below.size; exact this
        clear hb2 c1 hi3 hi4
        go_wp2_with (at_builtin; go_loud (refine wpList_append_own_at _ rfl _ _ 87 rfl w.heap.size 86 i0 _ 4 48 Tryz.underlying87 hi0 hz0 hz1 hz2 rfl (by decide) _ _ _ rfl HRW.out ⟨w2.heap.size + 1, 0, none⟩ 1 1 [.pointer (some ⟨gk2, offk + e.i * 6, none⟩), .pointer mk, .int .i64 ((e.d : Int) + 1), .slice none 0 0] rfl rfl ?c1 ?c2 ?c3 ?c4 ?c5 ?_))
        case c1 =>
          have h := new3 (w2.alloc (.cells #[.pointer (some ⟨gk2, offk + e.i * 6, none⟩), .pointer mk, .int .i64 ((e.d : Int) + 1), .slice none 0 0] 86)) #[.pointer (some ⟨gk2, offk + e.i * 6, none⟩), .pointer mk, .int .i64 ((e.d : Int) + 1), .slice none 0 0] 86 [.pointer (some ⟨gk2, offk + e.i * 6, none⟩), .pointer mk, .int .i64 ((e.d : Int) + 1), .slice none 0 0] rfl
          rw [show (w2.alloc (.cells #[.pointer (some ⟨gk2, offk + e.i * 6, none⟩), .pointer mk, .int .i64 ((e.d : Int) + 1), .slice none 0 0] 86)).heap.size = w2.heap.size + 1 by simp] at h
          exact h
        case c2 => intro x hx; simp at hx; rcases hx with rfl | rfl | rfl | rfl <;> rfl
        case c3 => unfold maxLen; omega
        case c4 => omega
        case c5 => simp; omega
        intro v' w4 hown hgrow _ hat
        obtain ⟨g4, cap4, rfl⟩ := (row_forms hown).resolve_left (fun h => by cases h.2)
        have HOWN := Lib.hid hown
        have HGROW := Lib.hid hgrow
        have HAT := Lib.hid hat
        clear hown hgrow hat
        go_wp2
        go_roundg (mu (⟨gk2, offk + e.i * 6, mk, e.d + 1, y, kt, 0, none, 0⟩ :: e :: S'))
        case measure =>
          have h1 := mu_push (e := e) (f := ⟨gk2, offk + e.i * 6, mk, e.d + 1, y, kt, 0, none, 0⟩) (S := S') HKT.out rfl
          have h2 := HMU.out
          omega
        case rel =>
          refine ⟨⟨gk2, offk + e.i * 6, mk, e.d + 1, y, kt, 0, none, 0⟩ :: e :: S', g4, cap4, by rw [HN.out]; rfl, ?_, Nat.le_refl _⟩
          refine HI4.out.push HF.out rfl rfl rfl rfl HKT.out HM.out.symm ?_ HGROW.out ?_
          · have h := HOWN.out
            rw [← List.append_assoc] at h
            rw [← HN.out, List.reverse_cons, List.flatMap_append, show [e].flatMap PA.cells = e.cells by simp]
            exact h
          · rcases HAT.out with h | h
            · exact .inl (by simpa [Value.ownBlock] using h)
            · right
              simp [Value.ownBlock] at h
              simp
              omega
      | false =>
        have hset := settleN_any wr.drew.drew e.b e.o e.x e.t ((HOK.out.place.under hi2.below).under (below_drawn (Below.refl _ _) 1)) ((HOK.out.tree.under hi2.below).under (below_drawn (Below.refl _ _) 1)) ((HRB.out.under HDR.out).under (below_drawn (Below.refl _ _) 1)) (by omega) HOK.out.more HM.out.symm
        obtain ⟨W, hW⟩ : ∃ W : World, W = wr.drew := ⟨_, rfl⟩
        have k0 : W.cell? ⟨go, n * 4, none⟩ = some (.pointer (some ⟨e.b, e.o, none⟩)) := by rw [hW]; exact g0
        have k3 : W.cell? ⟨go, n * 4 + 3, none⟩ = some (.slice e.q e.i e.kc) := by rw [hW]; exact g3
        rw [← hW] at hi2 hset ⊢
        obtain ⟨N, hNN⟩ : ∃ N, N = nullM e.t := ⟨_, rfl⟩
        rw [← hNN] at hset
        have HNN := Lib.hid hNN
        have hi3 : InvN w P D t0 W.drew go cap (e :: S') := hi2.under (below_drawn (Below.refl _ _) 1)
        have HI3 := Lib.hid hi3
        clear hW g0 g1 g2 g3 hm hi2 hi3 hNN
        go_upto_region 9 with fail
        go_cut [11] from 43 to 53 (fun s11 W2 => s11 = .bool N ∧ W2 = W.drew)
        case first =>
          go_region_law (first | (go_simp; go_at_call 30; (with_reducible (refine hset.mono ?_)); rintro _ _ ⟨rfl, rfl⟩) | fail)
          all_goals (go_wp2_with fail; go_meet; exact ⟨rfl, rfl⟩)
        case rest =>
          obtain ⟨rfl, rfl⟩ := hcut
          obtain ⟨w6, hw6⟩ : ∃ w6 : World, w6 = W.drew := ⟨_, rfl⟩
          rw [← hw6] at HI3 ⊢
          clear hw6 k0 k3 hset
          by_cases hn0 : n = 0
          · subst hn0
            have hlen1 : S'.length + 1 = 0 + 1 := by rw [← HN.out]
            have hlink : e.t = t0 := by
              have h := HI3.out.link
              cases S' with
              | nil => exact h.1
              | cons f S' => simp at hlen1
            have HET := Lib.hid hlink
            clear hlen1 hlink
            go_wp2
            go_ret
            refine ⟨?_, HI3.out.below⟩
            rw [HRE.out, ← HET.out, ← HNN.out]
            rfl
          · obtain ⟨f, S2, rfl⟩ : ∃ f S2, S' = f :: S2 := by
              cases S' with
              | nil => exact absurd HN.out hn0
              | cons f S2 => exact ⟨f, S2, rfl⟩
            obtain ⟨k, hk⟩ : ∃ k, k = S2.length := ⟨_, rfl⟩
            obtain rfl : n = k + 1 := by rw [HN.out, hk]; rfl
            have hnz : (((k + 1 : Nat) : Int) == 0) = false := by simp; omega
            have hk1 : ((k + 1 : Nat) : Int) - 1 = (k : Int) := by omega
            have hrow6 := HI3.out.row
            rw [show (e :: f :: S2).length = k + 1 + 1 by rw [hk]; rfl, List.reverse_cons, List.reverse_cons, List.flatMap_append, List.flatMap_append] at hrow6
            have hl4b : (S2.reverse.flatMap PA.cells).length = k * 4 := by rw [flat4_len, hk]; simp
            have r3 := row_cell hrow6 (j := k * 4 + 3) (u := .slice f.q f.i f.kc) (by rw [List.append_assoc, List.getElem?_append_right (by omega), hl4b, show k * 4 + 3 - k * 4 = 3 by omega]; rfl)
            have rf3 := own_frozenR hrow6 (k * 4 + 3)
            have hff := HI3.out.facts f (by simp)
            have hfok := HI3.out.ok f (by simp)
            have hfi := moreN_le hfok.more
            have hfb : f.i ≤ 8000000001 := by have h1 := kids_len f.t; have h2 := hfok.dep; omega
            have hgo6 : go < w6.heap.size := HI3.out.blocks.1.2
            have hbA : Below w6.heap.size w6 (w6.alloc (.cells #[.bool N] 4)) := (Below.refl _ _).alloc (Nat.le_refl _) _
            have HRF : Hid ((w6.alloc (.cells #[.bool N] 4)).ownsRow w.heap.size 4 1 (.slice f.q f.i f.kc) f.i (bcells (saidN f))) := row_at hff fun g hg => hbA.block g (row_lt hff g hg).2
            have HGO : Hid (∀ w8, (w6.alloc (.cells #[.bool N] 4)).grownBy w8 (Value.slice f.q f.i f.kc).ownBlock → w8.cell? ⟨go, k * 4 + 3, none⟩ = some (.slice f.q f.i f.kc) ∧ w8.frozen? ⟨go, k * 4 + 3, none⟩ = false) := fun w8 hg => by
              have hfar : f.kv.ownBlock ≠ some go := HI3.out.far f (by simp)
              have e1 : w8.heap[go]? = w6.heap[go]? := (hg.block go (Nat.lt_of_lt_of_le hgo6 hbA.size) fun q => hfar q.symm).trans (hbA.block go hgo6)
              refine ⟨(World.cell?_of_block (a := ⟨go, k * 4 + 3, none⟩) e1).trans r3, ?_⟩
              have h2 := rf3
              unfold World.frozen? at h2 ⊢
              simp only [e1]
              exact h2
            have HIA := Lib.hid (HI3.out.under hbA)
            have HKL := Lib.hid hk
            have hw16 : w.heap.size ≤ w6.heap.size := HI3.out.below.size
            clear hrow6 hl4b hff hfok hfi hgo6 hbA hk hn0 rf3
            go_wp2_with (at_builtin; go_loud (refine wpList_append_own_at _ rfl _ _ 47 rfl w.heap.size 4 i1 _ 1 1 Tryz.underlying47 hi1 hy0 hy1 hy2 rfl (by decide) _ _ _ rfl HRF.out ⟨w6.heap.size, 0, none⟩ 1 1 [.bool N] rfl rfl (new3 _ _ _ _ rfl) ?c2 ?c3 ?c4 ?c5 ?_))
            case c2 => intro x hx; simp at hx; subst hx; rfl
            case c3 => unfold maxLen; omega
            case c4 => omega
            case c5 => simp; omega
            intro v' w8 hown hgrow _ hat
            obtain ⟨g8, cp8, rfl⟩ := (row_forms hown).resolve_left (fun h => by cases h.2)
            obtain ⟨z3, zf3⟩ := HGO.out w8 hgrow
            have HOWN := Lib.hid hown
            have HGROW := Lib.hid hgrow
            have HAT := Lib.hid hat
            clear hown hgrow hat
            go_wp2_with fail
            go_roundg (mu (f.told g8 cp8 :: S2))
            case measure =>
              have h1 := mu_pop (e := e) (f := f) (f' := f.told g8 cp8) (S := S2) rfl rfl
              have h2 := HMU.out
              omega
            case rel =>
              refine ⟨f.told g8 cp8 :: S2, go, cap, by rw [HKL.out]; rfl, ?_, Nat.le_refl _⟩
              have hown := HOWN.out
              rw [HNN.out] at hown
              have hp := HIA.out.pop HGROW.out hown (by
                rcases HAT.out with h | h
                · exact .inl (show (Value.slice f.q f.i f.kc).ownBlock = some g8 from h.symm)
                · right
                  simp [Value.ownBlock] at h
                  simp
                  omega)
              rw [← HKL.out] at hp
              exact hp

end Go.Proofs.YtclnadjgbpihcaaGreatDoor

/-! The program's Deriv. No condition but the library's table, sizes and depths. -/
namespace Go.Proofs.YtclnadjgbpihcaaGreatDoor
open Go.RowKit Go.Lib
set_option linter.unusedVariables false
set_option linter.unusedSimpArgs false

theorem fieldD (k a b c d : Int) (p : Option Addr) (n cap : Nat) (nb : Bool) (w : World) : (Instr.field 58 (.agg #[.int .i64 k, .int .u64 a, .int .u64 b, .int .u64 c, .int .u64 d, .slice p n cap, .bool nb]) 0).run Tryz.prog w = .ok (.agg #[.int .i64 k, .int .u64 a, .int .u64 b, .int .u64 c, .int .u64 d, .slice p n cap]) w := by
  kernel_rfl

set_option maxRecDepth 100000 in
set_option maxHeartbeats 8000000 in
theorem deriv_any {P : Nat → Prop} (w : World) (c : Nat) (hc : c < 256) (x : ReV) (t : RT) (ht : RAt w P x t) (hT : Tab1 w) (hf : FitA c t) (hsz : t.sz ≤ 1000000000) :
    Calls Tryz.prog 16 #[x.val, .int .i64 (c : Int)] w (GivesRe (fun g => P g ∨ w.heap.size ≤ g) (derivM c t) w) := by
  obtain ⟨R, hR⟩ : ∃ R, R = derivM c t := ⟨_, rfl⟩
  have HRE := Lib.hid hR
  obtain ⟨k, a, b, c', d, p, n, cap⟩ := x
  unfold ReV.val
  simp only []
  obtain ⟨B0, hB0⟩ : ∃ B0, B0 = w.heap.size := ⟨_, rfl⟩
  obtain ⟨w3, hw3⟩ : ∃ w3 : World, w3 = ((w.alloc (.cells #[.int .i64 k, .int .u64 a, .int .u64 b, .int .u64 c', .int .u64 d, .slice p n cap] 28)).alloc (.cells #[.int .i64 (c : Int)] 3)).alloc (.cells #[.int .i64 0, .int .u64 0, .int .u64 0, .int .u64 0, .int .u64 0, .slice none 0 0] 28) := ⟨_, rfl⟩
  have hb3 : Below w.heap.size w w3 := by rw [hw3]; exact (((Below.refl _ _).alloc (Nat.le_refl _) _).alloc (by simp) _).alloc (by simp; omega) _
  have h0 : w3.heap[B0]? = some (.cells #[.int .i64 k, .int .u64 a, .int .u64 b, .int .u64 c', .int .u64 d, .slice p n cap] 28 (0, 0)) := by
    rw [hw3, hB0]
    exact (@heap_alloc_old _ _ _ (by simp; omega)).trans ((@heap_alloc_old _ _ _ (by simp)).trans (heap_alloc_new w _))
  have h1 : w3.heap[B0 + 1]? = some (.cells #[.int .i64 (c : Int)] 3 (0, 0)) := by rw [hw3, hB0]; exact mid_new w _ _ _
  have h2 : w3.heap[B0 + 1 + 1]? = some (.cells #[.int .i64 0, .int .u64 0, .int .u64 0, .int .u64 0, .int .u64 0, .slice none 0 0] 28 (0, 0)) := by rw [hw3, hB0]; exact end_new w _ _ _
  have hs3 : w3.heap.size = B0 + 3 := by rw [hw3, hB0]; simp
  have hp3 : PlaceR w3 B0 0 ⟨k, a, b, c', d, p, n, cap⟩ := ⟨⟨_, _, by decide, h0⟩, fun j u hj => by rw [Nat.zero_add]; simp only [World.cell?, h0]; simpa [ReV.cells] using hj⟩
  have hbx : w3.cell? ⟨B0 + 1, 0, none⟩ = some (.int .i64 (c : Int)) := by simp [World.cell?, h1]
  have con := settledD_any w3 c hc (B0 + 1) hbx B0 0 _ t hp3 ((ht.weak fun g hg hl => (⟨hg, hl⟩ : P g ∧ g < w.heap.size)).under hb3) (hT.stays hb3) hf hsz
  have HB3 := Lib.hid hb3
  have H2 := Lib.hid h2
  have HW3 := Lib.hid hw3
  have HBB := Lib.hid hB0
  have HS3 := Lib.hid hs3
  clear ht hT hf hsz hb3 h0 h1 h2 hw3 hB0 hs3 hp3 hbx hR
  go_enter Tryz.func16, Tryz.ntmps16
  go_wp2_with fail
  rw [← HBB.out, ← HW3.out]
  ((with_reducible refine con.mono ?_))
  rintro _ w5 ⟨y, rfl, hy, hyn, hb5⟩
  obtain ⟨⟨e0, e1, e2, e3, e4, q5, m5, cp5⟩, nb⟩ := y
  have h5 : w5.heap[B0 + 1 + 1]? = some (.cells #[.int .i64 0, .int .u64 0, .int .u64 0, .int .u64 0, .int .u64 0, .slice none 0 0] 28 (0, 0)) := (hb5.block _ (by rw [HS3.out]; omega)).trans H2.out
  obtain ⟨⟨d0, d1, d2, d3, d4, d5⟩, f0, f1, f2, f3, f4, f5⟩ := zero_facts h5
  have H5 := Lib.hid h5
  have HY := Lib.hid hy
  have HB5 := Lib.hid hb5
  clear hy hyn hb5 h5 con
  unfold FV.val
  have hfd := fun w => fieldD e0 e1 e2 e3 e4 q5 m5 cp5 nb w
  go_wp2
  refine bodyPost_ret_by (results_cell_row rfl _ _ (B0 + 1 + 1) 28 #[.int .i64 e0, .int .u64 e1, .int .u64 e2, .int .u64 e3, .int .u64 e4, .slice q5 m5 cp5] (0, 0) _ rfl (set6_heap H5.out _ _ _ _ _ _) Tryz.underlying28 rfl (by kernel_rfl)) rfl ?_
  have h1 := HBB.out
  have h2 := HS3.out
  refine ⟨⟨e0, e1, e2, e3, e4, q5, m5, cp5⟩, rfl, ?_, six_set (HB3.out.trans (HB5.out.mono HB3.out.size)) (by omega) _ _ _ _ _ _⟩
  refine HY.out.kept (Keeps.of (by simp [World.setCell]) fun z hz _ => ?_)
  refine ⟨six_ne (by rcases hz with ⟨_, hz⟩ | hz <;> omega) _ _ _ _ _ _, ?_⟩
  rcases hz with ⟨hz, _⟩ | hz
  · exact .inl hz
  · exact .inr (by omega)

end Go.Proofs.YtclnadjgbpihcaaGreatDoor

/-! The program's Nullable and Match. No condition but the library's table, sizes and depths. -/
namespace Go.Proofs.YtclnadjgbpihcaaGreatDoor
open Go.RowKit Go.Lib
set_option linter.unusedVariables false
set_option linter.unusedSimpArgs false

set_option maxRecDepth 100000 in
set_option maxHeartbeats 8000000 in
theorem nullable_any {P : Nat → Prop} (w : World) (x : ReV) (t : RT) (ht : RAt w P x t) (hsz : t.sz ≤ 8000000000) :
    Calls Tryz.prog 17 #[x.val] w (GivesBool (nullM t) w) := by
  obtain ⟨k, a, b, c, d, p, n, cap⟩ := x
  unfold ReV.val
  simp only []
  have hb1 : Below w.heap.size w (w.alloc (.cells #[.int .i64 k, .int .u64 a, .int .u64 b, .int .u64 c, .int .u64 d, .slice p n cap] 28)) := (Below.refl _ _).alloc (Nat.le_refl _) _
  have h0 := heap_alloc_new w (.cells #[.int .i64 k, .int .u64 a, .int .u64 b, .int .u64 c, .int .u64 d, .slice p n cap] 28)
  have hp : PlaceR (w.alloc (.cells #[.int .i64 k, .int .u64 a, .int .u64 b, .int .u64 c, .int .u64 d, .slice p n cap] 28)) w.heap.size 0 ⟨k, a, b, c, d, p, n, cap⟩ := ⟨⟨_, _, by decide, h0⟩, fun j u hj => by rw [Nat.zero_add]; simp only [World.cell?, h0]; simpa [ReV.cells] using hj⟩
  have con := settledN_any _ w.heap.size 0 _ t hp (ht.under hb1) hsz
  obtain ⟨R, hR⟩ : ∃ R, R = nullM t := ⟨_, rfl⟩
  rw [← hR] at con ⊢
  have HB1 := Lib.hid hb1
  clear ht hsz hb1 h0 hp hR
  go_enter Tryz.func17, Tryz.ntmps17
  go_wp2_with fail
  ((with_reducible refine con.mono ?_))
  rintro _ w5 ⟨rfl, hb5⟩
  have HB5 : Hid (Below w.heap.size w w5) := HB1.out.trans (hb5.mono HB1.out.size)
  clear hb5 con
  go_wp2
  go_ret
  exact ⟨rfl, HB5.out⟩

/-- What Match asks of each step. -/
def FitM : RT → List Nat → Prop
  | t, [] => t.sz ≤ 8000000000
  | t, c :: l => FitA c t ∧ t.sz ≤ 1000000000 ∧ FitM (derivM c t) l
theorem none_ders {t : RT} (h : t.kind = 0) : ∀ l, nullM (dersM t l) = false := by
  intro l
  induction l generalizing t with
  | nil => exact null_none h
  | cons c l ih =>
    refine ih ?_
    obtain ⟨k, s, kids⟩ := t
    simp only [RT.kind] at h
    subst h
    show (derivM c (.mk 0 s kids)).kind = 0
    rw [deriv_mk]
    rfl

theorem set6_any {W : World} {D : Nat} {cs : List Value} {t : TypeId} (h : W.heap[D]? = some (.cells cs.toArray t (0, 0))) (hl : cs.length = 6) (a b c d e f : Value) :
    ((((((W.setCell ⟨D, 0, none⟩ a).setCell ⟨D, 1, none⟩ b).setCell ⟨D, 2, none⟩ c).setCell ⟨D, 3, none⟩ d).setCell ⟨D, 4, none⟩ e).setCell ⟨D, 5, none⟩ f).heap[D]? = some (.cells #[a, b, c, d, e, f] t (0, 0)) := by
  match cs, hl with
  | [x0, x1, x2, x3, x4, x5], _ => exact set6_heap h a b c d e f
theorem six_facts {W : World} {D : Nat} {x0 x1 x2 x3 x4 x5 : Value} {t : TypeId} (h : W.heap[D]? = some (.cells #[x0, x1, x2, x3, x4, x5] t (0, 0))) :
    (W.cell? ⟨D, 0, none⟩ = some x0 ∧ W.cell? ⟨D, 1, none⟩ = some x1 ∧ W.cell? ⟨D, 2, none⟩ = some x2 ∧ W.cell? ⟨D, 3, none⟩ = some x3 ∧ W.cell? ⟨D, 4, none⟩ = some x4 ∧ W.cell? ⟨D, 5, none⟩ = some x5) ∧
    (W.frozen? ⟨D, 0, none⟩ = false ∧ W.frozen? ⟨D, 1, none⟩ = false ∧ W.frozen? ⟨D, 2, none⟩ = false ∧ W.frozen? ⟨D, 3, none⟩ = false ∧ W.frozen? ⟨D, 4, none⟩ = false ∧ W.frozen? ⟨D, 5, none⟩ = false) :=
  ⟨⟨by simp [World.cell?, h], by simp [World.cell?, h], by simp [World.cell?, h], by simp [World.cell?, h], by simp [World.cell?, h], by simp [World.cell?, h]⟩, frozen_no h 0, frozen_no h 1, frozen_no h 2, frozen_no h 3, frozen_no h 4, frozen_no h 5⟩
def byteL (S : ByteArray) : List Nat := S.data.toList.map UInt8.toNat

set_option maxRecDepth 100000 in
set_option maxHeartbeats 8000000 in
theorem match_any {P : Nat → Prop} (w : World) (x : ReV) (t : RT) (S : ByteArray) (ht : RAt w P x t) (hT : Tab1 w) (hf : FitM t (byteL S)) (hS : S.size ≤ 1000000000) :
    Calls Tryz.prog 8 #[x.val, .string S] w (GivesBool (nullM (dersM t (byteL S))) w) := by
  obtain ⟨R, hR⟩ : ∃ R, R = nullM (dersM t (byteL S)) := ⟨_, rfl⟩
  rw [← hR]
  obtain ⟨k, a, b, c, d, p, n, cap⟩ := x
  unfold ReV.val
  simp only []
  obtain ⟨R0, hR0⟩ : ∃ R0, R0 = w.heap.size := ⟨_, rfl⟩
  obtain ⟨N, hN⟩ : ∃ N, N = S.size := ⟨_, rfl⟩
  have hNb : N ≤ 1000000000 := by omega
  have hN2 := hN.symm
  have hbl : (byteL S).length = N := by unfold byteL; rw [List.length_map, hN]; rfl
  obtain ⟨w1, hw1⟩ : ∃ w1 : World, w1 = w.alloc (.cells #[.int .i64 k, .int .u64 a, .int .u64 b, .int .u64 c, .int .u64 d, .slice p n cap] 28) := ⟨_, rfl⟩
  have hb1 : Below w.heap.size w w1 := by rw [hw1]; exact (Below.refl _ _).alloc (Nat.le_refl _) _
  have h0 : w1.heap[R0]? = some (.cells #[.int .i64 k, .int .u64 a, .int .u64 b, .int .u64 c, .int .u64 d, .slice p n cap] 28 (0, 0)) := by rw [hw1, hR0]; exact heap_alloc_new _ _
  have hs1 : w1.heap.size = R0 + 1 := by rw [hw1, hR0]; simp
  obtain ⟨Q, hQ⟩ : ∃ Q : Nat → Prop, Q = fun g => (P g ∧ g < w.heap.size) ∨ R0 < g := ⟨_, rfl⟩
  have ht1 : RAt w1 Q ⟨k, a, b, c, d, p, n, cap⟩ t := by rw [hQ]; exact ((ht.weak fun g hg hl => (⟨hg, hl⟩ : P g ∧ g < w.heap.size)).under hb1).weak fun g hg hl => .inl hg
  have HT1 := Lib.hid hT
  have HF0 : Hid (FitM t ((byteL S).drop 0)) := hf
  have HRR : Hid (R = nullM (dersM t ((byteL S).drop 0))) := hR
  have HTR := Lib.hid ht1
  have HB1 := Lib.hid hb1
  have H0 := Lib.hid h0
  have HW1 := Lib.hid hw1
  have HR0 := Lib.hid hR0
  have HS1 := Lib.hid hs1
  have HQ := Lib.hid hQ
  have HBL := Lib.hid hbl
  have HNS := Lib.hid hN
  clear ht hT hf hS hR hb1 h0 hw1 hR0 hs1 hQ ht1 hbl hN
  go_enter Tryz.func8, Tryz.ntmps8
  go_wp2
  rw [← HW1.out, ← HR0.out]
  go_loopg [5] N (fun gk v wr => ∃ (i : Nat) (k a b c d : Int) (p : Option Addr) (n cap : Nat) (u : RT), v = .int .i64 (i : Int) ∧ i ≤ N ∧ N - i ≤ gk ∧ Hid (Below w.heap.size w wr) ∧ Hid (wr.heap[R0]? = some (.cells #[.int .i64 k, .int .u64 a, .int .u64 b, .int .u64 c, .int .u64 d, .slice p n cap] 28 (0, 0))) ∧ Hid (RAt wr Q ⟨k, a, b, c, d, p, n, cap⟩ u) ∧ Hid (FitM u ((byteL S).drop i)) ∧ Hid (R = nullM (dersM u ((byteL S).drop i))))
  case atStart => exact ⟨0, k, a, b, c, d, p, n, cap, t, rfl, by omega, by omega, HB1.out, H0.out, HTR.out, HF0.out, HRR.out⟩
  case round =>
    obtain ⟨i, k, a, b, c, d, p, n, cap, u, rfl, hi, hgk, HB, HR6, HU, HFM, HRI⟩ := hrel
    obtain ⟨⟨c0, c1, c2, c3, c4, c5⟩, _⟩ := six_facts HR6.out
    have hkd : u.kind = k := by
      obtain ⟨_, e, _⟩ := HU.out.kids
      rw [e]
      rfl
    have HKD := Lib.hid hkd
    have hRl : R0 < wr.heap.size := (Array.getElem?_eq_some_iff.1 HR6.out).1
    have HRL := Lib.hid hRl
    clear hkd hRl
    by_cases hlt : i < N
    · have hltz : (i : Int) < (N : Int) := by omega
      obtain ⟨cb, hcb⟩ : ∃ cb, S.data.toList[i]? = some cb := ⟨_, List.getElem?_eq_getElem (by have := HNS.out; simp; omega)⟩
      have hSc : ∀ h : i < S.size, S[i]'h = cb := fun h => by
        have h1 := (List.getElem?_eq_some_iff.1 hcb).2
        rw [← h1]
        rfl
      have hdr : (byteL S).drop i = cb.toNat :: (byteL S).drop (i + 1) := by
        have hg : (byteL S)[i]? = some cb.toNat := by unfold byteL; rw [List.getElem?_map, hcb]; rfl
        have hl := (List.getElem?_eq_some_iff.1 hg).1
        rw [List.drop_eq_getElem_cons hl]
        congr 1
        exact (List.getElem?_eq_some_iff.1 hg).2
      have hfm := HFM.out
      have hri := HRI.out
      rw [hdr] at hfm hri
      obtain ⟨f1, f2, f3⟩ := hfm
      have HDR := Lib.hid hdr
      have HRJ := Lib.hid hri
      have HF3 := Lib.hid f3
      by_cases hk : k = 0
      · subst hk
        have cn := nullable_any wr _ u HU.out (by omega)
        have hRu : Hid (R = nullM u) := by
          unfold Hid
          rw [HRJ.out, none_ders HKD.out, null_none HKD.out]
        unfold ReV.val at cn
        simp only [] at cn
        rw [← hRu.out] at cn
        clear hSc hcb hdr hri f1 f2 f3
        go_wp2_with fail
        ((with_reducible refine cn.mono ?_))
        rintro _ w5 ⟨rfl, hb5⟩
        have HB5 : Hid (Below w.heap.size w w5) := HB.out.trans (hb5.mono HB.out.size)
        clear hb5 cn
        go_wp2
        go_ret
        exact ⟨rfl, HB5.out⟩
      · have hkz : (k == 0) = false := by simpa using hk
        have hdr2 : Below wr.heap.size wr wr.drew := below_drawn (Below.refl _ _) 1
        have con := deriv_any wr.drew cb.toNat (UInt8.toNat_lt cb) _ u (HU.out.under hdr2) ((HT1.out.stays HB.out).stays hdr2) f1 f2
        unfold ReV.val at con
        simp only [] at con
        have HDR2 := Lib.hid hdr2
        have hwz : IntKind.i64.wrap (cb.toNat : Int) = (cb.toNat : Int) := by have := UInt8.toNat_lt cb; rw [IntKind.wrap_i64]; omega
        clear hcb hdr hri f1 f2 f3 hdr2 hk
        go_wp2_with fail
        go_region_law (first | (go_simp; go_at_call 16; (with_reducible (refine con.mono ?_)); rintro _ w6 ⟨x6, rfl, hx6, hb6⟩; obtain ⟨e0, e1, e2, e3, e4, q6, m6, cp6⟩ := x6; unfold ReV.val; have h6 := (hb6.block R0 (Nat.lt_of_lt_of_le HRL.out HDR2.out.size)).trans ((HDR2.out.block R0 HRL.out).trans HR6.out); obtain ⟨⟨z0, z1, z2, z3, z4, z5⟩, y0, y1, y2, y3, y4, y5⟩ := six_facts h6; have HX6 := Lib.hid hx6; have HB6 := Lib.hid hb6; have H6 := Lib.hid h6; clear hx6 hb6 h6) | fail)
        all_goals go_wp2
        all_goals
          go_roundg (N - (i + 1))
          case measure => omega
          case rel =>
            have hRw : w.heap.size ≤ R0 := by rw [HR0.out]; exact Nat.le_refl _
            have hall : Below w.heap.size w w6 := HB.out.trans ((HDR2.out.trans (HB6.out.mono HDR2.out.size)).mono HB.out.size)
            refine ⟨i + 1, e0, e1, e2, e3, e4, q6, m6, cp6, derivM cb.toNat u, by go_num, by omega, Nat.le_refl _, ?_, ?_, ?_, HF3.out, HRJ.out⟩
            · first | exact six_set hall hRw _ _ _ _ _ _ | exact below_drawn (six_set hall hRw _ _ _ _ _ _) 1
            · exact set6_heap H6.out _ _ _ _ _ _
            · have hk := HX6.out.kept (W' := ((((((w6.setCell ⟨R0, 0, none⟩ (.int .i64 e0)).setCell ⟨R0, 1, none⟩ (.int .u64 e1)).setCell ⟨R0, 2, none⟩ (.int .u64 e2)).setCell ⟨R0, 3, none⟩ (.int .u64 e3)).setCell ⟨R0, 4, none⟩ (.int .u64 e4)).setCell ⟨R0, 5, none⟩ (.slice q6 m6 cp6))) (P' := Q) (Keeps.of (by simp [World.setCell]) fun z hz _ => ?_)
              · first | exact hk | exact hk.kept (Keeps.of (Nat.le_refl _) fun b hp hl => ⟨rfl, hp⟩)
              · have h1 := HRL.out
                have h2 : wr.heap.size ≤ wr.drew.heap.size := HDR2.out.size
                rw [HQ.out] at hz ⊢
                have hne : z ≠ R0 := by rcases hz with (⟨_, hz⟩ | hz) | hz <;> omega
                refine ⟨six_ne hne _ _ _ _ _ _, ?_⟩
                rcases hz with hz | hz
                · exact hz
                · exact .inr (by omega)
    · have hltz : ¬ (i : Int) < (N : Int) := by omega
      have hdr : (byteL S).drop i = [] := List.drop_eq_nil_of_le (by rw [HBL.out]; omega)
      have hfm := HFM.out
      have hri := HRI.out
      rw [hdr] at hfm hri
      have cn := nullable_any wr _ u HU.out hfm
      have hri2 : R = nullM u := hri
      unfold ReV.val at cn
      simp only [] at cn
      rw [← hri2] at cn
      clear hdr hfm hri hri2
      go_wp2_with fail
      ((with_reducible refine cn.mono ?_))
      rintro _ w5 ⟨rfl, hb5⟩
      have HB5 : Hid (Below w.heap.size w w5) := HB.out.trans (hb5.mono HB.out.size)
      clear hb5 cn
      go_wp2
      go_ret
      exact ⟨rfl, HB5.out⟩

end Go.Proofs.YtclnadjgbpihcaaGreatDoor

/-! What the calls want of sizes and depths follows from how big what is left of one becomes. No condition. -/
namespace Go.Proofs.YtclnadjgbpihcaaGreatDoor
open Go.Lib
set_option linter.unusedVariables false
set_option linter.unusedSimpArgs false

theorem Dm_more (k : RT) (R : List RT) : Dm 0 k [] ≤ Dm 0 k R := by
  unfold Dm
  have : ∀ L : List (List RT), (L.map fun s => 3 + T 0 (s ++ [])).sum ≤ (L.map fun s => 3 + T 0 (s ++ R)).sum := by
    intro L
    induction L with
    | nil => simp
    | cons a L ih =>
      have h1 := T0_append a []
      have h2 := T0_append a R
      have h3 : T 0 ([] : List RT) = 0 := rfl
      simp only [List.map_cons, List.sum_cons]
      omega
  exact this _
theorem sz_left {c : Nat} {k : RT} (hg : good k) (R : List RT) : (derivM c k).sz + T 0 R ≤ Dm 0 k R + 1 + T 0 R ∧ ((derivM c k).kind ≠ 0 → (derivM c k).sz + T 0 R + 2 ≤ Dm 0 k R) := by
  have h1 := cost_deriv c 0 k hg R
  have hgd := good_deriv c k hg
  have h2 := seq_sz hgd
  by_cases h0 : (derivM c k).kind = 0
  · have : (derivM c k).sz = 1 := by
      revert h0 hgd
      generalize derivM c k = d
      intro hgd h0
      obtain ⟨k', s, kids⟩ := d
      simp only [RT.kind] at h0
      subst h0
      obtain ⟨⟨_, q⟩, _⟩ := good_mk.1 hgd
      rcases q with ⟨_, q⟩ | ⟨q, _⟩ | ⟨q, _⟩ | ⟨q, _⟩
      · subst q; rw [sz_mk]; rfl
      · omega
      · omega
      · omega
    exact ⟨by omega, fun h => absurd h0 h⟩
  · unfold cost at h1
    rw [if_neg h0, T0_append] at h1
    exact ⟨by omega, fun _ => by omega⟩
/-- One by one, what the needed kids cost is what the Cat costs. -/
theorem cat_costs (c : Nat) : ∀ kids : List RT, (∀ t ∈ kids, good t ∧ t.kind ≠ 0 ∧ t.kind ≠ 1 ∧ t.kind ≠ 3) →
    ((catTo kids ((needed kids).map (derivM c)) (needed kids).length).map RT.sz).sum ≤ ((dls kids).map fun s => 3 + T 0 (s ++ [])).sum ∧
    ∀ j, j < (needed kids).length → ∃ k, (needed kids)[j]? = some k ∧ Dm 0 k (kids.drop (j + 1)) ≤ ((dls kids).map fun s => 3 + T 0 (s ++ [])).sum ∧ good k
  | [], _ => by simp [needed, catTo]
  | k :: kids, h => by
    obtain ⟨hgk, hk0, hk1, hk3⟩ := h k (by simp)
    obtain ⟨i1, i2⟩ := cat_costs c kids fun t ht => h t (by simp [ht])
    have shift : ∀ (l : List RT) (d : RT) (i : Nat), catTo (k :: kids) (d :: l) (i + 1) = catAt (k :: kids) (d :: l) 0 ++ catTo kids l i := by
      intro l d i
      induction i with
      | zero => rw [catTo_succ]; simp [catTo]
      | succ i ih =>
        rw [catTo_succ, ih, catTo_succ, List.append_assoc]
        rfl
    have hD : ((dls (k :: kids)).map fun s => 3 + T 0 (s ++ [])).sum = Dm 0 k kids + (if nullM k then ((dls kids).map fun s => 3 + T 0 (s ++ [])).sum else 0) := by
      rw [dls_cons, List.map_append, List.sum_append, List.map_map]
      unfold Dm
      congr 1
      · congr 1
        refine List.map_congr_left fun s _ => ?_
        simp
      · split
        · rfl
        · rfl
    have hone : ((catAt (k :: kids) (derivM c k :: ((if nullM k then needed kids else []).map (derivM c))) 0).map RT.sz).sum ≤ Dm 0 k kids := by
      unfold catAt
      show (List.map RT.sz (if (derivM c k).kind = 0 then [] else [catM (derivM c k :: kids)])).sum ≤ _
      by_cases h0 : (derivM c k).kind = 0
      · rw [if_pos h0]; simp
      · rw [if_neg h0]
        simp only [List.map_cons, List.map_nil, List.sum_cons, List.sum_nil]
        have h1 := (sz_left (c := c) hgk kids).2 h0
        have h2 := sz_cat (derivM c k :: kids)
        simp only [List.map_cons, List.sum_cons] at h2
        have h3 : T 0 kids = (kids.map RT.sz).sum := rfl
        omega
    rw [hD, needed, List.map_cons, List.length_cons, shift, List.map_append, List.sum_append]
    by_cases hn : nullM k = true
    · rw [if_pos hn] at hone ⊢
      rw [if_pos hn]
      refine ⟨by omega, fun j hj => ?_⟩
      cases j with
      | zero => exact ⟨k, rfl, by show Dm 0 k kids ≤ _; omega, hgk⟩
      | succ j =>
        obtain ⟨u, hu, hc, hg⟩ := i2 j (by omega)
        exact ⟨u, hu, by show Dm 0 u (kids.drop (j + 1)) ≤ _; omega, hg⟩
    · rw [if_neg hn] at hone ⊢
      rw [if_neg hn]
      refine ⟨by simp [catTo]; exact hone, fun j hj => ?_⟩
      cases j with
      | zero => exact ⟨k, rfl, by show Dm 0 k kids ≤ _; omega, hgk⟩
      | succ j => simp at hj
theorem dep_catTo {n : Nat} (kids l : List RT) (hk : ∀ t ∈ kids, t.dep ≤ n) (hl : ∀ t ∈ l, t.dep ≤ n) (hn : 1 ≤ n) : ∀ i, ∀ u ∈ catTo kids l i, u.dep ≤ n + 1
  | 0, u, hu => by simp [catTo] at hu
  | i + 1, u, hu => by
    rw [catTo_succ] at hu
    rcases List.mem_append.1 hu with h | h
    · exact dep_catTo kids l hk hl hn i u h
    · unfold catAt at h
      split at h
      · simp at h
      · simp at h
        subst h
        refine dep_cat fun v hv => ?_
        rcases List.mem_cons.1 hv with rfl | hv
        · by_cases hi : i < l.length
          · rw [List.getElem?_eq_getElem hi]
            exact hl _ (List.getElem_mem hi)
          · rw [List.getElem?_eq_none (by omega)]
            exact Nat.le_trans (Nat.le_of_eq (dep_leaf _ _)) hn
        · exact hk v (List.mem_of_mem_drop hv)
theorem kid_le {t k : RT} (h : k ∈ t.kids) {n : Nat} (hd : t.dep ≤ n + 1) : k.dep ≤ n := by
  obtain ⟨k', s, kids⟩ := t
  exact dep_mk.1 hd k h
theorem fitD_of {c : Nat} {t : RT} (hg : good t) (hs : Dm 0 t [] + t.sz + 1 ≤ 9000000000) (hd : t.dep ≤ 4000) : FitD c t := by
  have hkg : ∀ k ∈ t.kids, good k := fun k hk => good_kid hg hk
  have hkd : ∀ k ∈ t.kids, k.dep ≤ 3999 := fun k hk => kid_le hk hd
  have hdd : ∀ k ∈ t.kids, (derivM c k).dep ≤ 7998 := fun k hk => by have h1 := dep_deriv c k; have h2 := hkd k hk; omega
  have hks := kids_sum t
  refine ⟨fun e => ?_, fun e => ?_, fun e => ?_⟩
  · have hne : need t = needed t.kids := by unfold need; rw [if_pos e]
    have hkinds : ∀ k ∈ t.kids, good k ∧ k.kind ≠ 0 ∧ k.kind ≠ 1 ∧ k.kind ≠ 3 := fun k hk => ⟨hkg k hk, by
      obtain ⟨k', s, kids⟩ := t
      exact (good_kinds hg).1 e k hk⟩
    have hD : Dm 0 t [] = ((dls t.kids).map fun s => 3 + T 0 (s ++ [])).sum := by
      obtain ⟨k', s, kids⟩ := t
      simp only [RT.kind] at e
      subst e
      unfold Dm
      rw [dl_mk, if_neg (by decide), if_pos rfl]
      rfl
    obtain ⟨c1, c2⟩ := cat_costs c t.kids hkinds
    rw [← hD] at c1 c2
    rw [hne]
    have hnd : ∀ u ∈ (needed t.kids).map (derivM c), u.dep ≤ 7998 := fun u hu => by
      obtain ⟨k, hk, rfl⟩ := List.mem_map.1 hu
      obtain ⟨m, h1, _⟩ := needed_pre t.kids
      rw [h1] at hk
      exact hdd k (List.mem_of_mem_take hk)
    refine ⟨fun j hj => ?_, fun u hu => ?_, by omega, ?_⟩
    · obtain ⟨k, hk, hc, hgk⟩ := c2 j hj
      have h1 := (sz_left (c := c) hgk (t.kids.drop (j + 1))).1
      have h2 : ((needed t.kids).map (derivM c)).getD j noneM = derivM c k := by rw [List.getD_eq_getElem?_getD, List.getElem?_map, hk]; rfl
      have h3 : T 0 (t.kids.drop (j + 1)) = ((t.kids.drop (j + 1)).map RT.sz).sum := rfl
      have h4 : ((t.kids.drop (j + 1)).map RT.sz).sum ≤ (t.kids.map RT.sz).sum := by
        have : t.kids.map RT.sz = (t.kids.take (j + 1)).map RT.sz ++ (t.kids.drop (j + 1)).map RT.sz := by rw [← List.map_append, List.take_append_drop]
        rw [this, List.sum_append]
        omega
      rw [h2]
      omega
    · have := dep_catTo t.kids ((needed t.kids).map (derivM c)) (n := 7998) (fun k hk => by have := hkd k hk; omega) hnd (by omega) _ u hu
      omega
    · have := kids_len t
      omega
  · have hne : need t = t.kids := by unfold need; rw [if_neg (by omega), if_pos e]
    rw [hne]
    have hD : Dm 0 t [] = (t.kids.map fun x => Dm 0 x []).sum := Dm_either' 0 [] e
    refine ⟨fun u hu => ?_, ?_⟩
    · obtain ⟨k, hk, rfl⟩ := List.mem_map.1 hu
      have := hdd k hk
      omega
    · have h1 : ((t.kids.map (derivM c)).map RT.sz).sum ≤ (t.kids.map fun x => Dm 0 x []).sum + (t.kids.map RT.sz).sum := by
        clear hs hd hkd hdd hks hne hD
        revert hkg
        generalize t.kids = L
        intro hkg
        induction L with
        | nil => simp
        | cons a L ih =>
          have i1 := ih fun k hk => hkg k (by simp [hk])
          have h1 := (sz_left (c := c) (hkg a (by simp)) []).1
          have h2 := sz_pos a
          simp only [List.map_cons, List.sum_cons]
          omega
      omega
  · intro d hd'
    obtain ⟨k, hk, rfl⟩ := List.mem_map.1 hd'
    have hkk := need_kids hk
    obtain ⟨k', s, kids⟩ := t
    simp only [RT.kind] at e
    subst e
    obtain ⟨x, rfl⟩ := (good_kinds hg).2 rfl
    have hkx : k = x := by simpa [RT.kids] using hkk
    subst hkx
    have h1 := (sz_left (c := c) (hkg k (by simp [RT.kids])) []).1
    have h2 := Dm_more k [.mk 5 s [k]]
    have hD : Dm 0 (.mk 5 s [k]) [] = Dm 0 k [.mk 5 s [k]] := by
      unfold Dm
      rw [dl_mk, if_neg (by decide), if_neg (by decide), if_neg (by decide), if_pos rfl]
      simp [Function.comp_def]
    have h3 : T 0 ([] : List RT) = 0 := rfl
    omega
theorem need_Dm {t k : RT} (hg : good t) (hk : k ∈ need t) : Dm 0 k [] ≤ Dm 0 t [] := by
  obtain ⟨k', s, kids⟩ := t
  unfold need at hk
  change k ∈ (if k' = 3 then needed kids else if k' = 4 then kids else if k' = 5 then (if kids.length = 1 then kids else []) else []) at hk
  by_cases h3 : k' = 3
  · subst h3
    rw [if_pos rfl] at hk
    have hkinds : ∀ k ∈ kids, good k ∧ k.kind ≠ 0 ∧ k.kind ≠ 1 ∧ k.kind ≠ 3 := fun k hk => ⟨good_kid hg hk, (good_kinds hg).1 rfl k hk⟩
    obtain ⟨j, hj, e⟩ := List.getElem_of_mem hk
    obtain ⟨u, hu, hc, _⟩ := (cat_costs 0 kids hkinds).2 j hj
    have hku : k = u := by
      have h1 : (needed kids)[j]? = some k := by rw [← e]; exact List.getElem?_eq_getElem hj
      exact Option.some.inj (h1.symm.trans hu)
    subst hku
    have h2 := Dm_more k (kids.drop (j + 1))
    have hD : Dm 0 (.mk 3 s kids) [] = ((dls kids).map fun s => 3 + T 0 (s ++ [])).sum := by
      unfold Dm
      rw [dl_mk, if_neg (by decide), if_pos rfl]
      rfl
    omega
  · rw [if_neg h3] at hk
    by_cases h4 : k' = 4
    · subst h4
      rw [if_pos rfl] at hk
      rw [Dm_either]
      exact sum_ge (g := fun x => Dm 0 x []) hk
    · rw [if_neg h4] at hk
      by_cases h5 : k' = 5
      · subst h5
        obtain ⟨x, rfl⟩ := (good_kinds hg).2 rfl
        rw [if_pos rfl] at hk
        have hkx : k = x := by simpa [RT.kids] using hk
        subst hkx
        have hD : Dm 0 (.mk 5 s [k]) [] = Dm 0 k [.mk 5 s [k]] := by
          unfold Dm
          rw [dl_mk, if_neg (by decide), if_neg (by decide), if_neg (by decide), if_pos rfl]
          simp [Function.comp_def]
        rw [hD]
        exact Dm_more k _
      · rw [if_neg h5] at hk
        simp at hk
theorem fitA_of {c : Nat} (t : RT) : good t → Dm 0 t [] + t.sz + 1 ≤ 9000000000 → t.dep ≤ 4000 → FitA c t := by
  induction t using RT.ind with
  | h k s kids ih =>
    intro hg hs hd
    refine .mk (fitD_of hg hs hd) fun u hu => ?_
    have hm : u ∈ kids := need_kids hu
    have h1 := need_Dm hg hu
    have h2 := sz_kid (k := k) (s := s) hm
    have h3 := kid_dep (y := .mk k s kids) hm
    exact ih u hm (good_kid hg hm) (by omega) (by omega)
/-- So Match may be asked. -/
theorem fitM_of : ∀ (l : List Nat) (t : RT), good t → t.dep * 2 ^ l.length ≤ 4000 → (∀ k, k < l.length → T k (seqOf t) + l.length ≤ 400000000) → T l.length (seqOf t) + l.length ≤ 6000000000 → FitM t l
  | [], t, hg, hd, h1, h2 => by
    have := (seq_sz hg).2.1
    show t.sz ≤ 8000000000
    simp at h2
    omega
  | c :: l, t, hg, hd, h1, h2 => by
    have hsz := (seq_sz hg).2.1
    have h0 := h1 0 (by simp)
    have hN : Dm 0 t [] = T 1 (seqOf t) := by
      have h := T_seq 0 t []
      rw [List.append_nil] at h
      have e : T (0 + 1) ([] : List RT) = 0 := rfl
      rw [e] at h
      have h : T 1 (seqOf t) = _ := h
      rw [h]
      simp
    have hT1 : T 1 (seqOf t) ≤ 6000000000 := by
      cases l with
      | nil => simp at h2; omega
      | cons d l => have := h1 1 (by simp); simp only [List.length_cons] at this; omega
    have hp : 1 ≤ 2 ^ l.length := Nat.pow_pos (by decide)
    rw [List.length_cons, Nat.pow_succ] at hd
    have hdl : t.dep ≤ 4000 := by
      have : t.dep * 1 ≤ t.dep * (2 ^ l.length * 2) := Nat.mul_le_mul_left _ (by omega)
      omega
    refine ⟨fitA_of t hg (by omega) hdl, by omega, fitM_of l (derivM c t) (good_deriv c t hg) ?_ (fun k hk => ?_) ?_⟩
    · have h3 := dep_deriv c t
      have h4 : (derivM c t).dep * 2 ^ l.length ≤ 2 * t.dep * 2 ^ l.length := Nat.mul_le_mul_right _ h3
      have h5 : 2 * t.dep * 2 ^ l.length = t.dep * (2 ^ l.length * 2) := by rw [Nat.mul_comm 2 t.dep, Nat.mul_assoc, Nat.mul_comm 2]
      omega
    · have h3 := T_deriv c k hg
      have h4 := h1 (k + 1) (by simp; omega)
      simp only [List.length_cons] at h4
      omega
    · have h3 := T_deriv c l.length hg
      simp only [List.length_cons] at h2
      omega

end Go.Proofs.YtclnadjgbpihcaaGreatDoor
