/- What the laws of the grammar rest on, part 13: made by tools/merge5.py out of GCopy. No condition but those that each says. -/
import Derived.Test.YtpopgjgngbiofaaGreatDoorM11
import Derived.Test.YtpopgjgngbiofaaGreatDoorM12
import Derived.Deep.RegionLaw
set_option linter.unusedVariables false
set_option linter.unusedSimpArgs false
set_option maxRecDepth 100000
set_option maxHeartbeats 8000000
namespace Go.Proofs.YtpopgjgngbiofaaGreatDoor
open Go.RowKit
theorem own_other {W W' : World} {base size n m : Nat} {e : TypeId} {v : Value} {xs : List Value} (h : W.ownsRow base e size v n xs) (hg : W.grownBy W' (some m)) (hm : v.ownBlock ≠ some m) : W'.ownsRow base e size v n xs := by
 refine ⟨h.1, ?_⟩
 rcases h.2 with hn | ⟨g, cap, cur, hv, hb, hg', rest⟩
 ·exact .inl hn
 ·exact .inr ⟨g, cap, cur, hv, hb, (hg.block g (Array.getElem?_eq_some_iff.1 hg').1 (fun e => hm (by rw [hv]; exact e))).trans hg', rest⟩
def TopC (W : World) (base : Nat) (X : XV) (t : Tree) : Prop :=
 ∃ (x ns : List Int) (kids : List Tree) (vs : List XV), t = .mk X.kind x ns X.lo X.hi kids /\ X.text = strOf x /\ TextOk x /\ W.ownsRow base 3 1 X.ns ns.length (icells ns) /\ W.ownsRow base 27 6 X.ks kids.length (vs.flatMap XV.cells) /\ vs.length = kids.length /\
  ∀ (i : Nat) (y : XV) (u : Tree), vs[i]? = some y -> kids[i]? = some u -> ETP W (fun b => base <= b /\ some b ≠ X.ks.ownBlock) y u
theorem ETP.weak {W : World} {P P' : Nat -> Prop} {X : XV} {t : Tree} (h : ETP W P X t) (hp : ∀ b, P b -> b < W.heap.size -> P' b) : ETP W P' X t := h.kept (M := fun _ => False) (KeepsC.refl _ _) (fun b hb hl => ⟨id, hp b hb hl⟩)
theorem TopC.tree {W : World} {base : Nat} {X : XV} {t : Tree} (h : TopC W base X t) : ETP W (fun b => base <= b) X t := by
 obtain ⟨x, ns, kids, vs, rfl, htx, hto, h1, h2, h3, h4⟩ := h
 obtain ⟨k, tx, nv, lo, hi, kv⟩ := X
 simp only [] at htx
 subst htx
 exact .mk vs hto.1 hto.2 (RowP.of_own (.inr (.inl rfl)) h1 (own_le h1)) (RowP.of_own (.inl rfl) h2 (own_le h2)) h3 (fun i y u hy hu => (h4 i y u hy hu).weak (fun b hb _ => hb.1))
structure CopyAt (w wr : World) (X : XV) (ns : List Int) (kids : List Tree) (vs vsi : List XV) (i : Nat) : Prop where
 box : wr.heap[w.heap.size]? = some (.cells X.arr 27 (0, 0))
 res : wr.heap[w.heap.size + 1]? = some (.cells zeroX 27 (0, 0))
 nums : wr.ownsRow (w.heap.size + 2) 3 1 X.ns ns.length (icells ns)
 row : wr.ownsRow (w.heap.size + 2) 27 6 X.ks kids.length (vsi.flatMap XV.cells)
 len : vsi.length = kids.length
 old : ∀ (j : Nat) (y : XV) (u : Tree), j < i -> vsi[j]? = some y -> kids[j]? = some u -> ETP wr (fun b => w.heap.size + 2 <= b /\ some b ≠ X.ks.ownBlock) y u
 new : ∀ j, i <= j -> vsi[j]? = vs[j]?
 below : Below w.heap.size w wr
theorem CopyAt.under {w wr W : World} {X : XV} {ns : List Int} {kids : List Tree} {vs vsi : List XV} {i : Nat} (h : CopyAt w wr X ns kids vs vsi i) (hb : Below wr.heap.size wr W) : CopyAt w W X ns kids vs vsi i :=
 ⟨(hb.block _ (Array.getElem?_eq_some_iff.1 h.box).1).trans h.box, (hb.block _ (Array.getElem?_eq_some_iff.1 h.res).1).trans h.res, own_below h.nums hb, own_below h.row hb, h.len,
  fun j y u hj hy hu => (h.old j y u hj hy hu).kept (M := fun _ => False) (KeepsC.below hb) (fun b hb _ => ⟨id, hb⟩), h.new, below_then h.below hb⟩
theorem CopyAt.cells {w wr : World} {X : XV} {ns : List Int} {kids : List Tree} {vs vsi : List XV} {i : Nat} (h : CopyAt w wr X ns kids vs vsi i) : wr.cell? ⟨w.heap.size, 5, none⟩ = some X.ks /\ w.heap.size < wr.heap.size /\ w.heap.size + 1 < wr.heap.size := by
 have hb := h.box
 refine ⟨?_, (Array.getElem?_eq_some_iff.1 hb).1, (Array.getElem?_eq_some_iff.1 h.res).1⟩
 unfold World.cell?
 simp only [hb]
 rfl
theorem grownBy_set5 (W : World) (g o : Nat) (v : Value) : W.grownBy (W.setCell ⟨g, o, none⟩ v) (some g) := ⟨rfl, rfl, rfl, by simp [World.setCell], fun i _ hi => Below.heap_setCell _ _ _ _ (fun e => hi (by rw [e]))⟩
def set6 (W : World) (g o : Nat) (x : XV) : World :=
 (((((W.setCell ⟨g, o, none⟩ (.int .i64 x.kind)).setCell ⟨g, o + 1, none⟩ (.string x.text)).setCell ⟨g, o + 2, none⟩ x.ns).setCell ⟨g, o + 3, none⟩ (.int .i64 x.lo)).setCell ⟨g, o + 4, none⟩ (.int .i64 x.hi)).setCell ⟨g, o + 5, none⟩ x.ks
theorem set6_grown (W : World) (g o : Nat) (x : XV) : W.grownBy (set6 W g o x) (some g) :=
 ((((((grownBy_set5 W g o _).trans (grownBy_set5 _ g _ _)).trans (grownBy_set5 _ g _ _)).trans (grownBy_set5 _ g _ _)).trans (grownBy_set5 _ g _ _)).trans (grownBy_set5 _ g _ _))
theorem CopyAt.step {w W6 : World} {X X' : XV} {ns : List Int} {kids : List Tree} {vs vsi : List XV} {i g cap B : Nat} {u : Tree} (h : CopyAt w W6 X ns kids vs vsi i) (hv : X.ks = .slice (some ⟨g, 0, none⟩) kids.length cap) (hi : i < kids.length) (hu : kids[i]? = some u) (hX : ETP W6 (fun b => B <= b) X' u) (hg : g < B) (hB : w.heap.size + 2 <= B) :
  CopyAt w (set6 W6 g (i * 6) X') X ns kids vs (vsi.set i X') (i + 1) := by
 have hgr := set6_grown W6 g (i * 6) X'
 have hrow := h.row
 rw [hv] at hrow
 have hgb := (row_base hrow).1
 have hob : X.ks.ownBlock = some g := by rw [hv]; rfl
 have hK : KeepsC (fun b => b = g) W6 (set6 W6 g (i * 6) X') := ⟨hgr.size, fun b c t z hm _ hb => (hgr.block b (Array.getElem?_eq_some_iff.1 hb).1 (fun e => hm (Option.some.inj e))).trans hb⟩
 refine ⟨(hgr.block _ h.cells.2.1 (fun e => by have := Option.some.inj e; omega)).trans h.box, (hgr.block _ h.cells.2.2 (fun e => by have := Option.some.inj e; omega)).trans h.res, own_other h.nums hgr (fun e => ?_), ?_, by rw [List.length_set]; exact h.len, fun j y t hj hy ht => ?_, fun j hj => ?_, h.below.grown hgr (by have := h.cells.2.1; omega) (fun b e => by have := Option.some.inj e; omega)⟩
 ·obtain ⟨c, t, z, hc⟩ : ∃ c t z, W6.heap[g]? = some (.cells c t z) := by
   rcases hrow.2 with ⟨hn, _⟩ | ⟨g', cap', cur, hv', _, hblk, _⟩
   ·cases hn
   ·simp at hv'
    obtain ⟨rfl, _⟩ := hv'
    exact ⟨_, _, _, hblk⟩
  have e1 := own_type h.nums e hc
  have e2 := own_type hrow (b := g) rfl hc
  rw [e1] at e2
  revert e2
  decide
 ·have h6 := own_set5 (own_set5 (own_set5 (own_set5 (own_set5 (own_set5 hrow (i * 6) (.int .i64 X'.kind)) (i * 6 + 1) (.string X'.text)) (i * 6 + 2) X'.ns) (i * 6 + 3) (.int .i64 X'.lo)) (i * 6 + 4) (.int .i64 X'.hi)) (i * 6 + 5) X'.ks
  rw [flat_set vsi i X' (by rw [h.len]; exact hi)] at h6
  rw [hv]
  exact h6
 ·by_cases hji : j = i
  ·subst hji
   rw [List.getElem?_set_self (by rw [h.len]; exact hi)] at hy
   rw [hu] at ht
   have e1 := Option.some.inj hy
   have e2 := Option.some.inj ht
   subst e1 e2
   exact hX.kept hK (fun b hb _ => ⟨by omega, by omega, fun e => by rw [hob] at e; have := Option.some.inj e; omega⟩)
  ·rw [List.getElem?_set_ne (by omega)] at hy
   exact (h.old j y t (by omega) hy ht).kept hK (fun b hb _ => ⟨fun e => hb.2 (by rw [hob, e]), hb⟩)
 ·rw [List.getElem?_set_ne (by omega)]
  exact h.new j (by omega)
theorem sw_len5 : ∀ l : List Tree, l.length <= (l.map Tree.tw).sum
 | [] => by simp
 | t :: l => by
  have := sw_len5 l
  have h : 1 <= t.tw := by
   obtain ⟨k, x, ns, lo, hi, kids⟩ := t
   rw [Tree.tw]
   omega
  simp only [List.map_cons, List.sum_cons, List.length_cons] at *
  omega
def Copies (X : XV) (t : Tree) (w : World) (e : Ending) (w' : World) : Prop := ∃ X' : XV, e = .returned X'.val /\ TopC w' w.heap.size X' t /\ Below w.heap.size w w'
theorem own_slice5 {W : World} {base size n : Nat} {e : TypeId} {v : Value} {xs : List Value} (h : W.ownsRow base e size v n xs) : ∃ a c, v = .slice a n c := by
 rcases row_forms h with ⟨rfl, h0⟩ | ⟨g, cap, rfl⟩
 ·exact ⟨none, 0, by rw [h0]⟩
 ·exact ⟨_, _, rfl⟩
theorem ETree.forms {W : World} {X : XV} {t : Tree} (h : ETree W X t) : ∃ (x ns : List Int) (kids : List Tree) (vs : List XV), t = .mk X.kind x ns X.lo X.hi kids /\ X.text = strOf x /\ TextOk x /\ RowAny W X.ns ns.length (icells ns) /\ RowAny W X.ks kids.length (vs.flatMap XV.cells) /\ vs.length = kids.length /\ (∀ (i : Nat) (y : XV) (u : Tree), vs[i]? = some y -> kids[i]? = some u -> ETree W y u) := by
 cases h with
 | mk vs h0 hl h1 h2 h3 h4 => exact ⟨_, _, _, vs, rfl, rfl, ⟨h0, hl⟩, h1, h2, h3, h4⟩
theorem ETree.one5 {W : World} {X : XV} {t : Tree} (h : ETree W X t) : ∀ u ∈ X.cells, u.oneCell' = true := by
 obtain ⟨h1, h2⟩ := h.ones
 intro u hu
 simp [XV.cells] at hu
 rcases hu with rfl | rfl | rfl | rfl | rfl | rfl
 all_goals first | rfl | assumption
theorem kids_one5 {W : World} {kids : List Tree} {vs : List XV} (hl : vs.length = kids.length) (h : ∀ (i : Nat) (y : XV) (u : Tree), vs[i]? = some y -> kids[i]? = some u -> ETree W y u) : ∀ u ∈ vs.flatMap XV.cells, u.oneCell' = true := by
 intro u hu
 obtain ⟨y, hy, huy⟩ := List.mem_flatMap.1 hu
 obtain ⟨i, hi⟩ := List.getElem?_of_mem hy
 have hlt := (List.getElem?_eq_some_iff.1 hi).1
 exact (h i y _ hi (List.getElem?_eq_getElem (by omega))).one5 u huy
theorem top_forms {W : World} {base : Nat} {X : XV} {t : Tree} (h : TopC W base X t) : ∃ k tx nv lo hi kv a1 n1 c1 a2 n2 c2, nv = Value.slice a1 n1 c1 /\ kv = Value.slice a2 n2 c2 /\ X = ⟨k, tx, nv, lo, hi, kv⟩ := by
 obtain ⟨x, ns, kids, vs, rfl, htx, hto, h1, h2, h3, h4⟩ := h
 obtain ⟨k, tx, nv, lo, hi, kv⟩ := X
 obtain ⟨a1, c1, e1⟩ := own_slice5 h1
 obtain ⟨a2, c2, e2⟩ := own_slice5 h2
 exact ⟨k, tx, nv, lo, hi, kv, _, _, _, _, _, _, e1, e2, rfl⟩
theorem copied_any : ∀ (k : Nat) (w : World) (X : XV) (t : Tree), ETree w X t -> t.tw <= k -> k <= 100000000 -> Calls Tryz.prog 62 #[X.val] w (Copies X t w) := by
 intro k
 induction k using Nat.strongRecOn with
 | _ k ih =>
 intro w X t hE hk hk2
 obtain ⟨x, ns, kids, vs, rfl, htx, hto, hr1, hr2, hvl, hks⟩ := hE.forms
 have htw : (Tree.mk X.kind x ns X.lo X.hi kids).tw = 1 + x.length + ns.length + (kids.map Tree.tw).sum := by rw [Tree.tw]
 have hkl : kids.length <= (kids.map Tree.tw).sum := sw_len5 kids
 obtain ⟨kk, tx, nv, lo, hi, kv⟩ := X
 simp only [] at htx hr1 hr2 htw hk
 have HKS := hh9 hks
 have HVL := hh9 hvl
 have HTO := hh9 hto
 have HTX := hh9 htx
 have IH := hh9 ih
 have HTW := hh9 htw
 have HKK := hh9 hk
 obtain ⟨na, nc, hnv⟩ : ∃ na nc, nv = .slice na ns.length nc := by
  obtain ⟨a, c, h, _⟩ := hr1.slice
  exact ⟨a, c, h⟩
 obtain ⟨ka, kc, hkv⟩ : ∃ ka kc, kv = .slice ka kids.length kc := by
  obtain ⟨a, c, h, _⟩ := hr2.slice
  exact ⟨a, c, h⟩
 subst hnv hkv
 have HC1 := hh9 (fun (W : World) (hb : Below w.heap.size w W) => clone_int (hr1.below hb) (by simp [icells]) (by intro u hu; unfold icells at hu; obtain ⟨z, _, rfl⟩ := List.mem_map.1 hu; rfl) (by omega))
 have HC2 := hh9 (fun (W : World) (hb : Below w.heap.size w W) => clone_expr (hr2.below hb) (by rw [flat_len, hvl]) (kids_one5 hvl hks) (by omega))
 have HB0 : Hid (Below w.heap.size w ((w.alloc (xobj kk lo hi tx (.slice na ns.length nc) (.slice ka kids.length kc))).alloc (.cells zeroX 27))) := ((Below.refl _ _).alloc (Nat.le_refl _) _).alloc (by simp) _
 have hE1 := heap_alloc_new w (xobj kk lo hi tx (.slice na ns.length nc) (.slice ka kids.length kc))
 have HE1 : Hid (((w.alloc (xobj kk lo hi tx (.slice na ns.length nc) (.slice ka kids.length kc))).alloc (.cells zeroX 27)).heap[w.heap.size]? = some (xobj kk lo hi tx (.slice na ns.length nc) (.slice ka kids.length kc))) := heap_old5 _ _ hE1
 have HE2 : Hid (((w.alloc (xobj kk lo hi tx (.slice na ns.length nc) (.slice ka kids.length kc))).alloc (.cells zeroX 27)).heap[w.heap.size + 1]? = some (.cells zeroX 27 (0, 0))) := by
  have h := heap_alloc_new (w.alloc (xobj kk lo hi tx (.slice na ns.length nc) (.slice ka kids.length kc))) (.cells zeroX 27)
  rw [World.size_alloc] at h
  exact h
 show Calls Tryz.prog 62 #[.agg #[.int .i64 kk, .string tx, .slice na ns.length nc, .int .i64 lo, .int .i64 hi, .slice ka kids.length kc]] w _
 clear hE hks hvl hto htx ih htw hk hr1 hr2 hE1
 unfold xobj zeroX at HB0 HE1 HE2
 go_enter Tryz.func62, Tryz.ntmps62
 go_wp2_with (first
  | (go_at_call 84; refine (HC1.out _ HB0.out).mono ?_; rintro e w1 ⟨v1, rfl, hown1, hb1⟩; obtain ⟨a1, c1, rfl⟩ := own_slice5 hown1; have hX1 : w1.heap[w.heap.size]? = some (.cells #[.int .i64 kk, .string tx, .slice na ns.length nc, .int .i64 lo, .int .i64 hi, .slice ka kids.length kc] 27 (0, 0)) := (hb1.block _ (by simp; omega)).trans HE1.out; have hX1l := (Array.getElem?_eq_some_iff.1 hX1).1; have q2 : w1.cell? ⟨w.heap.size, 2, none⟩ = some (.slice na ns.length nc) := (by unfold World.cell?; simp only [hX1]; rfl); have q5 : w1.cell? ⟨w.heap.size, 5, none⟩ = some (.slice ka kids.length kc) := (by unfold World.cell?; simp only [hX1]; rfl); have qf : w1.frozen? ⟨w.heap.size, 2, none⟩ = false := (by simp [World.frozen?, hX1]); have HX1 := hh9 hX1; have HO1 := hh9 hown1; have HB1 := hh9 (below_then HB0.out hb1); have HBB1 := hh9 hb1; clear hown1 hb1 hX1)
  | (go_at_call 85; refine (HC2.out _ (HB1.out.setCell (p := ⟨w.heap.size, 2, none⟩) (Nat.le_refl _) (.slice a1 ns.length c1))).mono ?_; rintro e w2 ⟨v2, rfl, hown2, hb2⟩; obtain ⟨a2, c2, rfl⟩ := own_slice5 hown2; have hX2 : w2.heap[w.heap.size]? = some (.cells #[.int .i64 kk, .string tx, .slice a1 ns.length c1, .int .i64 lo, .int .i64 hi, .slice ka kids.length kc] 27 (0, 0)) := (hb2.block _ (by simpa using hX1l)).trans (heap_setCell_same w1 w.heap.size 2 _ _ _ HX1.out); have p5 : w2.cell? ⟨w.heap.size, 5, none⟩ = some (.slice ka kids.length kc) := (by unfold World.cell?; simp only [hX2]; rfl); have pf : w2.frozen? ⟨w.heap.size, 5, none⟩ = false := (by simp [World.frozen?, hX2]); have HX2 := hh9 hX2; have HO2 := hh9 hown2; have HB2 := hh9 hb2; clear hown2 hb2 hX2))
 have hs2 : w1.heap.size <= w2.heap.size := by
  have := HB2.out.size
  simpa using this
 have hs1 := HBB1.out.size
 have hs0 : ((w.alloc (.cells #[.int .i64 kk, .string tx, .slice na ns.length nc, .int .i64 lo, .int .i64 hi, .slice ka kids.length kc] 27)).alloc (.cells #[.int .i64 0, .string ⟨#[]⟩, .slice none 0 0, .int .i64 0, .int .i64 0, .slice none 0 0] 27)).heap.size = w.heap.size + 2 := by simp
 rw [hs0] at hs1
 have hE2b : w2.heap[w.heap.size + 1]? = some (.cells zeroX 27 (0, 0)) :=
  (HB2.out.block _ (by simp; omega)).trans ((heap_setCell_other _ _ _ _ (by show w.heap.size + 1 ≠ w.heap.size; omega)).trans ((HBB1.out.block _ (by rw [hs0]; omega)).trans HE2.out))
 have hstart : CopyAt w (w2.setCell ⟨w.heap.size, 5, none⟩ (.slice a2 kids.length c2)) ⟨kk, tx, .slice a1 ns.length c1, lo, hi, .slice a2 kids.length c2⟩ ns kids vs vs 0 := by
  have hg := grownBy_set5 w2 w.heap.size 5 (.slice a2 kids.length c2)
  have ho1 := HO1.out
  rw [hs0] at ho1
  have ho2 := own_mono HO2.out (base' := w.heap.size + 2) (by simp; omega)
  refine ⟨heap_setCell_same w2 w.heap.size 5 _ _ _ HX2.out, (hg.block _ (Array.getElem?_eq_some_iff.1 hE2b).1 (fun e => by have := Option.some.inj e; omega)).trans hE2b, ?_, own_other ho2 hg (fun e => by have := own_le ho2 _ e; omega), HVL.out, fun j y u hj => by omega, fun j _ => rfl, ?_⟩
  ·refine own_other (own_below (own_other ho1 (grownBy_set5 w1 w.heap.size 2 _) (fun e => by have := own_le ho1 _ e; omega)) HB2.out) hg (fun e => by have := own_le ho1 _ e; omega)
  ·exact (below_then (HB1.out.setCell (p := ⟨w.heap.size, 2, none⟩) (Nat.le_refl _) (.slice a1 ns.length c1)) HB2.out).setCell (p := ⟨w.heap.size, 5, none⟩) (Nat.le_refl _) _
 have HSTART := hh9 hstart
 have hnmax : kids.length <= 100000000 := by have := HTW.out; have := HKK.out; omega
 clear hstart hE2b hX1l q2 q5 qf p5 pf hs1 hs2 hs0
 go_loopw [16] (fun v wr => ∃ (i : Nat) (vsi : List XV), v = .int .i64 i /\ i <= kids.length /\ Hid (CopyAt w wr ⟨kk, tx, .slice a1 ns.length c1, lo, hi, .slice a2 kids.length c2⟩ ns kids vs vsi i)) (fun v _ => kids.length - (intOf v).toNat)
 case atStart => exact ⟨0, vs, rfl, Nat.zero_le _, HSTART⟩
 case round =>
  obtain ⟨i, vsi, rfl, hi', HC⟩ := hrel
  by_cases hlt : i < kids.length
  ·have hrow := HC.out.row
   simp only [] at hrow
   obtain ⟨gb, rfl⟩ : ∃ gb, a2 = some ⟨gb, 0, none⟩ := by
    rcases row_forms hrow with ⟨hn, h0⟩ | ⟨g, cap, h⟩
    ·omega
    ·simp at h
     exact ⟨g, h.1⟩
   obtain ⟨Y, hY⟩ : ∃ y, vs[i]? = some y := ⟨_, List.getElem?_eq_getElem (by rw [HVL.out]; exact hlt)⟩
   obtain ⟨u, hu⟩ : ∃ y, kids[i]? = some y := ⟨_, List.getElem?_eq_getElem hlt⟩
   have hYi := (HC.out.new i (Nat.le_refl _)).trans hY
   have hEY := (HKS.out i Y u hY hu).under HC.out.below
   have hmem : u ∈ kids := List.mem_of_getElem? hu
   have htm := tw_mem hmem
   have CX : ∀ (j : Nat) (z : Value), j < 6 -> Y.cells[j]? = some z -> wr.cell? ⟨gb, i * 6 + j, none⟩ = some z := fun j z hj hz => own_cell hrow ((flat_at vsi i j Y hYi hj).trans hz)
   obtain ⟨hbx, hwl, hwl2⟩ := HC.out.cells
   have hgl := row_base hrow
   obtain ⟨b1, m1, d1, b5, m5, d5, hb1, hb5⟩ : ∃ b1 m1 d1 b5 m5 d5, Y.ns = .slice b1 m1 d1 /\ Y.ks = .slice b5 m5 d5 := by
    obtain ⟨_, _, _, _, _, _, _, h1, h2, _⟩ := hEY.forms
    obtain ⟨_, _, h1, _⟩ := h1.slice
    obtain ⟨_, _, h2, _⟩ := h2.slice
    exact ⟨_, _, _, _, _, _, h1, h2⟩
   obtain ⟨k2, s2, nv2, lo2, hi2, kv2⟩ := Y
   simp only [] at hb1 hb5
   subst hb1 hb5
   have hW5 : Below wr.heap.size wr ((wr.alloc (.cells #[.int .i64 k2, .string s2, .slice b1 m1 d1, .int .i64 lo2, .int .i64 hi2, .slice b5 m5 d5] 27)).drew) := below_drawn ((Below.refl _ _).alloc (Nat.le_refl _) _) 1
   have HI := hh9 (IH.out u.tw (by have := HTW.out; have := HKK.out; omega) _ _ u (hEY.under hW5) (Nat.le_refl _) (by have := HTW.out; have := HKK.out; omega))
   have HC5 := hh9 (HC.out.under hW5)
   have e0 := CX 0 _ (by omega) rfl
   have e1 := CX 1 _ (by omega) rfl
   have e2 := CX 2 _ (by omega) rfl
   have e3 := CX 3 _ (by omega) rfl
   have e4 := CX 4 _ (by omega) rfl
   have e5 := CX 5 _ (by omega) rfl
   rw [Nat.add_zero] at e0
   simp only [] at e0 e1 e2 e3 e4 e5
   have hbx5 := HC5.out.cells.1
   simp only [] at hbx5
   unfold XV.val at HI
   simp only [] at HI
   have HU := hh9 hu
   have HGL := hh9 hgl
   have HYI := hh9 hYi
   clear CX hY hYi hEY hmem htm hrow hW5 hu hgl
   have hbx5' : (wr.alloc (.cells #[.int .i64 k2, .string s2, .slice b1 m1 d1, .int .i64 lo2, .int .i64 hi2, .slice b5 m5 d5] 27)).cell? ⟨w.heap.size, 5, none⟩ = some (.slice (some ⟨gb, 0, none⟩) kids.length c2) := hbx5
   have HYC : Hid (∀ (W : World), CopyAt w W ⟨kk, tx, .slice a1 ns.length c1, lo, hi, .slice (some ⟨gb, 0, none⟩) kids.length c2⟩ ns kids vs vsi i -> ∀ (j : Nat) (z : Value), ([.int .i64 k2, .string s2, .slice b1 m1 d1, .int .i64 lo2, .int .i64 hi2, .slice b5 m5 d5] : List Value)[j]? = some z -> W.cell? ⟨gb, i * 6 + j, none⟩ = some z /\ W.frozen? ⟨gb, i * 6 + j, none⟩ = false) := fun W hCW j z hj => by
    have hr := hCW.row
    simp only [] at hr
    have hjl : j < 6 := (List.getElem?_eq_some_iff.1 hj).1
    exact ⟨own_cell hr ((flat_at vsi i j _ HYI.out hjl).trans hj), own_frozen hr _⟩
   clear hbx5
   go_wp2_with fail
   go_region_law (first
    | ((try go_simp); go_at_call 62; (with_reducible (refine HI.out.mono ?_)); rintro e w6 ⟨X', rfl, hT, hb6⟩; have HC6 := hh9 (HC5.out.under hb6); obtain ⟨k', tx', nv', lo', hi2', kv', p1, p2, p3, p5, p6, p7, rfl, rfl, hX'⟩ := top_forms hT; have HT := hh9 hT; have HB6 := hh9 hb6; have z5 := HC6.out.cells.1; (simp only [] at z5); have y0 := (HYC.out w6 HC6.out 0 _ rfl); have y1 := (HYC.out w6 HC6.out 1 _ rfl); have y2 := (HYC.out w6 HC6.out 2 _ rfl); have y3 := (HYC.out w6 HC6.out 3 _ rfl); have y4 := (HYC.out w6 HC6.out 4 _ rfl); have y5 := (HYC.out w6 HC6.out 5 _ rfl); rw [Nat.add_zero] at y0; obtain ⟨y0, x0⟩ := y0; obtain ⟨y1, x1⟩ := y1; obtain ⟨y2, x2⟩ := y2; obtain ⟨y3, x3⟩ := y3; obtain ⟨y4, x4⟩ := y4; obtain ⟨y5, x5⟩ := y5; subst hX'; (try unfold XV.val); (try simp only []); clear hT hb6)
    | fail)
   all_goals
    have hS := HC6.out.step (X' := ⟨k', tx', .slice p1 p2 p3, lo', hi2', .slice p5 p6 p7⟩) (cap := c2) rfl hlt HU.out HT.out.tree (by have := HGL.out.2.2.2; simp; omega) (by simp; omega)
    unfold set6 at hS
    have HS := hh9 hS
    clear hS
    go_wp2_with fail
    go_roundw
    case rel => exact ⟨i + 1, vsi.set i ⟨k', tx', .slice p1 p2 p3, lo', hi2', .slice p5 p6 p7⟩, by go_num, by omega, HS⟩
    case measure => simp [intOf]; omega
  ·obtain rfl : i = kids.length := by omega
   have hbx := HC.out.box
   unfold XV.arr at hbx
   have f0 : wr.cell? ⟨w.heap.size, 0, none⟩ = some (.int .i64 kk) := by unfold World.cell?; simp only [hbx]; rfl
   have f1 : wr.cell? ⟨w.heap.size, 1, none⟩ = some (.string tx) := by unfold World.cell?; simp only [hbx]; rfl
   have f2 : wr.cell? ⟨w.heap.size, 2, none⟩ = some (.slice a1 ns.length c1) := by unfold World.cell?; simp only [hbx]; rfl
   have f3 : wr.cell? ⟨w.heap.size, 3, none⟩ = some (.int .i64 lo) := by unfold World.cell?; simp only [hbx]; rfl
   have f4 : wr.cell? ⟨w.heap.size, 4, none⟩ = some (.int .i64 hi) := by unfold World.cell?; simp only [hbx]; rfl
   have f5 : wr.cell? ⟨w.heap.size, 5, none⟩ = some (.slice a2 kids.length c2) := by unfold World.cell?; simp only [hbx]; rfl
   have HRES : Hid (Res0 wr (w.heap.size + 1)) := ⟨zeroX, rfl, HC.out.res⟩
   have hgr : wr.grownBy (wr.setRow (w.heap.size + 1) (XV.arr ⟨kk, tx, .slice a1 ns.length c1, lo, hi, .slice a2 kids.length c2⟩)) (some (w.heap.size + 1)) := ⟨rfl, rfl, rfl, by simp [World.setRow], fun k hk hne => setRow_other _ _ _ _ (fun e => hne (by rw [e]))⟩
   have hk1 : KeepsC (fun b => b = w.heap.size + 1) wr (wr.setRow (w.heap.size + 1) (XV.arr ⟨kk, tx, .slice a1 ns.length c1, lo, hi, .slice a2 kids.length c2⟩)) := ⟨hgr.size, fun b c t z hm _ hb => (hgr.block b (Array.getElem?_eq_some_iff.1 hb).1 (fun e => hm (Option.some.inj e))).trans hb⟩
   have hn1 := HC.out.nums
   have hr1 := HC.out.row
   simp only [] at hn1 hr1
   have HT0 : Hid (TopC (wr.setRow (w.heap.size + 1) (XV.arr ⟨kk, tx, .slice a1 ns.length c1, lo, hi, .slice a2 kids.length c2⟩)) w.heap.size ⟨kk, tx, .slice a1 ns.length c1, lo, hi, .slice a2 kids.length c2⟩ (.mk kk x ns lo hi kids)) :=
    ⟨x, ns, kids, vsi, rfl, HTX.out, HTO.out, own_mono (own_other hn1 hgr (fun e => by have := own_le hn1 _ e; omega)) (by omega), own_mono (own_other hr1 hgr (fun e => by have := own_le hr1 _ e; omega)) (by omega), HC.out.len,
     fun j y u hy hu => ((HC.out.old j y u (by have := (List.getElem?_eq_some_iff.1 hu).1; omega) hy hu).kept hk1 (fun b hb _ => ⟨by have := hb.1; omega, hb⟩)).weak (fun b hb _ => ⟨by have := hb.1; omega, hb.2⟩)⟩
   have HBE : Hid (Below w.heap.size w (wr.setRow (w.heap.size + 1) (XV.arr ⟨kk, tx, .slice a1 ns.length c1, lo, hi, .slice a2 kids.length c2⟩))) := HC.out.below.grown hgr (by have := HC.out.cells.2.1; omega) (fun b e => by have := Option.some.inj e; omega)
   clear hbx hgr hk1 hn1 hr1
   go_wp2_with (refine store_res rfl _ _ rfl (w.heap.size + 1) ⟨kk, tx, .slice a1 ns.length c1, lo, hi, .slice a2 kids.length c2⟩ rfl rfl HRES.out rfl rfl ?_)
   exact bodyPost_ret_by (run_res rfl _ _ (w.heap.size + 1) ⟨kk, tx, .slice a1 ns.length c1, lo, hi, .slice a2 kids.length c2⟩ rfl HRES.out) rfl ⟨_, rfl, HT0.out, HBE.out⟩
end Go.Proofs.YtpopgjgngbiofaaGreatDoor
