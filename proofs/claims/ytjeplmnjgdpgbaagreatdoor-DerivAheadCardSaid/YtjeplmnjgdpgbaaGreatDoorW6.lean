/- Joined texts; each begins with what it says. -/
import Derived.Test.YtjeplmnjgdpgbaaGreatDoorW3
import Derived.Test.YtjeplmnjgdpgbaaGreatDoorW5
import Derived.Test.YtjeplmnjgdpgbaaGreatDoorW4
import Derived.Deep.CutBlock
import Derived.Test.YtjeplmnjgdpgbaaGreatDoorW0
import Derived.Laws.IdiomStrings
import Derived.Test.YtjeplmnjgdpgbaaGreatDoorCards
import Derived.Test.YtjeplmnjgdpgbaaGreatDoorTie
import Derived.Test.YtjeplmnjgdpgbaaGreatDoorOwed
import Derived.Laws.IdiomArrays
import Derived.ProofKit
import Derived.OpenShut
import Derived.LaidMore
import Derived.Lay
import Derived.Carry
import Derived.ChangeSlices
import Derived.ChangeMaps5
import Derived.SevenTiedAt
import Derived.Stop.Joined
import Derived.LaidSub
import Derived.Lib.LaidTab
/-! What the calls of a law want of the expressions that it makes: how big what is left of them becomes. No condition. -/
namespace Go.Proofs.YtjeplmnjgdpgbaaGreatDoor
open Go.RowKit Go.Lib
set_option linter.unusedVariables false
set_option linter.unusedSimpArgs false

theorem lv4_T {t : RT} (h : Lv 161 4842888568831 5008 5766931476091 4966 t) : good t ∧ (∀ k, k < 6 → T k (seqOf t) ≤ 370000000) ∧ T 6 (seqOf t) ≤ 5700000000 := by
  have hg := h.good
  have h1 := lvany4 h []
  have h2 := (seq_sz hg).1
  have h3 := h.sz
  have hp : Psi [] = 0 := rfl
  rw [hp] at h1
  have k := fun j => T_seq j t []
  have e : ∀ j, T (j + 1) (seqOf t) = Dm j t [] := fun j => by
    have h4 := k j
    rw [List.append_nil] at h4
    have h5 : T (j + 1) ([] : List RT) = 0 := rfl
    rw [h4, h5]
    simp
  have e0 := e 0
  have e1 := e 1
  have e2 := e 2
  have e3 := e 3
  have e4 := e 4
  have e5 := e 5
  simp only [Nat.zero_add, Nat.reduceAdd] at e0 e1 e2 e3 e4 e5
  unfold Del at h1
  refine ⟨hg, fun j hj => ?_, by omega⟩
  match j, hj with
  | 0, _ => omega
  | 1, _ => omega
  | 2, _ => omega
  | 3, _ => omega
  | 4, _ => omega
  | 5, _ => omega
  | n + 6, hj => omega
/-- So Match may be asked of it, with six bytes at most. -/
theorem fitM_lv {t : RT} (h : Lv 161 4842888568831 5008 5766931476091 4966 t) (hd : t.dep ≤ 62) (l : List Nat) (hl : l.length ≤ 6) : FitM t l := by
  obtain ⟨hg, h1, h2⟩ := lv4_T h
  refine fitM_of l t hg ?_ (fun k hk => by have := h1 k (by omega); omega) ?_
  · have : 2 ^ l.length ≤ 2 ^ 6 := Nat.pow_le_pow_right (by decide) hl
    have h3 : t.dep * 2 ^ l.length ≤ 62 * 2 ^ 6 := Nat.mul_le_mul hd this
    omega
  · by_cases e : l.length = 6
    · rw [e]
      omega
    · have := h1 l.length (by omega)
      omega
theorem aw_lv : Lv 161 4842888568831 5008 5766931476091 4966 awR := by
  rw [← aw_catR]
  refine lv3_up (lv2_up (lv1_cats (fun t ht => ?_) (by decide) (by decide)))
  simp at ht
  rcases ht with rfl | rfl
  · exact lv0_star (let_lv (by decide) (by decide) (by decide))
  · exact lv0_up (let_lv (by decide) (by decide) (by decide))
theorem awR_dep : awR.dep ≤ 3 := by
  unfold awR
  refine dep_mk.2 fun t ht => ?_
  simp at ht
  rcases ht with rfl | rfl
  · refine dep_mk.2 fun t ht => ?_
    simp at ht
    subst ht
    unfold awA letM
    rw [dep_leaf]
    exact Nat.le_refl _
  · unfold awB letM
    rw [dep_leaf]
    omega
theorem aw_fit (l : List Nat) (hl : l.length ≤ 6) : FitM awR l := fitM_lv aw_lv (by have := awR_dep; omega) l hl

end Go.Proofs.YtjeplmnjgdpgbaaGreatDoor

/-! What the last region of awake asks of its calls. No condition. -/
namespace Go.Proofs.YtjeplmnjgdpgbaaGreatDoor
open Go.RowKit Go.Lib
set_option linter.unusedVariables false
set_option linter.unusedSimpArgs false

theorem GivesRe.any {P : Nat → Prop} {t : RT} {w : World} {e : Ending} {w' : World} (h : GivesRe P t w e w') : GivesRe (fun _ => True) t w e w' := by
  obtain ⟨x, he, hr, hb⟩ := h
  exact ⟨x, he, hr.weak fun _ _ _ => trivial, hb⟩
theorem awR_sz : awR.sz ≤ 100 := by
  unfold awR awA awB letM
  simp [sz_mk]
theorem aw_same : sameB awR awR = true := (sameB_iff _ _).2 rfl
theorem awH {W : World} (hT : Tab1 W) {C A : Nat} {x y : ReV} (hC : W.heap[C]? = some (.cells x.cells.toArray 29 (0, 0))) (hx : RAt W (fun _ => True) x awR) (hA : W.heap[A]? = some (.cells y.cells.toArray 29 (0, 0))) (hy : RAt W (fun _ => True) y awA) : HAw C A x y W where
  hC := hC
  hx := hx
  hA := hA
  hy := hy
  hD97 := fun w hb y hy => by
    have h := deriv_any w 97 (by decide) y awR hy (hT.stays hb) (aw_fit [97] (by decide)).1 (by have := awR_sz; omega)
    rw [aw_d97] at h
    exact h.mono fun _ _ q => q.any
  hD98 := fun w hb y hy => by
    have h := deriv_any w 98 (by decide) y awR hy (hT.stays hb) (aw_fit [98] (by decide)).1 (by have := awR_sz; omega)
    rw [aw_d98] at h
    exact h.mono fun _ _ q => q.any
  hS := fun w hb y y' hy hy' => by
    have h := sameg_any 3 awR awR y y' w awR_dep (by have := awR_sz; omega) hy hy'
    rw [aw_same] at h
    exact h
  hN := fun w hb y hy => by
    have h := nullable_any w y awR hy (by have := awR_sz; omega)
    rw [aw_nR] at h
    exact h
  hM1 := fun w hb y hy => by
    have h := match_any w y awR ⟨#[97, 97, 98]⟩ hy (hT.stays hb) (aw_fit _ (by decide)) (by decide)
    rw [show byteL ⟨#[97, 97, 98]⟩ = [97, 97, 98] from rfl, aw_aab] at h
    exact h
  hM2 := fun w hb y hy => by
    have h := match_any w y awR ⟨#[97, 98, 97]⟩ hy (hT.stays hb) (aw_fit _ (by decide)) (by decide)
    rw [show byteL ⟨#[97, 98, 97]⟩ = [97, 98, 97] from rfl, aw_aba] at h
    exact h
  hSt := fun w hb y hy => (refstar_any w y awA hy).mono fun _ _ q => q.any
  hN2 := fun w hb y hy => by
    have h := nullable_any w y (starM awA) hy (by rw [aw_star]; unfold awA letM; simp [sz_mk])
    rw [aw_star, aw_nS] at h
    exact h

end Go.Proofs.YtjeplmnjgdpgbaaGreatDoor

/-! What any right program of layer 8 answers. No condition but the library's tables. -/
namespace Go.Proofs.YtjeplmnjgdpgbaaGreatDoor
open Go.RowKit Go.Lib
set_option linter.unusedVariables false
set_option linter.unusedSimpArgs false

theorem let_ra {W : World} {P : Nat → Prop} {a b c d lo hi : Int} (h : IsSet a b c d (rng lo hi)) : RAt W P ⟨2, a, b, c, d, none, 0, 0⟩ (letM lo hi) := by
  have e : letM lo hi = .mk 2 ⟨a, b, c, d⟩ [] := by unfold letM; rw [let_set h]
  rw [e]
  exact kids_empty.tree 2 ⟨a, b, c, d⟩ (by rw [let_set h]; exact of_ok _)
theorem below_alc (w : World) (o : Obj) : Below w.heap.size w (w.alloc o) := (Below.refl _ _).alloc (Nat.le_refl _) _
theorem apart_new (w : World) (o : Obj) (b : Nat) (h : False ∨ ((w.alloc o).drew).heap.size ≤ b) : b ≠ w.heap.size := by
  rcases h with h | h
  · exact absurd h id
  · have h2 : (w.alloc o).heap.size ≤ b := h
    simp at h2
    omega
set_option maxRecDepth 100000 in
set_option maxHeartbeats 8000000 in
theorem awaked_any (w : World) (hT : Tab1 w) : Calls Tryz.prog 5 #[] w (GivesBool true w) := by
  have c1 := refof_any 97 97 w
  have HT := Lib.hid hT
  clear hT
  go_enter Tryz.func5, Tryz.ntmps5
  go_wp2_with fail
  ((with_reducible refine c1.mono ?_))
  rintro _ w1 ⟨a1, a2, a3, a4, hs1, rfl, hb1⟩
  have c2 := refof_any 98 98 w1
  have HS1 := Lib.hid hs1
  have HB1 := Lib.hid hb1
  clear hs1 hb1 c1
  go_wp2_with fail
  ((with_reducible refine c2.mono ?_))
  rintro _ w2 ⟨b1, b2, b3, b4, hs2, rfl, hb2⟩
  have HS2 := Lib.hid hs2
  have HB2 := Lib.hid hb2
  clear hs2 hb2 c2
  obtain ⟨A, hA⟩ : ∃ A, A = w2.heap.size := ⟨_, rfl⟩
  obtain ⟨w4, hw4⟩ : ∃ w4 : World, w4 = (w2.alloc (.cells #[.int .i64 2, .int .u64 a1, .int .u64 a2, .int .u64 a3, .int .u64 a4, .slice none 0 0] 29)).alloc (.cells #[.int .i64 2, .int .u64 b1, .int .u64 b2, .int .u64 b3, .int .u64 b4, .slice none 0 0] 29) := ⟨_, rfl⟩
  have h4A : w4.heap[A]? = some (.cells #[.int .i64 2, .int .u64 a1, .int .u64 a2, .int .u64 a3, .int .u64 a4, .slice none 0 0] 29 (0, 0)) := by rw [hw4, hA, @heap_alloc_old _ _ _ (by simp)]; exact heap_alloc_new _ _
  have h4B : w4.heap[A + 1]? = some (.cells #[.int .i64 2, .int .u64 b1, .int .u64 b2, .int .u64 b3, .int .u64 b4, .slice none 0 0] 29 (0, 0)) := by rw [hw4, hA]; exact two_new w2 _ _
  have hs4 : w4.heap.size = A + 1 + 1 := by rw [hw4, hA]; simp
  have hb24 : Below w2.heap.size w2 w4 := by rw [hw4]; exact ((Below.refl _ _).alloc (Nat.le_refl _) _).alloc (by simp) _
  have hB4 : Below w.heap.size w w4 := HB1.out.trans ((HB2.out.trans (hb24.mono HB2.out.size)).mono HB1.out.size)
  have H4A := Lib.hid h4A
  have H4B := Lib.hid h4B
  have HS4 := Lib.hid hs4
  have HB4 := Lib.hid hB4
  have HAA := Lib.hid hA
  have HW4 := Lib.hid hw4
  have hd4A : (w4.drew).heap[A]? = some (.cells #[.int .i64 2, .int .u64 a1, .int .u64 a2, .int .u64 a3, .int .u64 a4, .slice none 0 0] 29 (0, 0)) := h4A
  clear h4A h4B hs4 hb24 hB4 hA hw4
  go_wp2_with fail
  rw [← HW4.out, ← HAA.out]
  have cs := fun W => refstar_any (P := fun _ => False) W ⟨2, a1, a2, a3, a4, none, 0, 0⟩ awA ((let_ra HS1.out : RAt W (fun _ => False) ⟨2, a1, a2, a3, a4, none, 0, 0⟩ awA))
  have hrb : ∀ (W : World) (P : Nat → Prop), RAt W P ⟨2, b1, b2, b3, b4, none, 0, 0⟩ awB := fun W P => let_ra HS2.out
  unfold ReV.val at cs
  simp only [] at cs
  have HCS := Lib.hid cs
  obtain ⟨⟨ca0, ca1, ca2, ca3, ca4, ca5⟩, _⟩ := six_facts H4A.out
  obtain ⟨⟨cb0, cb1, cb2, cb3, cb4, cb5⟩, _⟩ := six_facts H4B.out
  obtain ⟨⟨ja0, ja1, ja2, ja3, ja4, ja5⟩, _⟩ := six_facts ((@heap_alloc_old w4 (.cells #[.int .i64 0, .int .u64 0, .int .u64 0, .int .u64 0, .int .u64 0, .slice none 0 0] 29) _ (Array.getElem?_eq_some_iff.1 H4A.out).1).trans H4A.out)
  obtain ⟨⟨jb0, jb1, jb2, jb3, jb4, jb5⟩, _⟩ := six_facts ((@heap_alloc_old w4 (.cells #[.int .i64 0, .int .u64 0, .int .u64 0, .int .u64 0, .int .u64 0, .slice none 0 0] 29) _ (Array.getElem?_eq_some_iff.1 H4B.out).1).trans H4B.out)
  clear cs
  have hcat := fun (P : Nat → Prop) (W : World) (G : Nat) (x : ReV) (hP : P G) (hG : W.heap[G]? = some (.cells (x.cells ++ (⟨2, b1, b2, b3, b4, none, 0, 0⟩ : ReV).cells).toArray 29 (0, 0))) (hx : RAt W P x (starM awA)) => refcat_any (P := P) W (two_kids hP hG hx (hrb W P)) (by rw [aw_star]; simp [awA, awB, letM, sz_mk])
  rw [aw_catR] at hcat
  have HCAT := Lib.hid hcat
  have HRB := Lib.hid hrb
  clear hcat hrb
  have hsz1 : A + 1 < (w4.drew).heap.size := by show A + 1 < w4.heap.size; rw [HS4.out]; omega
  have HZ1 := Lib.hid hsz1
  clear hsz1 hd4A
  go_cut [3] from 2 to 3 (fun s3 W => ∃ (C : Nat) (x : ReV), s3 = .pointer (some ⟨C, 0, none⟩) ∧ Hid (W.heap[C]? = some (.cells x.cells.toArray 29 (0, 0))) ∧ Hid (RAt W (fun _ => True) x awR) ∧ Hid (Below w4.heap.size w4 W))
  · go_region_law (first
      | (go_simp; go_at_call 14; (with_reducible (refine (HCS.out w4.drew).mono ?_)); rintro _ w6 ⟨x6, rfl, hx6, hb6⟩; obtain ⟨e0, e1, e2, e3, e4, q6, m6, cp6⟩ := x6; unfold ReV.val; have h6 := (hb6.block (A + 1) HZ1.out).trans H4B.out; obtain ⟨⟨eb0, eb1, eb2, eb3, eb4, eb5⟩, _⟩ := six_facts h6; obtain ⟨⟨ec0, ec1, ec2, ec3, ec4, ec5⟩, _⟩ := six_facts ((@heap_alloc_old w6 (.cells #[.int .i64 0, .int .u64 0, .int .u64 0, .int .u64 0, .int .u64 0, .slice none 0 0] 29) _ (Array.getElem?_eq_some_iff.1 h6).1).trans h6); have HX6 := Lib.hid hx6; have HB6 : Hid (Below w4.heap.size w4 w6) := (below_drawn (Below.refl _ _) 1).trans hb6; clear hx6 hb6 h6)
      | (go_simp; go_at_call 14; (with_reducible (refine (HCS.out ((w4.alloc (.cells #[.int .i64 0, .int .u64 0, .int .u64 0, .int .u64 0, .int .u64 0, .slice none 0 0] 29)).drew)).mono ?_)); rintro _ w6 ⟨x6, rfl, hx6, hb6⟩; obtain ⟨e0, e1, e2, e3, e4, q6, m6, cp6⟩ := x6; unfold ReV.val; have h6 := (hb6.block (A + 1) (by show A + 1 < (w4.alloc (.cells #[.int .i64 0, .int .u64 0, .int .u64 0, .int .u64 0, .int .u64 0, .slice none 0 0] 29)).heap.size; have := HZ1.out; have : A + 1 < w4.heap.size := this; simp; omega)).trans ((@heap_alloc_old w4 _ _ HZ1.out).trans H4B.out); obtain ⟨⟨eb0, eb1, eb2, eb3, eb4, eb5⟩, _⟩ := six_facts h6; obtain ⟨⟨ec0, ec1, ec2, ec3, ec4, ec5⟩, _⟩ := six_facts ((@heap_alloc_old w6 (.cells #[.int .i64 0, .int .u64 0, .int .u64 0, .int .u64 0, .int .u64 0, .slice none 0 0] 29) _ (Array.getElem?_eq_some_iff.1 h6).1).trans h6); have h6D := (hb6.block w4.heap.size (by show w4.heap.size < (w4.alloc _).heap.size; simp)).trans (heap_alloc_new w4 _); have H6D := Lib.hid h6D; clear h6D; have HX6 := Lib.hid hx6; have HB6 : Hid (Below w4.heap.size w4 w6) := (below_drawn (below_alc w4 _) 1).trans (hb6.mono (by show w4.heap.size ≤ (w4.alloc _).heap.size; simp)); clear hx6 hb6 h6)
      | (go_simp; go_at_call 13; (with_reducible (refine (HCAT.out (fun g => g ≠ w4.heap.size) (w6.alloc (.cells #[.int .i64 e0, .int .u64 e1, .int .u64 e2, .int .u64 e3, .int .u64 e4, .slice q6 m6 cp6, .int .i64 2, .int .u64 b1, .int .u64 b2, .int .u64 b3, .int .u64 b4, .slice none 0 0] 29)) w6.heap.size ⟨e0, e1, e2, e3, e4, q6, m6, cp6⟩ (by have := (Array.getElem?_eq_some_iff.1 H6D.out).1; simp; omega) (heap_alloc_new _ _) ((HX6.out.weak fun b hb hl => (apart_new w4 _ b hb)).under (below_alc w6 _))).mono ?_)); rintro _ w7 ⟨x7, rfl, hx7, hb7⟩; obtain ⟨g0, g1, g2, g3, g4, q7, m7, cp7⟩ := x7; unfold ReV.val; have h7D := (hb7.block w4.heap.size (by have := (Array.getElem?_eq_some_iff.1 H6D.out).1; simp; omega)).trans ((@heap_alloc_old w6 _ _ (Array.getElem?_eq_some_iff.1 H6D.out).1).trans H6D.out); obtain ⟨⟨z0, z1, z2, z3, z4, z5⟩, y0, y1, y2, y3, y4, y5⟩ := zero_facts h7D; have H7D := Lib.hid h7D; clear h7D; have HX7 : Hid (RAt w7 (fun b => b ≠ w4.heap.size) ⟨g0, g1, g2, g3, g4, q7, m7, cp7⟩ awR) := hx7.weak (fun b hb _ => by rcases hb with hb | hb; exact hb; (have := (Array.getElem?_eq_some_iff.1 H6D.out).1; simp at hb; omega)); have HB7 : Hid (Below w6.heap.size w6 w7) := (below_alc w6 _).trans (hb7.mono (by simp)); clear hx7 hb7)
      | (go_simp; go_at_call 13; (with_reducible (refine (HCAT.out (fun _ => True) (w6.alloc (.cells #[.int .i64 e0, .int .u64 e1, .int .u64 e2, .int .u64 e3, .int .u64 e4, .slice q6 m6 cp6, .int .i64 2, .int .u64 b1, .int .u64 b2, .int .u64 b3, .int .u64 b4, .slice none 0 0] 29)) w6.heap.size ⟨e0, e1, e2, e3, e4, q6, m6, cp6⟩ trivial (heap_alloc_new _ _) ((HX6.out.weak fun b hb hl => trivial).under (below_alc w6 _))).mono ?_)); rintro _ w7 ⟨x7, rfl, hx7, hb7⟩; obtain ⟨g0, g1, g2, g3, g4, q7, m7, cp7⟩ := x7; unfold ReV.val; have HX7 := Lib.hid hx7; have HB7 : Hid (Below w6.heap.size w6 w7) := (below_alc w6 _).trans (hb7.mono (by simp)); clear hx7 hb7)
      | (go_simp; go_at_call 13; (with_reducible (refine (HCAT.out (fun g => g ≠ w6.heap.size + 1) ((w6.alloc (.cells #[.int .i64 e0, .int .u64 e1, .int .u64 e2, .int .u64 e3, .int .u64 e4, .slice q6 m6 cp6, .int .i64 2, .int .u64 b1, .int .u64 b2, .int .u64 b3, .int .u64 b4, .slice none 0 0] 29)).alloc (.cells #[.int .i64 0, .int .u64 0, .int .u64 0, .int .u64 0, .int .u64 0, .slice none 0 0] 29)) (w6.heap.size) ⟨e0, e1, e2, e3, e4, q6, m6, cp6⟩ (by simp) ((@heap_alloc_old _ _ _ (by simp)).trans (heap_alloc_new _ _)) ((HX6.out.weak fun b hb hl => (by omega)).under (((below_alc w6 (.cells #[.int .i64 e0, .int .u64 e1, .int .u64 e2, .int .u64 e3, .int .u64 e4, .slice q6 m6 cp6, .int .i64 2, .int .u64 b1, .int .u64 b2, .int .u64 b3, .int .u64 b4, .slice none 0 0] 29)).alloc (by simp) (.cells #[.int .i64 0, .int .u64 0, .int .u64 0, .int .u64 0, .int .u64 0, .slice none 0 0] 29))))).mono ?_)); rintro _ w7 ⟨x7, rfl, hx7, hb7⟩; obtain ⟨g0, g1, g2, g3, g4, q7, m7, cp7⟩ := x7; unfold ReV.val; have h7D := (hb7.block (w6.heap.size + 1) (by first | (simp; done) | (simp; omega))).trans (two_new w6 _ _); obtain ⟨⟨z0, z1, z2, z3, z4, z5⟩, y0, y1, y2, y3, y4, y5⟩ := zero_facts h7D; have H7D := Lib.hid h7D; clear h7D; have HX7 : Hid (RAt w7 (fun b => b ≠ w6.heap.size + 1) ⟨g0, g1, g2, g3, g4, q7, m7, cp7⟩ awR) := hx7.weak (fun b hb _ => by rcases hb with hb | hb; exact hb; (simp at hb; omega)); have HB7 : Hid (Below w6.heap.size w6 w7) := (((below_alc w6 (.cells #[.int .i64 e0, .int .u64 e1, .int .u64 e2, .int .u64 e3, .int .u64 e4, .slice q6 m6 cp6, .int .i64 2, .int .u64 b1, .int .u64 b2, .int .u64 b3, .int .u64 b4, .slice none 0 0] 29)).alloc (by simp) (.cells #[.int .i64 0, .int .u64 0, .int .u64 0, .int .u64 0, .int .u64 0, .slice none 0 0] 29))).trans (hb7.mono (((below_alc w6 (.cells #[.int .i64 e0, .int .u64 e1, .int .u64 e2, .int .u64 e3, .int .u64 e4, .slice q6 m6 cp6, .int .i64 2, .int .u64 b1, .int .u64 b2, .int .u64 b3, .int .u64 b4, .slice none 0 0] 29)).alloc (by simp) (.cells #[.int .i64 0, .int .u64 0, .int .u64 0, .int .u64 0, .int .u64 0, .slice none 0 0] 29))).size); clear hx7 hb7)
      | (go_simp; go_at_call 13; (with_reducible (refine (HCAT.out (fun g => g ≠ w6.heap.size) ((w6.alloc (.cells #[.int .i64 0, .int .u64 0, .int .u64 0, .int .u64 0, .int .u64 0, .slice none 0 0] 29)).alloc (.cells #[.int .i64 e0, .int .u64 e1, .int .u64 e2, .int .u64 e3, .int .u64 e4, .slice q6 m6 cp6, .int .i64 2, .int .u64 b1, .int .u64 b2, .int .u64 b3, .int .u64 b4, .slice none 0 0] 29)) (w6.heap.size + 1) ⟨e0, e1, e2, e3, e4, q6, m6, cp6⟩ (by simp) (two_new w6 _ _) ((HX6.out.weak fun b hb hl => (by omega)).under (((below_alc w6 (.cells #[.int .i64 0, .int .u64 0, .int .u64 0, .int .u64 0, .int .u64 0, .slice none 0 0] 29)).alloc (by simp) (.cells #[.int .i64 e0, .int .u64 e1, .int .u64 e2, .int .u64 e3, .int .u64 e4, .slice q6 m6 cp6, .int .i64 2, .int .u64 b1, .int .u64 b2, .int .u64 b3, .int .u64 b4, .slice none 0 0] 29))))).mono ?_)); rintro _ w7 ⟨x7, rfl, hx7, hb7⟩; obtain ⟨g0, g1, g2, g3, g4, q7, m7, cp7⟩ := x7; unfold ReV.val; have h7D := (hb7.block (w6.heap.size) (by first | (simp; done) | (simp; omega))).trans ((@heap_alloc_old _ _ _ (by simp)).trans (heap_alloc_new _ _)); obtain ⟨⟨z0, z1, z2, z3, z4, z5⟩, y0, y1, y2, y3, y4, y5⟩ := zero_facts h7D; have H7D := Lib.hid h7D; clear h7D; have HX7 : Hid (RAt w7 (fun b => b ≠ w6.heap.size) ⟨g0, g1, g2, g3, g4, q7, m7, cp7⟩ awR) := hx7.weak (fun b hb _ => by rcases hb with hb | hb; exact hb; (simp at hb; omega)); have HB7 : Hid (Below w6.heap.size w6 w7) := (((below_alc w6 (.cells #[.int .i64 0, .int .u64 0, .int .u64 0, .int .u64 0, .int .u64 0, .slice none 0 0] 29)).alloc (by simp) (.cells #[.int .i64 e0, .int .u64 e1, .int .u64 e2, .int .u64 e3, .int .u64 e4, .slice q6 m6 cp6, .int .i64 2, .int .u64 b1, .int .u64 b2, .int .u64 b3, .int .u64 b4, .slice none 0 0] 29))).trans (hb7.mono (((below_alc w6 (.cells #[.int .i64 0, .int .u64 0, .int .u64 0, .int .u64 0, .int .u64 0, .slice none 0 0] 29)).alloc (by simp) (.cells #[.int .i64 e0, .int .u64 e1, .int .u64 e2, .int .u64 e3, .int .u64 e4, .slice q6 m6 cp6, .int .i64 2, .int .u64 b1, .int .u64 b2, .int .u64 b3, .int .u64 b4, .slice none 0 0] 29))).size); clear hx7 hb7)
      | fail)
    all_goals (go_wp2_with fail; go_meet)
    all_goals have hall : Below w4.heap.size w4 w7 := HB6.out.trans (HB7.out.mono HB6.out.size)
    all_goals first
      | (have hD := H7D.out; exact ⟨_, ⟨g0, g1, g2, g3, g4, q7, m7, cp7⟩, rfl, set6_heap hD _ _ _ _ _ _, HX7.out.kept (Keeps.of (by simp [World.setCell]) fun b hp hl => ⟨six_ne hp _ _ _ _ _ _, trivial⟩), six_set hall (by have := HB6.out.size; omega) _ _ _ _ _ _⟩)
      | exact ⟨w7.heap.size, ⟨g0, g1, g2, g3, g4, q7, m7, cp7⟩, rfl, heap_alloc_new w7 _, (HX7.out.under (below_alc w7 _)).weak fun _ _ _ => trivial, hall.trans ((below_alc w7 _).mono hall.size)⟩
  obtain ⟨C, x, rfl, hC, hx, hb⟩ := hcut
  refine (by assumption : ∀ (a : Act) (w : World), Code.wp Tryz.prog _ _ a w → _) _ _ ?_
  have hT4 : Tab1 wc := HT.out.stays (HB4.out.trans (hb.out.mono HB4.out.size))
  have hAc : wc.heap[A]? = some (.cells (⟨2, a1, a2, a3, a4, none, 0, 0⟩ : ReV).cells.toArray 29 (0, 0)) := (hb.out.block A (by rw [HS4.out]; omega)).trans H4A.out
  have hH := awH hT4 hC.out hx.out hAc (let_ra HS1.out)
  refine wp_seq ?_
  refine regAw C A x _ hH (by kernel_rfl) rfl ?_ ?_
  · intro q hq
    simp only [fAw, List.mem_cons, List.not_mem_nil, or_false] at hq
    rcases hq with rfl | rfl <;> rfl
  intro tm w9 htm h4 hb9
  have hres : (results Tryz.f5 tm).run Tryz.prog w9 = .ok (.bool true) w9 := by
    have hf : Tryz.f5.results = #[.tmp 0] := by kernel_rfl
    simp [results, hf]
    rw [← Array.getD_eq_getD_getElem?]
    exact h4
  have hend : GivesBool true w (.returned (.bool true)) w9 := ⟨rfl, HB4.out.trans ((hb.out.trans (hb9.mono hb.out.size)).mono HB4.out.size)⟩
  exact wp_ret (bodyPost_ret_by (P := Tryz.prog) (fn := Tryz.f5) (R := GivesBool true w) (a := ⟨tm, []⟩) hres rfl hend)

end Go.Proofs.YtjeplmnjgdpgbaaGreatDoor

/-! The laws' Made: an expression by numbers, at depth 4. No condition but how many numbers are taken. -/
namespace Go.Proofs.YtjeplmnjgdpgbaaGreatDoor
open Go.RowKit Go.Lib
set_option linter.unusedVariables false
set_option linter.unusedSimpArgs false

theorem BytesLow.up {W : World} {R R' : Nat} {v : Value} {zs : List Int} (h : BytesLow W R v zs) (hr : R ≤ R') : BytesLow W R' v zs := by
  obtain ⟨a, cap, h1, h2, h3, h4, h5⟩ := h
  refine ⟨a, cap, h1, h2, h3, h4, fun hn => ?_⟩
  obtain ⟨b, off, ha, hlt, hc⟩ := h5 hn
  exact ⟨b, off, ha, by omega, hc⟩
set_option maxRecDepth 100000 in
set_option maxHeartbeats 8000000 in
theorem made_any (w : World) (a0 : Option Addr) (cap0 : Nat) (zs : List Int) (a : Nat) (ha : a ≤ 867232) (hv : BytesLow w w.heap.size (.slice a0 zs.length cap0) zs) :
    Calls Tryz.prog 6 #[.slice a0 zs.length cap0, .int .i64 (a : Int)] w (GivesRe (fun b => w.heap.size ≤ b) (reM zs 4 a).1 w) := by
  obtain ⟨D, hD⟩ : ∃ D, D = w.heap.size := ⟨_, rfl⟩
  obtain ⟨w1, hw1⟩ : ∃ w1 : World, w1 = w.alloc (.cells #[.int .i64 0, .int .u64 0, .int .u64 0, .int .u64 0, .int .u64 0, .slice none 0 0] 29) := ⟨_, rfl⟩
  have hb1 : Below w.heap.size w w1 := by rw [hw1]; exact (Below.refl _ _).alloc (Nat.le_refl _) _
  have hnD : w1.heap[D]? = some (.cells #[.int .i64 0, .int .u64 0, .int .u64 0, .int .u64 0, .int .u64 0, .slice none 0 0] 29 (0, 0)) := by rw [hw1, hD]; exact heap_alloc_new _ _
  have hDl : D < w1.heap.size := (Array.getElem?_eq_some_iff.1 hnD).1
  have hs1 : w1.heap.size = D + 1 := by rw [hw1, hD]; simp
  obtain ⟨R, hR⟩ : ∃ R, R = D + 1 := ⟨_, rfl⟩
  obtain ⟨w2, hw2⟩ : ∃ w2 : World, w2 = w1.alloc (.cells #[.slice a0 zs.length cap0, .int .i64 (a : Int)] 43) := ⟨_, rfl⟩
  have hb2 : Below w.heap.size w w2 := by rw [hw2]; exact hb1.alloc (by omega) _
  have hp2 : PickAt w2 R (.slice a0 zs.length cap0) zs a := by
    refine ⟨?_, ?_⟩
    · rw [hw2, hR, ← hs1]; exact heap_alloc_new _ _
    · exact (hv.kept fun b hb => hb2.block b hb).up (by omega)
  have h2D : w2.heap[D]? = some (.cells #[.int .i64 0, .int .u64 0, .int .u64 0, .int .u64 0, .int .u64 0, .slice none 0 0] 29 (0, 0)) := by rw [hw2]; exact (@heap_alloc_old _ _ _ hDl).trans hnD
  have hs2 : w2.heap.size = D + 2 := by rw [hw2]; simp [hs1]
  have c1 := re_any (R := R) (v := .slice a0 zs.length cap0) (zs := zs) 4 (by decide) w2 a hp2 (by omega)
  obtain ⟨T, hT⟩ : ∃ T, T = reM zs 4 a := ⟨_, rfl⟩
  rw [← hT] at c1 ⊢
  rw [show ((4 : Nat) : Int) = 4 from rfl] at c1
  have HW1 := Lib.hid hw1
  have HW2 := Lib.hid hw2
  have HDD := Lib.hid hD
  have HRR := Lib.hid hR
  have HB2 := Lib.hid hb2
  have H2D := Lib.hid h2D
  have HS1 := Lib.hid hs1
  have HS2 := Lib.hid hs2
  clear hw1 hw2 hD hR hb1 hb2 hp2 hv hnD hDl h2D hs1 hs2 hT
  go_enter Tryz.func6, Tryz.ntmps6
  go_wp2_with fail
  rw [← HW1.out, ← HDD.out, ← HW2.out, ← HRR.out]
  ((with_reducible refine c1.mono ?_))
  rintro _ w5 ⟨x5, rfl, hx5, hp5, hg5⟩
  clear c1
  obtain ⟨k, a1, b, c, dw, q, m, cp⟩ := x5
  have h5D := (hg5.block D (by rw [HS2.out]; omega) (fun e => by have := HRR.out; have := HS1.out; cases e; omega)).trans H2D.out
  have H5D := Lib.hid h5D
  have d0 : w5.cell? ⟨D, 0, none⟩ = some (.int .i64 0) := by simp [World.cell?, h5D]
  have d1 : w5.cell? ⟨D, 1, none⟩ = some (.int .u64 0) := by simp [World.cell?, h5D]
  have d2 : w5.cell? ⟨D, 2, none⟩ = some (.int .u64 0) := by simp [World.cell?, h5D]
  have d3 : w5.cell? ⟨D, 3, none⟩ = some (.int .u64 0) := by simp [World.cell?, h5D]
  have d4 : w5.cell? ⟨D, 4, none⟩ = some (.int .u64 0) := by simp [World.cell?, h5D]
  have d5 : w5.cell? ⟨D, 5, none⟩ = some (.slice none 0 0) := by simp [World.cell?, h5D]
  have f0 := frozen_no h5D 0
  have f1 := frozen_no h5D 1
  have f2 := frozen_no h5D 2
  have f3 := frozen_no h5D 3
  have f4 := frozen_no h5D 4
  have f5 := frozen_no h5D 5
  have HX5 := Lib.hid hx5
  have HG5 := Lib.hid hg5
  clear hx5 hp5 hg5 h5D
  unfold ReV.val
  go_wp2
  refine bodyPost_ret_by (results_cell_row rfl _ _ D 29 #[.int .i64 k, .int .u64 a1, .int .u64 b, .int .u64 c, .int .u64 dw, .slice q m cp] (0, 0) _ rfl (set6_heap H5D.out _ _ _ _ _ _) Tryz.underlying29 rfl (by kernel_rfl)) rfl ?_
  have hbig : Below w.heap.size w w5 := HB2.out.grown HG5.out (by have := HS2.out; have := HDD.out; omega) (fun r hr => by have := HRR.out; have := HS1.out; have := HDD.out; cases hr; omega)
  refine ⟨⟨k, a1, b, c, dw, q, m, cp⟩, rfl, ?_, six_set hbig (by have := HDD.out; omega) _ _ _ _ _ _⟩
  refine HX5.out.kept (Keeps.of (by simp [World.setCell]) fun b hp hl => ?_)
  have h1 := HS2.out
  have h2 := HDD.out
  have hbD : b ≠ D := by omega
  exact ⟨six_ne hbD _ _ _ _ _ _, by omega⟩

end Go.Proofs.YtjeplmnjgdpgbaaGreatDoor

/-! The law's own texts of few letters: some text, no longer than asked. No condition. -/
namespace Go.Proofs.YtjeplmnjgdpgbaaGreatDoor
open Go.RowKit Go.Lib
set_option linter.unusedVariables false
set_option linter.unusedSimpArgs false

/-- The call returns a text of so many bytes at most. -/
def GivesUpto (n : Nat) (w : World) (e : Ending) (w' : World) : Prop := ∃ s : ByteArray, s.size ≤ n ∧ e = .returned (.string s) ∧ Below w.heap.size w w'

set_option maxRecDepth 100000 in
set_option maxHeartbeats 8000000 in
theorem pieces_low {zs : List Int} {a0 : Option Addr} {cap : Nat} {w : World} (hv : BytesLow w w.heap.size (.slice a0 zs.length cap) zs) (g : Nat) (hs : w.heap[g]? = some (.cells #[.string ⟨#[97]⟩, .string ⟨#[98]⟩, .string ⟨#[99]⟩, .string ⟨#[100]⟩, .string ⟨#[97]⟩] 9 (0, 0))) :
    Calls Tryz.prog 17 #[.slice a0 zs.length cap, .slice (some ⟨g, 0, none⟩) 5 5] w (GivesUpto 14 w) := by
  obtain ⟨a, cap', he, hcap, hmax, hz, hc⟩ := hv
  cases he
  unfold maxLen at hmax
  have HZ := Lib.hid hz
  have HC := Lib.hid hc
  have hs5 : ∀ i : Nat, i < 5 → ∃ s : ByteArray, w.cell? ⟨g, i, none⟩ = some (.string s) ∧ s.size = 1 := fun i hi => by
    match i, hi with
    | 0, _ => exact ⟨_, by simp only [World.cell?, hs]; rfl, rfl⟩
    | 1, _ => exact ⟨_, by simp only [World.cell?, hs]; rfl, rfl⟩
    | 2, _ => exact ⟨_, by simp only [World.cell?, hs]; rfl, rfl⟩
    | 3, _ => exact ⟨_, by simp only [World.cell?, hs]; rfl, rfl⟩
    | 4, _ => exact ⟨_, by simp only [World.cell?, hs]; rfl, rfl⟩
    | n + 5, h => omega
  have HS := Lib.hid hs5
  obtain ⟨n, hn⟩ : ∃ n, n = zs.length := ⟨_, rfl⟩
  rw [← hn] at hcap hmax ⊢
  have HN := Lib.hid hn
  clear hz hc hs hs5 hn
  go_enter Tryz.func17, Tryz.ntmps17
  go_wp2_with fail
  go_loop [5, 6] (fun t i => ∃ (k : Nat) (s : ByteArray), i = .int .i64 k ∧ t = .string s ∧ k ≤ 14 ∧ s.size ≤ k) (fun _ i => 14 - (intOf i).toNat)
  case atStart => exact ⟨0, ⟨#[]⟩, rfl, rfl, by omega, by decide⟩
  case round =>
    obtain ⟨k, s, rfl, rfl, hk, hs⟩ := hrel
    by_cases h1 : k < n
    · have q1 : decide ((k : Int) < (n : Int)) = true := decide_eq_true (by omega)
      have q1' : decide (k < n) = true := decide_eq_true h1
      by_cases h2 : k < 14
      · have q2 : decide ((k : Int) < 14) = true := decide_eq_true (by omega)
        have q2' : decide (k < 14) = true := decide_eq_true h2
        obtain ⟨b, off, rfl, hb, hcell⟩ := HC.out (by rw [← HN.out]; omega)
        have hkl : k < zs.length := by rw [← HN.out]; exact h1
        have c0 := hcell k zs[k] (List.getElem?_eq_getElem hkl)
        have hz := HZ.out zs[k] (List.getElem_mem hkl)
        obtain ⟨z, hzz⟩ : ∃ z, z = zs[k] := ⟨_, rfl⟩
        rw [← hzz] at c0 hz
        obtain ⟨p, hp, hpl⟩ := HS.out (z % 5).toNat (by omega)
        have hm0 : 0 ≤ z % 5 := by omega
        have hm1 : z % 5 < 5 := by omega
        have hsz : (s ++ p).size = s.size + p.size := ByteArray.size_append ..
        have HSZ := Lib.hid hsz
        clear hcell hzz hsz
        go_wp2_with fail
        go_round
        case rel => exact ⟨k + 1, s ++ p, by go_num, rfl, by omega, by rw [HSZ.out]; omega⟩
        case measure => simp [intOf]; omega
      · have q2 : decide ((k : Int) < 14) = false := decide_eq_false (by omega)
        have q2' : decide (k < 14) = false := decide_eq_false h2
        go_wp2_with fail
        go_ret
        exact ⟨s, by omega, rfl, Below.refl _ _⟩
    · have q1 : decide ((k : Int) < (n : Int)) = false := decide_eq_false (by omega)
      have q1' : decide (k < n) = false := decide_eq_false h1
      go_wp2_with fail
      go_ret
      exact ⟨s, by omega, rfl, Below.refl _ _⟩

set_option maxRecDepth 100000 in
set_option maxHeartbeats 8000000 in
theorem letters_any {zs : List Int} {a0 : Option Addr} {cap : Nat} {w : World} (hv : BytesLow w w.heap.size (.slice a0 zs.length cap) zs) (m : Nat) (hm : m ≤ 6) :
    Calls Tryz.prog 7 #[.slice a0 zs.length cap, .int .i64 (m : Int)] w (GivesUpto m w) := by
  obtain ⟨w1, hw1⟩ : ∃ w1 : World, w1 = w.alloc (.cells #[.string ⟨#[97]⟩, .string ⟨#[98]⟩, .string ⟨#[99]⟩, .string ⟨#[100]⟩, .string ⟨#[97]⟩] 9) := ⟨_, rfl⟩
  obtain ⟨G, hG⟩ : ∃ G, G = w.heap.size := ⟨_, rfl⟩
  have hb1 : Below w.heap.size w w1 := by rw [hw1]; exact (Below.refl _ _).alloc (Nat.le_refl _) _
  have h1 : w1.heap[G]? = some (.cells #[.string ⟨#[97]⟩, .string ⟨#[98]⟩, .string ⟨#[99]⟩, .string ⟨#[100]⟩, .string ⟨#[97]⟩] 9 (0, 0)) := by rw [hw1, hG]; exact heap_alloc_new _ _
  have hv1 : BytesLow w1 w1.heap.size (.slice a0 zs.length cap) zs := by
    obtain ⟨a, c, h1, h2, h3, h4, h5⟩ := hv.kept fun b hb => hb1.block b hb
    refine ⟨a, c, h1, h2, h3, h4, fun hn => ?_⟩
    obtain ⟨b, off, ha, hlt, hc⟩ := h5 hn
    exact ⟨b, off, ha, Nat.lt_of_lt_of_le hlt hb1.size, hc⟩
  have c1 := pieces_low hv1 G h1
  have HB1 := Lib.hid hb1
  have HW1 := Lib.hid hw1
  have HG := Lib.hid hG
  clear hb1 hw1 hG h1 hv1 hv
  go_enter Tryz.func7, Tryz.ntmps7
  go_wp2_with fail
  rw [← HW1.out, ← HG.out]
  ((with_reducible refine c1.mono ?_))
  rintro _ w2 ⟨s, hs, rfl, hb2⟩
  have HB2 : Hid (Below w.heap.size w w2) := HB1.out.trans (hb2.mono HB1.out.size)
  clear hb2 c1
  by_cases hl : s.size ≤ m
  · have q1 : (s.size : Int) ≤ (m : Int) := by omega
    go_wp2_with fail
    go_ret
    first | exact ⟨s, hl, rfl, HB2.out⟩ | exact ⟨s.extract 0 (min (s.size : Int) (m : Int)).toNat, by rw [ByteArray.size_extract]; omega, rfl, HB2.out⟩
  · have q1 : ¬ (s.size : Int) ≤ (m : Int) := by omega
    go_wp2_with fail
    go_ret
    first | exact ⟨s.extract 0 m, by rw [ByteArray.size_extract]; omega, rfl, HB2.out⟩ | exact ⟨s.extract 0 (min (s.size : Int) (m : Int)).toNat, by rw [ByteArray.size_extract]; omega, rfl, HB2.out⟩

end Go.Proofs.YtjeplmnjgdpgbaaGreatDoor

/-! What a law of layer 8 owes besides its walk: its arguments, opened and handed back. No condition. -/
namespace Go.Proofs.YtjeplmnjgdpgbaaGreatDoor
open Go.ChangeShapes Go.WideShapes Go.ChangeAt Go.RowKit Go.Lib
set_option linter.unusedVariables false
set_option linter.unusedSimpArgs false

theorem laidOutP : laidOutB Tryz.prog = true := by kernel_rfl
theorem cellsByte : Tryz.prog.cellsOf 5 = 1 := by kernel_rfl

theorem bounds_u8 {x : Int} (h : (Lit.int .u8 x).wf = true) : 0 ≤ x ∧ x ≤ 255 := by simpa [Lit.wf, IntKind.min, IntKind.max, IntKind.signed, IntKind.bits] using h
theorem bounds_u16 {x : Int} (h : (Lit.int .u16 x).wf = true) : 0 ≤ x ∧ x ≤ 65535 := by simpa [Lit.wf, IntKind.min, IntKind.max, IntKind.signed, IntKind.bits] using h

/-- A slice of bytes that reads so. -/
def BytesAt (W : World) (v : Value) (zs : List Int) : Prop :=
  ∃ a cap, v = .slice a zs.length cap ∧ zs.length ≤ cap ∧ zs.length ≤ maxLen ∧ (∀ z ∈ zs, 0 ≤ z ∧ z ≤ 255) ∧
    (0 < zs.length → ∃ b off, a = some ⟨b, off, none⟩ ∧ b < W.heap.size ∧ ∀ (i : Nat) (z : Int), zs[i]? = some z → W.cell? ⟨b, off + i, none⟩ = some (.int .u8 z))

theorem BytesAt.below {W W' : World} {v : Value} {zs : List Int} (h : BytesAt W v zs) (hb : Below W.heap.size W W') : BytesAt W' v zs := by
  obtain ⟨a, cap, h1, h2, h3, h4, h5⟩ := h
  refine ⟨a, cap, h1, h2, h3, h4, fun hn => ?_⟩
  obtain ⟨b, off, ha, hlt, hc⟩ := h5 hn
  exact ⟨b, off, ha, Nat.lt_of_lt_of_le hlt hb.size, fun i z hz => (hb.cell (p := ⟨b, off + i, none⟩) hlt).trans (hc i z hz)⟩

theorem bounds_i64 {x : Int} (h : (Lit.int .i64 x).wf = true) : -9223372036854775808 ≤ x ∧ x ≤ 9223372036854775807 := by simpa [Lit.wf, IntKind.min, IntKind.max, IntKind.signed, IntKind.bits] using h

theorem tabs_of_laid {l : List (String × DataW Unit)} {W : World} (h : laidMetH Tryz.prog l W) (hp : laidMetH Tryz.prog l W = laidMet Tryz.prog l W)
    (e1 : l.filter (fun x => x.1 == "math/bits.deBruijn64tab") = [("math/bits.deBruijn64tab", Lib.tabData .u8 bruijnTab)])
    (e2 : l.filter (fun x => x.1 == "internal/strconv.uint64pow10") = [("internal/strconv.uint64pow10", Lib.tabData .u64 Lib.pow10Tab)]) : Tab1 W := by
  rw [hp] at h
  have h1 := laidMet.filter (fun x => x.1 == "math/bits.deBruijn64tab") h
  have h2 := laidMet.filter (fun x => x.1 == "internal/strconv.uint64pow10") h
  rw [e1] at h1
  rw [e2] at h2
  have t1 := Lib.tabIs_of_head (g := 1) (t := 150) (e := 5) (n := 64) (by kernel_rfl) (by kernel_rfl) Tryz.underlying150 Tryz.underlying5 (by kernel_rfl) (by kernel_rfl) h1
  have t2 := Lib.tabIs_of_head (g := 2) (t := 156) (e := 24) (n := 20) (by kernel_rfl) (by kernel_rfl) Tryz.underlying156 Tryz.underlying24 (by kernel_rfl) (by kernel_rfl) h2
  exact ⟨t2, t1⟩

theorem BytesAt.low {W W' : World} {a : Option Addr} {cap : Nat} {zs : List Int} {n : Nat} (h : BytesAt W (.slice a n cap) zs) (hb : Below W.heap.size W W') : n = zs.length ∧ BytesLow W' W'.heap.size (.slice a zs.length cap) zs := by
  obtain ⟨a', cap', h1, h2, h3, h4, h5⟩ := h
  cases h1
  refine ⟨rfl, a, cap, rfl, h2, h3, h4, fun hn => ?_⟩
  obtain ⟨b, off, ha, hlt, hc⟩ := h5 hn
  exact ⟨b, off, ha, Nat.lt_of_lt_of_le hlt hb.size, fun i z hz => (hb.cell (p := ⟨b, off + i, none⟩) hlt).trans (hc i z hz)⟩

theorem cellsWord : Tryz.prog.cellsOf 24 = 1 := by kernel_rfl
theorem cellsSet : Tryz.prog.cellsOf 26 = 4 := by kernel_rfl

theorem list4 {α : Type} (l : List α) (h : (⟨l⟩ : Array α).size = 4) : ∃ a b c d, l = [a, b, c, d] := by
  match l, h with
  | [a, b, c, d], _ => exact ⟨a, b, c, d, rfl⟩

section
variable {H : Type} {enc : TypeId × Value → H}

/-- The datum of a set. -/
def setD (a0 a1 a2 a3 : Int) : DataW H := .agg [.lit (.int .u64 a0), .lit (.int .u64 a1), .lit (.int .u64 a2), .lit (.int .u64 a3)]

theorem wfu64r {x : Int} (h : (Lit.int .u64 x).wf = true) : 0 ≤ x ∧ x ≤ 18446744073709551615 := by simpa [Lit.wf, IntKind.min, IntKind.max, IntKind.signed, IntKind.bits] using h

set_option maxRecDepth 100000 in
theorem open_set {W : World} {base b0 : Nat} {sp : Nat → Bool} {v : Value} {d : DataW H} {p : List MemPlace} (hval : Value.okWide Tryz.prog W .any base 26 v) (h : DataW.Trod enc Tryz.prog W b0 sp true 26 v d p) :
    ∃ a0 a1 a2 a3 : Int, v = .agg #[.int .u64 a0, .int .u64 a1, .int .u64 a2, .int .u64 a3] ∧ d = setD a0 a1 a2 a3 ∧ p = [] ∧ ((Lit.int .u64 a0).wf = true ∧ (Lit.int .u64 a1).wf = true ∧ (Lit.int .u64 a2).wf = true ∧ (Lit.int .u64 a3).wf = true) ∧ IsSet a0 a1 a2 a3 (memb a0 a1 a2 a3) := by
  obtain ⟨cs, rfl, hsz, _⟩ : ∃ cs, v = .agg cs ∧ cs.size = Tryz.prog.cellsOf 26 ∧ Row.okWide Tryz.prog W .any base 26 cs := by
    simpa [Value.okWide, Tryz.underlying26] using hval
  rw [cellsSet] at hsz
  obtain ⟨l⟩ := cs
  obtain ⟨c0, c1, c2, c3, rfl⟩ := list4 l hsz
  obtain ⟨fuel, hf⟩ := h
  obtain ⟨y0, y1, y2, y3, m, hx, hy0, hy1, hy2, hy3⟩ := trod_array4 Tryz.underlying26 cellsWord hf
  obtain ⟨x0, e0, rfl, w0⟩ := DataW.trod_int Tryz.underlying24 hy0
  obtain ⟨x1, e1, rfl, w1⟩ := DataW.trod_int Tryz.underlying24 hy1
  obtain ⟨x2, e2, rfl, w2⟩ := DataW.trod_int Tryz.underlying24 hy2
  obtain ⟨x3, e3, rfl, w3⟩ := DataW.trod_int Tryz.underlying24 hy3
  simp at e0 e1 e2 e3
  subst e0 e1 e2 e3
  simp only [Prod.mk.injEq] at hx
  obtain ⟨rfl, rfl⟩ := hx
  exact ⟨x0, x1, x2, x3, rfl, rfl, rfl, ⟨w0, w1, w2, w3⟩, IsSet.of _ _ _ _ (wfu64r w0) (wfu64r w1) (wfu64r w2) (wfu64r w3)⟩

set_option maxRecDepth 100000 in
theorem shut_set {W : World} {b0 : Nat} {sp : Nat → Bool} {hd : Bool} {a0 a1 a2 a3 : Int} (h : (Lit.int .u64 a0).wf = true ∧ (Lit.int .u64 a1).wf = true ∧ (Lit.int .u64 a2).wf = true ∧ (Lit.int .u64 a3).wf = true) :
    DataW.Trod enc Tryz.prog W b0 sp hd 26 (.agg #[.int .u64 a0, .int .u64 a1, .int .u64 a2, .int .u64 a3]) (setD a0 a1 a2 a3) [] := by
  obtain ⟨w0, w1, w2, w3⟩ := h
  exact ⟨2, by simp [setD, DataW.trod, Value.cells, Tryz.underlying26, Tryz.underlying24, cellsSet, cellsWord, w0, w1, w2, w3, show List.range 4 = [0, 1, 2, 3] from rfl]⟩


set_option maxRecDepth 100000 in
theorem open_bytes {W : World} {base : Nat} {v : Value} {d : DataW H} {p : List MemPlace} (hval : Value.okWide Tryz.prog W .any base 22 v) (h : DataW.Trod enc Tryz.prog W 0 (fun _ => true) true 22 v d p) :
    ∃ zs, BytesAt W v zs := by
  obtain ⟨a0, len, cap, rfl⟩ := okWide_slice Tryz.underlying22 hval
  obtain ⟨fuel, hf⟩ := h
  rcases open_ints Tryz.underlying22 Tryz.underlying5 cellsByte hf with ⟨hcs, hx⟩ | ⟨a, len', cap', zs, hcs, _, hl, hm, hz, hx, hc, hw⟩
  · simp [Value.cells] at hcs
    obtain ⟨rfl, rfl, rfl⟩ := hcs
    exact ⟨[], none, 0, rfl, Nat.le_refl _, Nat.zero_le _, fun z hz => by simp at hz, fun h => by simp at h⟩
  · simp [Value.cells] at hcs
    obtain ⟨rfl, rfl, rfl⟩ := hcs
    simp only [if_true] at hz

    have hlen : (zs.take len).length = len := by rw [List.length_take]; omega
    refine ⟨zs.take len, some a, cap, by rw [hlen], by omega, Nat.le_trans (by omega : (zs.take len).length ≤ cap) hm, fun z hz => bounds_u8 (hw z (List.mem_of_mem_take hz)), fun hn => ?_⟩
    obtain ⟨b, off, spot⟩ := a
    have h0 := hc 0 (by omega)
    have hspot : spot = none := by simpa [Addr.add] using World.cell?_spot h0
    subst hspot
    have hlt : b < W.heap.size := by
      have := World.block_lt_of_cell? W _ h0
      simpa [Addr.add] using this
    refine ⟨b, off, rfl, hlt, fun i z hzi => ?_⟩
    have hi : i < len := by
      have := (List.getElem?_eq_some_iff.1 hzi).1
      omega
    have hci := hc i (by omega)
    rw [List.getElem?_take_of_lt hi] at hzi
    have e : (⟨b, off, none⟩ : Addr).add i = ⟨b, off + i, none⟩ := by cases i <;> simp [Addr.add]
    rw [e, List.getD_eq_getElem?_getD, hzi] at hci
    exact hci

/-- What a law owes behind its walk, where an argument lies in memory. -/
theorem post_of_old {P : Program} {f : Func} {s : ChangeSpec} {fresh handsOn : Bool} {W W' : World} {args : Array Value} {v : Value} {ds gs : List (DataW H)} {before pa pv : List MemPlace}
    (hW : DataW.Whole enc P f.params.toList s.vars false W args.toList ds gs before)
    (hres : ∀ (b : Nat) (sp : Nat → Bool) (hd : Bool), DataW.TrodAll enc P W' b sp hd f.resultTypes.toList (v.resultList f.resultTypes.size) (s.fn H (ds ++ gs)).results [])
    (hargs : DataW.TrodAll enc P W' 0 (fun b => decide (b < W.heap.size)) true f.params.toList args.toList (s.fn H (ds ++ gs)).args pa)
    (hvars : ∀ sp : Nat → Bool, DataW.TrodVars enc P W' sp s.vars (s.fn H (ds ++ gs)).vars pv)
    (hps : before = pa ++ pv) (hb : Below W.heap.size W W') :
    s.post enc P f false fresh handsOn false W args v W' := by
  refine ⟨ds, gs, before, [], pa, pv, hW, hres _ _ _, hargs, hvars _, World.keptBut_mono (fun p hp => ⟨hp, ?_⟩) (hb.frame _), fun h => by cases h⟩
  rw [hps, List.mem_append] at hp
  exact Or.inr hp
end

end Go.Proofs.YtjeplmnjgdpgbaaGreatDoor

/-! The last region of the law: whatever order its operations take, it says true. No condition. -/
namespace Go.Proofs.YtjeplmnjgdpgbaaGreatDoor
open Go.RowKit Go.Lib
set_option linter.unusedVariables false
set_option linter.unusedSimpArgs false

noncomputable def opsAh : Array Oper := ((Tryz.prog.funcs[3]?.bind (·.body)).map (opsAt 7)).getD #[]
noncomputable def sAh (C : Nat) (x : ReV) (r d : RT) (k : Nat) (s B1 U : ByteArray) (m1 m2 : Bool) : List SD := [.v tt, .v tt, .x r, .v (.int .i64 (k : Int)), .x d, .v (.string s), .v (.bool m1), .x r, .v (.int .i64 (k : Int)), .v (.int .u8 (k : Int)), .b (k : Int), .v (.string B1), .v (.string s), .v (.string U), .v (.bool m1), .v tt, .v tt, .v tt, .x r, .v (.bool m2), .x r, .v (.bool m2), .v tt, .v tt, .v tt]
noncomputable def fAh (C : Nat) (x : ReV) (r d : RT) (k : Nat) (s B1 U : ByteArray) (m1 m2 : Bool) : List (Nat × Value) := [(7, tt), (8, .pointer (some ⟨C, 0, none⟩)), (9, .string s), (10, .int .i64 (k : Int))]
theorem regKAh (C : Nat) (x : ReV) (r d : RT) (k : Nat) (s B1 U : ByteArray) (m1 m2 : Bool) : RegK opsAh 25 46 6 22 (sAh C x r d k s B1 U m1 m2) (fAh C x r d k s B1 U m1 m2) :=
  ⟨by kernel_rfl, by kernel_rfl, rfl, by decide, by decide, (fun x hx => by simp [fAh] at hx; rcases hx with rfl | rfl | rfl | rfl <;> simp)⟩
/-- What is known. -/
structure HAh (C : Nat) (x : ReV) (r d : RT) (k : Nat) (s B1 U : ByteArray) (m1 m2 : Bool) (W : World) : Prop where
  hk : k < 256
  hB : ⟨#[UInt8.ofNat k]⟩ = B1
  hU : B1 ++ s = U
  hl : B1.size + s.size ≤ 9223372036854775807
  hC : W.heap[C]? = some (.cells x.cells.toArray 29 (0, 0))
  hx : RAt W (fun _ => True) x r
  hD : ∀ w, Below W.heap.size W w → ∀ y, RAt w (fun _ => True) y r → Calls Tryz.prog 9 #[y.val, .int .i64 (k : Int)] w (GivesRe (fun _ => True) d w)
  hM : ∀ w, Below W.heap.size W w → ∀ y, RAt w (fun _ => True) y d → Calls Tryz.prog 8 #[y.val, .string s] w (GivesBool m1 w)
  hM2 : ∀ w, Below W.heap.size W w → ∀ y, RAt w (fun _ => True) y r → Calls Tryz.prog 8 #[y.val, .string U] w (GivesBool m1 w)
  hM0 : ∀ w, Below W.heap.size W w → ∀ y, RAt w (fun _ => True) y r → Calls Tryz.prog 8 #[y.val, .string ⟨#[]⟩] w (GivesBool m2 w)
  hN : ∀ w, Below W.heap.size W w → ∀ y, RAt w (fun _ => True) y r → Calls Tryz.prog 10 #[y.val] w (GivesBool m2 w)
set_option maxRecDepth 100000 in
set_option maxHeartbeats 8000000 in
theorem stepAh (C : Nat) (x : ReV) (r d : RT) (k : Nat) (s B1 U : ByteArray) (m1 m2 : Bool) {W w : World} {L : Array Bool} {a : Act} {i : Nat} {Q : Exit → Act → World → Prop} (hH : HAh C x r d k s B1 U m1 m2 W) (hL : L.size = 25) (hJ : JR 25 46 6 22 (sAh C x r d k s B1 U m1 m2) (fAh C x r d k s B1 U m1 m2) W L a w) (hr : i ∈ Region.ready .any opsAh L) (hi : i < 25) : wpOp Tryz.prog opsAh Q i (JR 25 46 6 22 (sAh C x r d k s B1 U m1 m2) (fAh C x r d k s B1 U m1 m2) W (L.setIfInBounds i true)) a w := by
  have hk := regKAh C x r d k s B1 U m1 m2
  match i, hi with
  | 0, _ => exact atP (d := 22) (by kernel_rfl) fun o ho hd => opMove (d := 7) (s := (SD.v tt)) (hJ.2.2.2.1 (7, tt) (by simp [fAh])) ho (fun v w' hs hb => by rw [hd]; exact hJ.step hk (i := 0) (s := .v tt) rfl hL hs hb)
  | 1, _ => exact atP (d := 23) (by kernel_rfl) fun o ho hd => opMove (d := 22) (s := (SD.v tt)) (hJ.get (i := 1) (j := 0) hr (by kernel_rfl) rfl) ho (fun v w' hs hb => by rw [hd]; exact hJ.step hk (i := 1) (s := .v tt) rfl hL hs hb)
  | 2, _ => exact atG (d := 24) (g := 1) (m := 23) (by kernel_rfl) (by kernel_rfl) (hJ.get (i := 2) (j := 1) hr (by kernel_rfl) rfl) fun o ho hd => opLoad (d := 8) (hJ.2.2.2.1 (8, .pointer (some ⟨C, 0, none⟩)) (by simp [fAh])) ((hJ.2.2.1.block _ (Array.getElem?_eq_some_iff.1 hH.hC).1).trans hH.hC) (hH.hx.under hJ.2.2.1) ho (fun v w' hs hb => by rw [hd]; exact hJ.step hk (i := 2) (s := .x r) rfl hL hs hb)
  | 3, _ => exact atG (d := 25) (g := 1) (m := 23) (by kernel_rfl) (by kernel_rfl) (hJ.get (i := 3) (j := 1) hr (by kernel_rfl) rfl) fun o ho hd => opMove (d := 10) (s := (SD.v (.int .i64 (k : Int)))) (hJ.2.2.2.1 (10, .int .i64 (k : Int)) (by simp [fAh])) ho (fun v w' hs hb => by rw [hd]; exact hJ.step hk (i := 3) (s := .v (.int .i64 (k : Int))) rfl hL hs hb)
  | 4, _ => exact atG (d := 26) (g := 1) (m := 23) (by kernel_rfl) (by kernel_rfl) (hJ.get (i := 4) (j := 1) hr (by kernel_rfl) rfl) fun o ho hd => opTreeV (T := #[29, 3]) (x' := .tmp 25) (d := 24) (s := (SD.x d)) (u' := .int .i64 (k : Int)) (hJ.get (i := 4) (j := 2) hr (by kernel_rfl) rfl) (hJ.get (i := 4) (j := 3) hr (by kernel_rfl) rfl) ho (fun y hy => hH.hD w hJ.2.2.1 y hy) entD (fun _ _ h => treeOf h) (fun v w' hs hb => by rw [hd]; exact hJ.step hk (i := 4) (s := .x d) rfl hL hs hb)
  | 5, _ => exact atG (d := 27) (g := 1) (m := 23) (by kernel_rfl) (by kernel_rfl) (hJ.get (i := 5) (j := 1) hr (by kernel_rfl) rfl) fun o ho hd => opMove (d := 9) (s := (SD.v (.string s))) (hJ.2.2.2.1 (9, .string s) (by simp [fAh])) ho (fun v w' hs hb => by rw [hd]; exact hJ.step hk (i := 5) (s := .v (.string s)) rfl hL hs hb)
  | 6, _ => exact atG (d := 28) (g := 1) (m := 23) (by kernel_rfl) (by kernel_rfl) (hJ.get (i := 6) (j := 1) hr (by kernel_rfl) rfl) fun o ho hd => opTreeV (T := #[29, 9]) (x' := .tmp 27) (d := 26) (s := (SD.v (.bool m1))) (u' := .string s) (hJ.get (i := 6) (j := 4) hr (by kernel_rfl) rfl) (hJ.get (i := 6) (j := 5) hr (by kernel_rfl) rfl) ho (fun y hy => hH.hM w hJ.2.2.1 y hy) entM (fun _ _ h => boolOf h) (fun v w' hs hb => by rw [hd]; exact hJ.step hk (i := 6) (s := .v (.bool m1)) rfl hL hs hb)
  | 7, _ => exact atG (d := 29) (g := 1) (m := 23) (by kernel_rfl) (by kernel_rfl) (hJ.get (i := 7) (j := 1) hr (by kernel_rfl) rfl) fun o ho hd => opLoad (d := 8) (hJ.2.2.2.1 (8, .pointer (some ⟨C, 0, none⟩)) (by simp [fAh])) ((hJ.2.2.1.block _ (Array.getElem?_eq_some_iff.1 hH.hC).1).trans hH.hC) (hH.hx.under hJ.2.2.1) ho (fun v w' hs hb => by rw [hd]; exact hJ.step hk (i := 7) (s := .x r) rfl hL hs hb)
  | 8, _ => exact atG (d := 30) (g := 1) (m := 23) (by kernel_rfl) (by kernel_rfl) (hJ.get (i := 8) (j := 1) hr (by kernel_rfl) rfl) fun o ho hd => opMove (d := 10) (s := (SD.v (.int .i64 (k : Int)))) (hJ.2.2.2.1 (10, .int .i64 (k : Int)) (by simp [fAh])) ho (fun v w' hs hb => by rw [hd]; exact hJ.step hk (i := 8) (s := .v (.int .i64 (k : Int))) rfl hL hs hb)
  | 9, _ => exact atG (d := 31) (g := 1) (m := 23) (by kernel_rfl) (by kernel_rfl) (hJ.get (i := 9) (j := 1) hr (by kernel_rfl) rfl) fun o ho hd => opConv (k := k) hH.hk (c := 30) (hJ.get (i := 9) (j := 8) hr (by kernel_rfl) rfl) ho (fun v w' hs hb => by rw [hd]; exact hJ.step hk (i := 9) (s := .v (.int .u8 (k : Int))) rfl hL hs hb)
  | 10, _ => exact atG (d := 32) (g := 1) (m := 23) (by kernel_rfl) (by kernel_rfl) (hJ.get (i := 10) (j := 1) hr (by kernel_rfl) rfl) fun o ho hd => opOne (z := (k : Int)) (c := 31) (hJ.get (i := 10) (j := 9) hr (by kernel_rfl) rfl) ho (fun v w' hs hb => by rw [hd]; exact hJ.step hk (i := 10) (s := .b (k : Int)) rfl hL hs hb)
  | 11, _ => exact atG (d := 33) (g := 1) (m := 23) (by kernel_rfl) (by kernel_rfl) (hJ.get (i := 11) (j := 1) hr (by kernel_rfl) rfl) fun o ho hd => opStr (k := k) (U := B1) hH.hk hH.hB (c := 32) (hJ.get (i := 11) (j := 10) hr (by kernel_rfl) rfl) ho (fun v w' hs hb => by rw [hd]; exact hJ.step hk (i := 11) (s := .v (.string B1)) rfl hL hs hb)
  | 12, _ => exact atG (d := 34) (g := 1) (m := 23) (by kernel_rfl) (by kernel_rfl) (hJ.get (i := 12) (j := 1) hr (by kernel_rfl) rfl) fun o ho hd => opMove (d := 9) (s := (SD.v (.string s))) (hJ.2.2.2.1 (9, .string s) (by simp [fAh])) ho (fun v w' hs hb => by rw [hd]; exact hJ.step hk (i := 12) (s := .v (.string s)) rfl hL hs hb)
  | 13, _ => exact atG (d := 35) (g := 1) (m := 23) (by kernel_rfl) (by kernel_rfl) (hJ.get (i := 13) (j := 1) hr (by kernel_rfl) rfl) fun o ho hd => opAddS (A := B1) (B := s) (U := U) hH.hU (c := 33) (d := 34) (hJ.get (i := 13) (j := 11) hr (by kernel_rfl) rfl) (hJ.get (i := 13) (j := 12) hr (by kernel_rfl) rfl) hH.hl ho (fun v w' hs hb => by rw [hd]; exact hJ.step hk (i := 13) (s := .v (.string U)) rfl hL hs hb)
  | 14, _ => exact atG (d := 36) (g := 1) (m := 23) (by kernel_rfl) (by kernel_rfl) (hJ.get (i := 14) (j := 1) hr (by kernel_rfl) rfl) fun o ho hd => opTreeV (T := #[29, 9]) (x' := .tmp 35) (d := 29) (s := (SD.v (.bool m1))) (u' := .string U) (hJ.get (i := 14) (j := 7) hr (by kernel_rfl) rfl) (hJ.get (i := 14) (j := 13) hr (by kernel_rfl) rfl) ho (fun y hy => hH.hM2 w hJ.2.2.1 y hy) entM (fun _ _ h => boolOf h) (fun v w' hs hb => by rw [hd]; exact hJ.step hk (i := 14) (s := .v (.bool m1)) rfl hL hs hb)
  | 15, _ => exact atG (d := 37) (g := 1) (m := 23) (by kernel_rfl) (by kernel_rfl) (hJ.get (i := 15) (j := 1) hr (by kernel_rfl) rfl) fun o ho hd => opEqB (c := 28) (d := 36) (b := m1) (hJ.get (i := 15) (j := 6) hr (by kernel_rfl) rfl) (hJ.get (i := 15) (j := 14) hr (by kernel_rfl) rfl) ho (fun v w' hs hb => by rw [hd]; exact hJ.step hk (i := 15) (s := .v tt) rfl hL hs hb)
  | 16, _ => exact atP (d := 38) (by kernel_rfl) fun o ho hd => opPick (c := 23) (d := 37) (hJ.get (i := 16) (j := 1) hr (by kernel_rfl) rfl) (hJ.get (i := 16) (j := 15) hr (by kernel_rfl) rfl) ho (fun v w' hs hb => by rw [hd]; exact hJ.step hk (i := 16) (s := .v tt) rfl hL hs hb)
  | 17, _ => exact atP (d := 39) (by kernel_rfl) fun o ho hd => opMove (d := 38) (s := (SD.v tt)) (hJ.get (i := 17) (j := 16) hr (by kernel_rfl) rfl) ho (fun v w' hs hb => by rw [hd]; exact hJ.step hk (i := 17) (s := .v tt) rfl hL hs hb)
  | 18, _ => exact atG (d := 40) (g := 17) (m := 39) (by kernel_rfl) (by kernel_rfl) (hJ.get (i := 18) (j := 17) hr (by kernel_rfl) rfl) fun o ho hd => opLoad (d := 8) (hJ.2.2.2.1 (8, .pointer (some ⟨C, 0, none⟩)) (by simp [fAh])) ((hJ.2.2.1.block _ (Array.getElem?_eq_some_iff.1 hH.hC).1).trans hH.hC) (hH.hx.under hJ.2.2.1) ho (fun v w' hs hb => by rw [hd]; exact hJ.step hk (i := 18) (s := .x r) rfl hL hs hb)
  | 19, _ => exact atG (d := 41) (g := 17) (m := 39) (by kernel_rfl) (by kernel_rfl) (hJ.get (i := 19) (j := 17) hr (by kernel_rfl) rfl) fun o ho hd => opTreeV (T := #[29, 9]) (x' := .const (.string ⟨#[]⟩)) (d := 40) (s := (SD.v (.bool m2))) (u' := .string ⟨#[]⟩) (hJ.get (i := 19) (j := 18) hr (by kernel_rfl) rfl) rfl ho (fun y hy => hH.hM0 w hJ.2.2.1 y hy) entM (fun _ _ h => boolOf h) (fun v w' hs hb => by rw [hd]; exact hJ.step hk (i := 19) (s := .v (.bool m2)) rfl hL hs hb)
  | 20, _ => exact atG (d := 42) (g := 17) (m := 39) (by kernel_rfl) (by kernel_rfl) (hJ.get (i := 20) (j := 17) hr (by kernel_rfl) rfl) fun o ho hd => opLoad (d := 8) (hJ.2.2.2.1 (8, .pointer (some ⟨C, 0, none⟩)) (by simp [fAh])) ((hJ.2.2.1.block _ (Array.getElem?_eq_some_iff.1 hH.hC).1).trans hH.hC) (hH.hx.under hJ.2.2.1) ho (fun v w' hs hb => by rw [hd]; exact hJ.step hk (i := 20) (s := .x r) rfl hL hs hb)
  | 21, _ => exact atG (d := 43) (g := 17) (m := 39) (by kernel_rfl) (by kernel_rfl) (hJ.get (i := 21) (j := 17) hr (by kernel_rfl) rfl) fun o ho hd => opTree (T := #[29]) (d := 42) (s := (SD.v (.bool m2))) (hJ.get (i := 21) (j := 20) hr (by kernel_rfl) rfl) ho (fun y hy => hH.hN w hJ.2.2.1 y hy) entN (fun _ _ h => boolOf h) (fun v w' hs hb => by rw [hd]; exact hJ.step hk (i := 21) (s := .v (.bool m2)) rfl hL hs hb)
  | 22, _ => exact atG (d := 44) (g := 17) (m := 39) (by kernel_rfl) (by kernel_rfl) (hJ.get (i := 22) (j := 17) hr (by kernel_rfl) rfl) fun o ho hd => opEqB (c := 41) (d := 43) (b := m2) (hJ.get (i := 22) (j := 19) hr (by kernel_rfl) rfl) (hJ.get (i := 22) (j := 21) hr (by kernel_rfl) rfl) ho (fun v w' hs hb => by rw [hd]; exact hJ.step hk (i := 22) (s := .v tt) rfl hL hs hb)
  | 23, _ => exact atP (d := 45) (by kernel_rfl) fun o ho hd => opPick (c := 39) (d := 44) (hJ.get (i := 23) (j := 17) hr (by kernel_rfl) rfl) (hJ.get (i := 23) (j := 22) hr (by kernel_rfl) rfl) ho (fun v w' hs hb => by rw [hd]; exact hJ.step hk (i := 23) (s := .v tt) rfl hL hs hb)
  | 24, _ => exact atP (d := 6) (by kernel_rfl) fun o ho hd => opAssign (d := 45) (s := (SD.v tt)) (hJ.get (i := 24) (j := 23) hr (by kernel_rfl) rfl) ho (fun v w' hs hb => by rw [hd]; exact hJ.step hk (i := 24) (s := .v tt) rfl hL hs hb)
  | n + 25, h => omega
set_option maxRecDepth 100000 in
/-- The region, whatever order its operations take. -/
theorem regAh (C : Nat) (x : ReV) (r d : RT) (k : Nat) (s B1 U : ByteArray) (m1 m2 : Bool) {W : World} {tmps : Array Value} {ops : Array Oper} {Q : Exit → Act → World → Prop} (hH : HAh C x r d k s B1 U m1 m2 W) (hops : opsAh = ops) (hsz : tmps.size = 46) (hf : ∀ q0 ∈ fAh C x r d k s B1 U m1 m2, tmps.getD q0.1 undef = q0.2)
    (hQ : ∀ (tm : Array Value) (w : World), tm.size = 46 → tm.getD 6 undef = .bool true → Below W.heap.size W w → Q .normal ⟨tm, []⟩ w) : (Code.region 7 ops true).wp Tryz.prog Q ⟨tmps, []⟩ W :=
  region_all (regKAh C x r d k s B1 U m1 m2) hops hsz hf (fun L a w i hL hJ hr hi => stepAh C x r d k s B1 U m1 m2 hH hL hJ hr hi) (fun tm w h1 _ h3 h4 => hQ tm w h1 (h3 24 (.v tt) rfl) h4)

end Go.Proofs.YtjeplmnjgdpgbaaGreatDoor

/-! What the last region of DerivAhead asks of its calls. No condition. -/
namespace Go.Proofs.YtjeplmnjgdpgbaaGreatDoor
open Go.RowKit Go.Lib
set_option linter.unusedVariables false
set_option linter.unusedSimpArgs false

theorem byteL_cons (k : Nat) (hk : k < 256) (s : ByteArray) : byteL (⟨#[UInt8.ofNat k]⟩ ++ s) = k :: byteL s := by
  unfold byteL
  rw [ByteArray.data_append]
  simp
  omega
theorem byteL_len (s : ByteArray) : (byteL s).length = s.size := by unfold byteL; rw [List.length_map]; rfl
theorem ahH {W : World} (hT : Tab1 W) {C : Nat} {x : ReV} {r : RT} (hC : W.heap[C]? = some (.cells x.cells.toArray 29 (0, 0))) (hx : RAt W (fun _ => True) x r) (hlv : Lv 161 4842888568831 5008 5766931476091 4966 r) (hdep : r.dep ≤ 62) {k : Nat} (hk : k < 256) {s : ByteArray} (hs : s.size ≤ 5) :
    HAh C x r (derivM k r) k s ⟨#[UInt8.ofNat k]⟩ (⟨#[UInt8.ofNat k]⟩ ++ s) (nullM (dersM (derivM k r) (byteL s))) (nullM r) W := by
  have hone : (⟨#[UInt8.ofNat k]⟩ : ByteArray).size = 1 := rfl
  have hfit := fitM_lv hlv hdep (k :: byteL s) (by rw [List.length_cons, byteL_len]; omega)
  have hsz : r.sz ≤ 161 := hlv.sz
  refine ⟨hk, rfl, rfl, by rw [hone]; omega, hC, hx, fun w hb y hy => ?_, fun w hb y hy => ?_, fun w hb y hy => ?_, fun w hb y hy => ?_, fun w hb y hy => ?_⟩
  · exact (deriv_any w k hk y r hy (hT.stays hb) hfit.1 (by omega)).mono fun _ _ q => q.any
  · exact match_any w y _ s hy (hT.stays hb) hfit.2.2 (by omega)
  · have h := match_any w y r (⟨#[UInt8.ofNat k]⟩ ++ s) hy (hT.stays hb) (by rw [byteL_cons k hk]; exact hfit) (by rw [ByteArray.size_append, hone]; omega)
    rw [byteL_cons k hk] at h
    exact h
  · exact match_any w y r ⟨#[]⟩ hy (hT.stays hb) (fitM_lv hlv hdep [] (by decide)) (by decide)
  · exact nullable_any w y r hy (by omega)

end Go.Proofs.YtjeplmnjgdpgbaaGreatDoor
