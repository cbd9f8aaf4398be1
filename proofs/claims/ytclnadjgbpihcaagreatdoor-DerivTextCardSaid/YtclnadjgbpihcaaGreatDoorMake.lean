/- The program's joined, Of and Star. No condition. -/
import Derived.Test.YtclnadjgbpihcaaGreatDoorRight
namespace Go.Proofs.YtclnadjgbpihcaaGreatDoor
open Go.RowKit Go.Lib
set_option linter.unusedVariables false
set_option linter.unusedSimpArgs false

/-- The call returns this expression; what was there is as it was. Its kids lie where P says. -/
def GivesRe (P : Nat → Prop) (t : RT) (w : World) (e : Ending) (w' : World) : Prop := ∃ x : ReV, e = .returned x.val ∧ RAt w' P x t ∧ Below w.heap.size w w'
theorem kids_empty {W : World} {P : Nat → Prop} : KidsR W P none 0 0 [] [] := kids_none W P
theorem set6_heap {W : World} {D : Nat} {x0 x1 x2 x3 x4 x5 : Value} {t : TypeId} (h : W.heap[D]? = some (.cells #[x0, x1, x2, x3, x4, x5] t (0, 0))) (a b c d e f : Value) :
    ((((((W.setCell ⟨D, 0, none⟩ a).setCell ⟨D, 1, none⟩ b).setCell ⟨D, 2, none⟩ c).setCell ⟨D, 3, none⟩ d).setCell ⟨D, 4, none⟩ e).setCell ⟨D, 5, none⟩ f).heap[D]? = some (.cells #[a, b, c, d, e, f] t (0, 0)) := by
  rw [heap_setCell_same _ D 5 _ _ _ (heap_setCell_same _ D 4 _ _ _ (heap_setCell_same _ D 3 _ _ _ (heap_setCell_same _ D 2 _ _ _ (heap_setCell_same _ D 1 _ _ _ (heap_setCell_same W D 0 _ _ a h)))))]
  rfl

set_option maxRecDepth 100000 in
set_option maxHeartbeats 4000000 in
theorem joined_any {P : Nat → Prop} (w : World) (k e : Int) {p : Option Addr} {n cap : Nat} {vs : List ReV} {l : List RT} (h : KidsR w P p n cap vs l) :
    Calls Tryz.prog 62 #[.int .i64 k, .slice p n cap, .int .i64 e] w (GivesRe P (someM k e l) w) := by
  have hnum := h.num
  have hlen := h.len
  have HK := Lib.hid h
  have HNU := Lib.hid hnum
  have HLE := Lib.hid hlen
  clear h hnum hlen
  by_cases h0 : n = 0
  · have hz : ((n : Int) == 0) = true := by simp [h0]
    have hl : l = [] := List.length_eq_zero_iff.1 (by rw [← HNU.out]; exact h0)
    have HL := Lib.hid hl
    clear h0 hl
    go_enter Tryz.func62, Tryz.ntmps62
    go_wp2
    refine bodyPost_ret_by (results_cell_row rfl _ _ w.heap.size 28 #[.int .i64 e, .int .u64 0, .int .u64 0, .int .u64 0, .int .u64 0, .slice none 0 0] (0, 0) _ rfl (heap_alloc_new w _) Tryz.underlying28 rfl (by kernel_rfl)) rfl ?_
    refine ⟨⟨e, 0, 0, 0, 0, none, 0, 0⟩, rfl, ?_, (Below.refl _ _).alloc (Nat.le_refl _) _⟩
    rw [HL.out]
    exact kids_empty.tree e W4.zero zero_ok
  · have hz : ((n : Int) == 0) = false := by simpa using h0
    by_cases h1 : n = 1
    · subst h1
      obtain ⟨t, hl⟩ : ∃ t, l = [t] := List.length_eq_one_iff.1 HNU.out.symm
      obtain ⟨y, hv⟩ : ∃ y, vs = [y] := List.length_eq_one_iff.1 (by rw [HLE.out, ← HNU.out])
      subst hl hv
      obtain ⟨g, off, rfl⟩ := HK.out.rowv.some_of (i := 0) (by omega)
      have hra := HK.out.each 0 y t rfl rfl
      have hpl := HK.out.place (i := 0) (y := y) rfl
      rw [show off + 0 * 6 = off by omega] at hpl
      obtain ⟨a, b, c, d, f, q, m, cp⟩ := y
      have hb1 := (Below.refl w.heap.size w).alloc (Nat.le_refl _) (.cells #[.int .i64 0, .int .u64 0, .int .u64 0, .int .u64 0, .int .u64 0, .slice none 0 0] 28)
      obtain ⟨q0, q1, q2, q3, q4, q5⟩ := (hpl.under hb1).six
      simp only at q0 q1 q2 q3 q4 q5
      have HRA := Lib.hid hra
      have HPL := Lib.hid hpl
      clear hra hpl hb1
      go_enter Tryz.func62, Tryz.ntmps62
      go_wp2
      refine bodyPost_ret_by (results_cell_row rfl _ _ w.heap.size 28 #[.int .i64 a, .int .u64 b, .int .u64 c, .int .u64 d, .int .u64 f, .slice q m cp] (0, 0) _ rfl (heap_alloc_new w _) Tryz.underlying28 rfl (by kernel_rfl)) rfl ?_
      exact ⟨⟨a, b, c, d, f, q, m, cp⟩, rfl, HRA.out.under ((Below.refl _ _).alloc (Nat.le_refl _) _), (Below.refl _ _).alloc (Nat.le_refl _) _⟩
    · have hz1 : ((n : Int) == 1) = false := by simp; omega
      have HN2 : Hid (2 ≤ n) := by unfold Hid; omega
      clear h0 h1
      go_enter Tryz.func62, Tryz.ntmps62
      go_wp2
      refine bodyPost_ret_by (results_cell_row rfl _ _ w.heap.size 28 #[.int .i64 k, .int .u64 0, .int .u64 0, .int .u64 0, .int .u64 0, .slice p n cap] (0, 0) _ rfl (heap_alloc_new w _) Tryz.underlying28 rfl (by kernel_rfl)) rfl ?_
      refine ⟨⟨k, 0, 0, 0, 0, p, n, cap⟩, rfl, ?_, (Below.refl _ _).alloc (Nat.le_refl _) _⟩
      have e1 : someM k e l = .mk k W4.zero l := by
        have h1 := HNU.out
        have h2 := HN2.out
        match l, h1 with
        | [], h1 => simp at h1; omega
        | [_], h1 => simp at h1; omega
        | x :: y :: l, _ => rfl
      rw [e1]
      exact (HK.out.under ((Below.refl _ _).alloc (Nat.le_refl _) _)).tree k W4.zero zero_ok

theorem two_new (w : World) (a b : Obj) : ((w.alloc a).alloc b).heap[w.heap.size + 1]? = some b := by
  have h := heap_alloc_new (w.alloc a) b
  rw [show (w.alloc a).heap.size = w.heap.size + 1 by simp] at h
  exact h
theorem mid_new (w : World) (a b c : Obj) : (((w.alloc a).alloc b).alloc c).heap[w.heap.size + 1]? = some b := (heap_alloc_old _ _ _ (by simp)).trans (two_new w a b)
theorem end_new (w : World) (a b c : Obj) : (((w.alloc a).alloc b).alloc c).heap[w.heap.size + 1 + 1]? = some c := by
  have h := heap_alloc_new ((w.alloc a).alloc b) c
  rw [show ((w.alloc a).alloc b).heap.size = w.heap.size + 1 + 1 by simp] at h
  exact h
theorem six_set {W : World} {D : Nat} {B : Nat} {w : World} (h : Below B w W) (hD : B ≤ D) (a b c d e f : Value) :
    Below B w ((((((W.setCell ⟨D, 0, none⟩ a).setCell ⟨D, 1, none⟩ b).setCell ⟨D, 2, none⟩ c).setCell ⟨D, 3, none⟩ d).setCell ⟨D, 4, none⟩ e).setCell ⟨D, 5, none⟩ f) :=
  (((((h.setCell hD _).setCell hD _).setCell hD _).setCell hD _).setCell hD _).setCell hD _
theorem frozen_no {W : World} {D : Nat} {cs : Array Value} {t : TypeId} (h : W.heap[D]? = some (.cells cs t (0, 0))) (j : Nat) : W.frozen? ⟨D, j, none⟩ = false := by simp [World.frozen?, h]

set_option maxRecDepth 100000 in
set_option maxHeartbeats 4000000 in
theorem of_any {P : Nat → Prop} (w : World) (a b c d : Int) (hs : (⟨a, b, c, d⟩ : W4).Ok) :
    Calls Tryz.prog 59 #[.agg #[.int .u64 a, .int .u64 b, .int .u64 c, .int .u64 d]] w (GivesRe P (ofM ⟨a, b, c, d⟩) w) := by
  obtain ⟨D, hD⟩ : ∃ D, D = w.heap.size + 1 := ⟨_, rfl⟩
  obtain ⟨w1, hw1⟩ : ∃ w1 : World, w1 = (w.alloc (.cells #[.int .u64 a, .int .u64 b, .int .u64 c, .int .u64 d] 25)).alloc (.cells #[.int .i64 0, .int .u64 0, .int .u64 0, .int .u64 0, .int .u64 0, .slice none 0 0] 28) := ⟨_, rfl⟩
  have hb1 : Below w.heap.size w w1 := by rw [hw1]; exact ((Below.refl _ _).alloc (Nat.le_refl _) _).alloc (by simp) _
  have hnS : w1.heap[w.heap.size]? = some (.cells #[.int .u64 a, .int .u64 b, .int .u64 c, .int .u64 d] 25 (0, 0)) := by
    rw [hw1, heap_alloc_old _ _ _ (by simp)]
    exact heap_alloc_new _ _
  have hnD : w1.heap[D]? = some (.cells #[.int .i64 0, .int .u64 0, .int .u64 0, .int .u64 0, .int .u64 0, .slice none 0 0] 28 (0, 0)) := by
    rw [hw1, hD, show w.heap.size + 1 = (w.alloc (.cells #[.int .u64 a, .int .u64 b, .int .u64 c, .int .u64 d] 25)).heap.size by simp]
    exact heap_alloc_new _ _
  have c1 := isempty_any w1 a b c d
  obtain ⟨E, hE⟩ : ∃ E, E = decide ((⟨a, b, c, d⟩ : W4) = W4.zero) := ⟨_, rfl⟩
  rw [← hE] at c1
  have HE := Lib.hid hE
  have HB1 := Lib.hid hb1
  have HNS := Lib.hid hnS
  have HND := Lib.hid hnD
  have HW1 := Lib.hid hw1
  have HDD := Lib.hid hD
  clear hE hb1 hnS hnD hw1 hD
  go_enter Tryz.func59, Tryz.ntmps59
  go_wp2_with fail
  rw [← HW1.out, ← HDD.out]
  ((with_reducible refine c1.mono ?_))
  rintro _ w2 ⟨rfl, hb2⟩
  have h2S := (hb2.block _ (Array.getElem?_eq_some_iff.1 HNS.out).1).trans HNS.out
  have h2D := (hb2.block _ (Array.getElem?_eq_some_iff.1 HND.out).1).trans HND.out
  have HB2 : Hid (Below w.heap.size w w2) := HB1.out.trans (hb2.mono HB1.out.size)
  have H2D := Lib.hid h2D
  have p0 : w2.cell? ⟨w.heap.size, 0, none⟩ = some (.int .u64 a) := by simp [World.cell?, h2S]
  have p1 : w2.cell? ⟨w.heap.size, 1, none⟩ = some (.int .u64 b) := by simp [World.cell?, h2S]
  have p2 : w2.cell? ⟨w.heap.size, 2, none⟩ = some (.int .u64 c) := by simp [World.cell?, h2S]
  have p3 : w2.cell? ⟨w.heap.size, 3, none⟩ = some (.int .u64 d) := by simp [World.cell?, h2S]
  have d0 : w2.cell? ⟨D, 0, none⟩ = some (.int .i64 0) := by simp [World.cell?, h2D]
  have d1 : w2.cell? ⟨D, 1, none⟩ = some (.int .u64 0) := by simp [World.cell?, h2D]
  have d2 : w2.cell? ⟨D, 2, none⟩ = some (.int .u64 0) := by simp [World.cell?, h2D]
  have d3 : w2.cell? ⟨D, 3, none⟩ = some (.int .u64 0) := by simp [World.cell?, h2D]
  have d4 : w2.cell? ⟨D, 4, none⟩ = some (.int .u64 0) := by simp [World.cell?, h2D]
  have d5 : w2.cell? ⟨D, 5, none⟩ = some (.slice none 0 0) := by simp [World.cell?, h2D]
  have f0 := frozen_no h2D 0
  have f1 := frozen_no h2D 1
  have f2 := frozen_no h2D 2
  have f3 := frozen_no h2D 3
  have f4 := frozen_no h2D 4
  have f5 := frozen_no h2D 5
  have hDw : w.heap.size ≤ D := by have := HDD.out; omega
  have HDW := Lib.hid hDw
  clear hb2 h2S h2D c1 hDw
  cases E with
  | true =>
    go_wp2
    refine bodyPost_ret_by (results_cell_row rfl _ _ D 28 #[.int .i64 0, .int .u64 0, .int .u64 0, .int .u64 0, .int .u64 0, .slice none 0 0] (0, 0) _ rfl (set6_heap H2D.out _ _ _ _ _ _) Tryz.underlying28 rfl (by kernel_rfl)) rfl ?_
    refine ⟨⟨0, 0, 0, 0, 0, none, 0, 0⟩, rfl, ?_, six_set HB2.out HDW.out _ _ _ _ _ _⟩
    have e : (⟨a, b, c, d⟩ : W4) = W4.zero := of_decide_eq_true HE.out.symm
    unfold ofM
    rw [if_pos e]
    exact kids_empty.tree 0 W4.zero zero_ok
  | false =>
    go_wp2
    refine bodyPost_ret_by (results_cell_row rfl _ _ D 28 #[.int .i64 2, .int .u64 a, .int .u64 b, .int .u64 c, .int .u64 d, .slice none 0 0] (0, 0) _ rfl (set6_heap H2D.out _ _ _ _ _ _) Tryz.underlying28 rfl (by kernel_rfl)) rfl ?_
    refine ⟨⟨2, a, b, c, d, none, 0, 0⟩, rfl, ?_, six_set HB2.out HDW.out _ _ _ _ _ _⟩
    have e : ¬ (⟨a, b, c, d⟩ : W4) = W4.zero := of_decide_eq_false HE.out.symm
    unfold ofM
    rw [if_neg e]
    exact kids_empty.tree 2 ⟨a, b, c, d⟩ hs

end Go.Proofs.YtclnadjgbpihcaaGreatDoor

