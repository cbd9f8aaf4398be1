/- Joined texts; each begins with what it says. -/
import Derived.Test.YtclnadjgbpihcaaGreatDoorW3
/-! The document's Star, Of, some, flat and Cat. No condition but size. -/
namespace Go.Proofs.YtclnadjgbpihcaaGreatDoor
open Go.RowKit Go.Lib
set_option linter.unusedVariables false
set_option linter.unusedSimpArgs false

theorem cnt_zero (f : Nat → Bool) : ∀ n, cnt f n = 0 ↔ ∀ b, b < n → f b = false
  | 0 => by simp [cnt]
  | n + 1 => by
    have ih := cnt_zero f n
    constructor
    · intro h b hb
      cases hf : f n with
      | true => rw [cnt, hf] at h; simp at h
      | false =>
        have h2 : cnt f n = 0 := by rw [cnt, hf] at h; simpa using h
        by_cases e : b = n
        · rw [e]; exact hf
        · exact ih.1 h2 b (by omega)
    · intro h
      have h1 := ih.2 fun b hb => h b (by omega)
      rw [cnt, h n (by omega), h1]
      rfl
theorem cnt_w4 {s : W4} (h : s.Ok) : cnt s.mem 256 = 0 ↔ s = W4.zero := by
  rw [cnt_zero, ← of_zero, of_mem h]

set_option maxRecDepth 100000 in
set_option maxHeartbeats 4000000 in
theorem refstar_any {P : Nat → Prop} (w : World) (x : ReV) (t : RT) (ht : RAt w P x t) :
    Calls Tryz.prog 11 #[x.val] w (GivesRe (fun g => P g ∨ w.heap.size ≤ g) (starM t) w) := by
  obtain ⟨vs0, et, _, _⟩ := ht.kids
  have hkd : t.kind = x.kind := by rw [et]; rfl
  clear et
  obtain ⟨k, a, b, c, d, p, n, cap⟩ := x
  simp only at hkd
  have HRA : Hid (RAt w (fun g => P g ∨ w.heap.size ≤ g) ⟨k, a, b, c, d, p, n, cap⟩ t) := ht.weak fun g h _ => .inl h
  have HKD := Lib.hid hkd
  clear ht hkd
  unfold ReV.val
  simp only []
  by_cases k0 : k = 0
  · subst k0
    go_enter Tryz.func11, Tryz.ntmps11
    go_wp2
    refine bodyPost_ret_by (results_cell_row rfl _ _ (w.heap.size + 1) 28 #[.int .i64 1, .int .u64 0, .int .u64 0, .int .u64 0, .int .u64 0, .slice none 0 0] (0, 0) _ rfl (two_new w _ _) Tryz.underlying28 rfl (by kernel_rfl)) rfl ?_
    refine ⟨⟨1, 0, 0, 0, 0, none, 0, 0⟩, rfl, ?_, ((Below.refl _ _).alloc (Nat.le_refl _) _).alloc (by simp) _⟩
    unfold starM
    rw [if_pos (.inl HKD.out)]
    exact kids_empty.tree 1 W4.zero zero_ok
  by_cases k1 : k = 1
  · subst k1
    go_enter Tryz.func11, Tryz.ntmps11
    go_wp2
    refine bodyPost_ret_by (results_cell_row rfl _ _ (w.heap.size + 1) 28 #[.int .i64 1, .int .u64 0, .int .u64 0, .int .u64 0, .int .u64 0, .slice none 0 0] (0, 0) _ rfl (two_new w _ _) Tryz.underlying28 rfl (by kernel_rfl)) rfl ?_
    refine ⟨⟨1, 0, 0, 0, 0, none, 0, 0⟩, rfl, ?_, ((Below.refl _ _).alloc (Nat.le_refl _) _).alloc (by simp) _⟩
    unfold starM
    rw [if_pos (.inr HKD.out)]
    exact kids_empty.tree 1 W4.zero zero_ok
  have r0 : (k == 0) = false := by simpa using k0
  have r1 : (k == 1) = false := by simpa using k1
  by_cases k5 : k = 5
  · subst k5
    go_enter Tryz.func11, Tryz.ntmps11
    go_wp2
    refine bodyPost_ret_by (results_cell_row rfl _ _ (w.heap.size + 1) 28 #[.int .i64 5, .int .u64 a, .int .u64 b, .int .u64 c, .int .u64 d, .slice p n cap] (0, 0) _ rfl (two_new w _ _) Tryz.underlying28 rfl (by kernel_rfl)) rfl ?_
    refine ⟨⟨5, a, b, c, d, p, n, cap⟩, rfl, ?_, ((Below.refl _ _).alloc (Nat.le_refl _) _).alloc (by simp) _⟩
    unfold starM
    rw [if_neg (by rw [HKD.out]; decide), if_pos HKD.out]
    exact HRA.out.under (((Below.refl _ _).alloc (Nat.le_refl _) _).alloc (by simp) _)
  · have r5 : (k == 5) = false := by simpa using k5
    have HK5 : Hid (¬ (t.kind = 0 ∨ t.kind = 1) ∧ t.kind ≠ 5) := by unfold Hid; rw [HKD.out]; exact ⟨fun h => h.elim k0 k1, k5⟩
    clear k0 k1 k5
    go_enter Tryz.func11, Tryz.ntmps11
    go_wp2
    refine bodyPost_ret_by (results_cell_row rfl _ _ (w.heap.size + 1) 28 #[.int .i64 5, .int .u64 0, .int .u64 0, .int .u64 0, .int .u64 0, .slice (some ⟨w.heap.size + 1 + 1, 0, none⟩) 1 1] (0, 0) _ rfl (mid_new w _ _ _) Tryz.underlying28 rfl (by kernel_rfl)) rfl ?_
    have hb3 : Below w.heap.size w (((w.alloc (.cells #[.int .i64 k, .int .u64 a, .int .u64 b, .int .u64 c, .int .u64 d, .slice p n cap] 28)).alloc (.cells #[.int .i64 5, .int .u64 0, .int .u64 0, .int .u64 0, .int .u64 0, .slice (some ⟨w.heap.size + 1 + 1, 0, none⟩) 1 1] 28)).alloc (.cells #[.int .i64 k, .int .u64 a, .int .u64 b, .int .u64 c, .int .u64 d, .slice p n cap] 28)) := (((Below.refl _ _).alloc (Nat.le_refl _) _).alloc (by simp) _).alloc (by simp; omega) _
    have hg : (((w.alloc (.cells #[.int .i64 k, .int .u64 a, .int .u64 b, .int .u64 c, .int .u64 d, .slice p n cap] 28)).alloc (.cells #[.int .i64 5, .int .u64 0, .int .u64 0, .int .u64 0, .int .u64 0, .slice (some ⟨w.heap.size + 1 + 1, 0, none⟩) 1 1] 28)).alloc (.cells #[.int .i64 k, .int .u64 a, .int .u64 b, .int .u64 c, .int .u64 d, .slice p n cap] 28)).heap[w.heap.size + 1 + 1]? = some (.cells #[.int .i64 k, .int .u64 a, .int .u64 b, .int .u64 c, .int .u64 d, .slice p n cap] 28 (0, 0)) := end_new w _ _ _
    refine ⟨⟨5, 0, 0, 0, 0, some ⟨w.heap.size + 1 + 1, 0, none⟩, 1, 1⟩, rfl, ?_, hb3⟩
    unfold starM
    rw [if_neg HK5.out.1, if_neg HK5.out.2]
    have hk : KidsR _ (fun g => P g ∨ w.heap.size ≤ g) (some ⟨w.heap.size + 1 + 1, 0, none⟩) 1 1 [⟨k, a, b, c, d, p, n, cap⟩] [t] :=
      ⟨.inr ⟨w.heap.size + 1 + 1, 0, rfl, Nat.le_refl _, by decide, .inr (by omega), ⟨_, _, by decide, hg⟩, fun j u hj => by rw [Nat.zero_add]; simp only [World.cell?, hg]; simpa [ReV.cells] using hj⟩, rfl, rfl,
        fun i y t' hy ht' => by
          cases i with
          | zero => simp at hy ht'; subst hy ht'; exact HRA.out.under hb3
          | succ i => simp at hy⟩
    exact hk.tree 5 W4.zero zero_ok

set_option maxRecDepth 100000 in
set_option maxHeartbeats 4000000 in
theorem refofr_any {P : Nat → Prop} (w : World) (a b c d : Int) (hs : (⟨a, b, c, d⟩ : W4).Ok) :
    Calls Tryz.prog 38 #[.agg #[.int .u64 a, .int .u64 b, .int .u64 c, .int .u64 d]] w (GivesRe P (ofM ⟨a, b, c, d⟩) w) := by
  obtain ⟨D, hD⟩ : ∃ D, D = w.heap.size + 1 := ⟨_, rfl⟩
  obtain ⟨w1, hw1⟩ : ∃ w1 : World, w1 = (w.alloc (.cells #[.int .u64 a, .int .u64 b, .int .u64 c, .int .u64 d] 25)).alloc (.cells #[.int .i64 0, .int .u64 0, .int .u64 0, .int .u64 0, .int .u64 0, .slice none 0 0] 28) := ⟨_, rfl⟩
  have hb1 : Below w.heap.size w w1 := by rw [hw1]; exact ((Below.refl _ _).alloc (Nat.le_refl _) _).alloc (by simp) _
  have hnS : w1.heap[w.heap.size]? = some (.cells #[.int .u64 a, .int .u64 b, .int .u64 c, .int .u64 d] 25 (0, 0)) := by
    rw [hw1, @heap_alloc_old _ _ _ (by simp)]
    exact heap_alloc_new _ _
  have hnD : w1.heap[D]? = some (.cells #[.int .i64 0, .int .u64 0, .int .u64 0, .int .u64 0, .int .u64 0, .slice none 0 0] 28 (0, 0)) := by
    rw [hw1, hD, show w.heap.size + 1 = (w.alloc (.cells #[.int .u64 a, .int .u64 b, .int .u64 c, .int .u64 d] 25)).heap.size by simp]
    exact heap_alloc_new _ _
  have c1 := refcount_any a b c d _ w1 (W4.isSet hs)
  obtain ⟨N, hN⟩ : ∃ N, N = cnt (W4.mem ⟨a, b, c, d⟩) 256 := ⟨_, rfl⟩
  rw [← hN] at c1
  obtain ⟨E, hE⟩ : ∃ E, E = decide ((⟨a, b, c, d⟩ : W4) = W4.zero) := ⟨_, rfl⟩
  have hNE : ((N : Int) == 0) = E := by
    rw [hE, Bool.eq_iff_iff, decide_eq_true_iff, ← cnt_w4 hs, hN]
    simp
  have HE := Lib.hid hE
  have HB1 := Lib.hid hb1
  have HNS := Lib.hid hnS
  have HND := Lib.hid hnD
  have HW1 := Lib.hid hw1
  have HDD := Lib.hid hD
  clear hE hb1 hnS hnD hw1 hD hN
  go_enter Tryz.func38, Tryz.ntmps38
  go_wp2_with fail
  rw [← HW1.out, ← HDD.out]
  ((with_reducible refine c1.mono ?_))
  rintro _ w2 ⟨rfl, hb2⟩
  have h2S := (hb2.block _ (Array.getElem?_eq_some_iff.1 HNS.out).1).trans HNS.out
  have h2D := (hb2.block _ (Array.getElem?_eq_some_iff.1 HND.out).1).trans HND.out
  have HB2 : Hid (Below w.heap.size w w2) := HB1.out.trans (hb2.mono HB1.out.size)
  have H2D := Lib.hid h2D
  have p0 : w2.cell? ⟨w.heap.size, 0, none⟩ = some (.int .u64 a) := by simp [World.cell?, h2S]
  have p1 : w2.cell? ⟨w.heap.size, 1, none⟩ = some (.int .u64 b) := by simp [World.cell?, h2S]
  have p2 : w2.cell? ⟨w.heap.size, 2, none⟩ = some (.int .u64 c) := by simp [World.cell?, h2S]
  have p3 : w2.cell? ⟨w.heap.size, 3, none⟩ = some (.int .u64 d) := by simp [World.cell?, h2S]
  have d0 : w2.cell? ⟨D, 0, none⟩ = some (.int .i64 0) := by simp [World.cell?, h2D]
  have d1 : w2.cell? ⟨D, 1, none⟩ = some (.int .u64 0) := by simp [World.cell?, h2D]
  have d2 : w2.cell? ⟨D, 2, none⟩ = some (.int .u64 0) := by simp [World.cell?, h2D]
  have d3 : w2.cell? ⟨D, 3, none⟩ = some (.int .u64 0) := by simp [World.cell?, h2D]
  have d4 : w2.cell? ⟨D, 4, none⟩ = some (.int .u64 0) := by simp [World.cell?, h2D]
  have d5 : w2.cell? ⟨D, 5, none⟩ = some (.slice none 0 0) := by simp [World.cell?, h2D]
  have f0 := frozen_no h2D 0
  have f1 := frozen_no h2D 1
  have f2 := frozen_no h2D 2
  have f3 := frozen_no h2D 3
  have f4 := frozen_no h2D 4
  have f5 := frozen_no h2D 5
  have hDw : w.heap.size ≤ D := by have := HDD.out; omega
  have HDW := Lib.hid hDw
  clear hb2 h2S h2D c1 hDw
  cases E with
  | true =>
    go_wp2
    refine bodyPost_ret_by (results_cell_row rfl _ _ D 28 #[.int .i64 0, .int .u64 0, .int .u64 0, .int .u64 0, .int .u64 0, .slice none 0 0] (0, 0) _ rfl (set6_heap H2D.out _ _ _ _ _ _) Tryz.underlying28 rfl (by kernel_rfl)) rfl ?_
    refine ⟨⟨0, 0, 0, 0, 0, none, 0, 0⟩, rfl, ?_, six_set HB2.out HDW.out _ _ _ _ _ _⟩
    have e : (⟨a, b, c, d⟩ : W4) = W4.zero := of_decide_eq_true HE.out.symm
    unfold ofM
    rw [if_pos e]
    exact kids_empty.tree 0 W4.zero zero_ok
  | false =>
    go_wp2
    refine bodyPost_ret_by (results_cell_row rfl _ _ D 28 #[.int .i64 2, .int .u64 a, .int .u64 b, .int .u64 c, .int .u64 d, .slice none 0 0] (0, 0) _ rfl (set6_heap H2D.out _ _ _ _ _ _) Tryz.underlying28 rfl (by kernel_rfl)) rfl ?_
    refine ⟨⟨2, a, b, c, d, none, 0, 0⟩, rfl, ?_, six_set HB2.out HDW.out _ _ _ _ _ _⟩
    have e : ¬ (⟨a, b, c, d⟩ : W4) = W4.zero := of_decide_eq_false HE.out.symm
    unfold ofM
    rw [if_neg e]
    exact kids_empty.tree 2 ⟨a, b, c, d⟩ hs


set_option maxRecDepth 100000 in
set_option maxHeartbeats 4000000 in
theorem refsome_any {P : Nat → Prop} (w : World) (k e : Int) {p : Option Addr} {n cap : Nat} {vs : List ReV} {l : List RT} (h : KidsR w P p n cap vs l) (hne : 0 < n) :
    Calls Tryz.prog 20 #[.slice p n cap, .int .i64 k] w (GivesRe P (someM k e l) w) := by
  have HK := Lib.hid h
  have HNU := Lib.hid h.num
  have HLE := Lib.hid h.len
  clear h
  by_cases h1 : n = 1
  · subst h1
    obtain ⟨t, hl⟩ : ∃ t, l = [t] := List.length_eq_one_iff.1 HNU.out.symm
    obtain ⟨y, hv⟩ : ∃ y, vs = [y] := List.length_eq_one_iff.1 (by rw [HLE.out, ← HNU.out])
    subst hl hv
    obtain ⟨g, off, rfl⟩ := HK.out.rowv.some_of (i := 0) (by omega)
    have hra := HK.out.each 0 y t rfl rfl
    have hpl := HK.out.place (i := 0) (y := y) rfl
    rw [show off + 0 * 6 = off by omega] at hpl
    obtain ⟨a, b, c, d, f, q, m, cp⟩ := y
    have hb1 := (Below.refl w.heap.size w).alloc (Nat.le_refl _) (.cells #[.int .i64 0, .int .u64 0, .int .u64 0, .int .u64 0, .int .u64 0, .slice none 0 0] 28)
    obtain ⟨q0, q1, q2, q3, q4, q5⟩ := (hpl.under hb1).six
    simp only at q0 q1 q2 q3 q4 q5
    have HRA := Lib.hid hra
    clear hra hpl hb1
    go_enter Tryz.func20, Tryz.ntmps20
    go_wp2
    refine bodyPost_ret_by (results_cell_row rfl _ _ w.heap.size 28 #[.int .i64 a, .int .u64 b, .int .u64 c, .int .u64 d, .int .u64 f, .slice q m cp] (0, 0) _ rfl (heap_alloc_new w _) Tryz.underlying28 rfl (by kernel_rfl)) rfl ?_
    exact ⟨⟨a, b, c, d, f, q, m, cp⟩, rfl, HRA.out.under ((Below.refl _ _).alloc (Nat.le_refl _) _), (Below.refl _ _).alloc (Nat.le_refl _) _⟩
  · have hz1 : ((n : Int) == 1) = false := by simp; omega
    have HN2 : Hid (2 ≤ n) := by unfold Hid; omega
    clear h1 hne
    go_enter Tryz.func20, Tryz.ntmps20
    go_wp2
    refine bodyPost_ret_by (results_cell_row rfl _ _ w.heap.size 28 #[.int .i64 k, .int .u64 0, .int .u64 0, .int .u64 0, .int .u64 0, .slice p n cap] (0, 0) _ rfl (heap_alloc_new w _) Tryz.underlying28 rfl (by kernel_rfl)) rfl ?_
    refine ⟨⟨k, 0, 0, 0, 0, p, n, cap⟩, rfl, ?_, (Below.refl _ _).alloc (Nat.le_refl _) _⟩
    rw [some_two (by rw [← HNU.out]; exact HN2.out)]
    exact (HK.out.under ((Below.refl _ _).alloc (Nat.le_refl _) _)).tree k W4.zero zero_ok

end Go.Proofs.YtclnadjgbpihcaaGreatDoor

/-! The document's flat and Cat. No condition but size. -/
namespace Go.Proofs.YtclnadjgbpihcaaGreatDoor
open Go.RowKit Go.Lib
set_option linter.unusedVariables false
set_option linter.unusedSimpArgs false

theorem flat_take_len (kk : Int) (l : List RT) (i : Nat) : (flatM kk (l.take i)).length ≤ (l.map RT.sz).sum := by
  have h2 : ∀ (l : List RT) (i : Nat), ((l.take i).map RT.sz).sum ≤ (l.map RT.sz).sum := by
    intro l
    induction l with
    | nil => intro i; simp
    | cons a l ih =>
      intro i
      cases i with
      | zero => simp
      | succ i => have := ih i; simp only [List.take_succ_cons, List.map_cons, List.sum_cons]; omega
  exact Nat.le_trans (flat_len _ _) (h2 l i)
theorem len_sum (l : List RT) : l.length ≤ (l.map RT.sz).sum := by
  induction l with
  | nil => simp
  | cons a l ih => have := sz_pos a; simp only [List.length_cons, List.map_cons, List.sum_cons]; omega
/-- One more expression behind. -/
theorem OwnRe.push {w W W' : World} {P : Nat → Prop} {v v' : Value} {us : List ReV} {l : List RT} {y : ReV} {u : RT} (h : OwnRe w W P v us l) (hr : RAt w P y u) (ho : W'.ownsRow w.heap.size 28 6 v' (l.length + 1) (us.flatMap ReV.cells ++ y.cells)) : OwnRe w W' P v' (us ++ [y]) (l ++ [u]) :=
  h.app (us := [y]) (m := [u]) rfl (fun j z t hz ht => by
    cases j with
    | zero => simp at hz ht; subst hz ht; exact hr
    | succ j => simp at hz) (by simpa using ho)

set_option maxRecDepth 100000 in
set_option maxHeartbeats 8000000 in
theorem refflat_any {P : Nat → Prop} (w : World) (kk : Int) {p : Option Addr} {n cap : Nat} {vs : List ReV} {l : List RT} (h : KidsR w P p n cap vs l) (hsz : (l.map RT.sz).sum ≤ 9000000000) :
    Calls Tryz.prog 19 #[.slice p n cap, .int .i64 kk] w (GivesRow6 P (flatM kk l) w) := by
  obtain ⟨i0, hi0, hz0, hz1, hz2⟩ := re_parts
  have HK := Lib.hid h
  have HNU := Lib.hid h.num
  have hnl : n ≤ 9000000000 := by have := len_sum l; have := h.num; omega
  have HFL := Lib.hid (fun i => Nat.le_trans (flat_take_len kk l i) hsz)
  clear h
  go_enter Tryz.func19, Tryz.ntmps19
  go_wp2
  go_loopg [5, 6] n (fun gk v vi wr => ∃ (i : Nat) (q : Option Addr) (N cp : Nat) (us : List ReV), v = .slice q N cp ∧ vi = .int .i64 (i : Int) ∧ i ≤ n ∧ n - i ≤ gk ∧ Hid (Below w.heap.size w wr) ∧ Hid (OwnRe w wr P (.slice q N cp) us (flatM kk (l.take i))) ∧ N = (flatM kk (l.take i)).length)
  case atStart => exact ⟨0, none, 0, 0, [], rfl, rfl, by omega, by omega, Below.refl _ _, ⟨World.ownsRow_nil _ _ _ _, rfl, fun i y t hy => by simp at hy⟩, rfl⟩
  case round =>
    obtain ⟨i, q0, N, cp0, us, rfl, rfl, hi, hgk, HB, HO, hN⟩ := hrel
    by_cases hlt : i < n
    · have hltz : (i : Int) < (n : Int) := by omega
      obtain ⟨g, off, rfl⟩ := HK.out.rowv.some_of hlt
      have hil : i < l.length := by rw [← HNU.out]; exact hlt
      obtain ⟨y, hy⟩ : ∃ y, vs[i]? = some y := ⟨_, List.getElem?_eq_getElem (by rw [HK.out.len]; exact hil)⟩
      obtain ⟨u, hu⟩ : ∃ u, l[i]? = some u := ⟨_, List.getElem?_eq_getElem hil⟩
      have hpl := HK.out.place hy
      have hra := HK.out.each i y u hy hu
      obtain ⟨ws, et, _, hkids⟩ := hra.kids
      have hukd : u.kind = y.kind := by rw [et]; rfl
      clear et
      have htk := flatM_take kk l i u hu
      have hf1 := HFL.out (i + 1)
      rw [htk] at hf1
      obtain ⟨k, a, b, c, d, q, m, cp⟩ := y
      simp only at hukd hkids
      obtain ⟨p0, p1, p2, p3, p4, p5⟩ := (hpl.under HB.out).six
      simp only at p0 p1 p2 p3 p4 p5
      have HOA : Hid (wr.ownsRow w.heap.size 28 6 (.slice q0 N cp0) N (us.flatMap ReV.cells)) := by
        have := HO.out.own
        rw [← hN] at this
        exact this
      have HAB := Lib.hid (own_above HOA.out)
      have hwle : w.heap.size ≤ wr.heap.size := HB.out.size
      have HRA := Lib.hid hra
      have HKI := Lib.hid hkids
      have HTK := Lib.hid htk
      have HUK := Lib.hid hukd
      have HNN := Lib.hid hN
      rw [List.length_append, ← hN] at hf1
      have hNb : N ≤ 9000000000 := by omega
      have HF1 := Lib.hid hf1
      clear hpl hra hkids htk hukd hy hu hf1 hN hil
      by_cases hk : k = kk
      · have hkz : (k == kk) = true := by simp [hk]
        have HKK := Lib.hid hk
        clear hk
        have hfin : flatM kk (l.take (i + 1)) = flatM kk (l.take i) ++ u.kids := by
          rw [HTK.out, if_pos (by rw [HUK.out]; exact HKK.out)]
        have HFIN := Lib.hid hfin
        have hml : m = u.kids.length := HKI.out.num
        have hwl : ws.length = u.kids.length := HKI.out.len
        have hfb := HF1.out
        rw [if_pos (by rw [HUK.out]; exact HKK.out), ← hml] at hfb
        have HML := Lib.hid hml
        have HWL := Lib.hid hwl
        have hmb : N + m ≤ 9000000000 := by omega
        clear hfin hml hwl hfb
        cases q with
        | none =>
          have hc : m = 0 ∧ cp = 0 := by
            rcases HKI.out.row with ⟨h1, h2⟩ | ⟨_, _, h1, _⟩
            · exact ⟨h1, h2 rfl⟩
            · cases h1
          obtain ⟨rfl, rfl⟩ := hc
          go_wp2_with (at_builtin; go_loud (refine wpList_append_own_none rfl _ _ 26 rfl w.heap.size 28 i0 6 Tryz.underlying26 hi0 _ _ _ rfl HOA.out rfl ?_))
          go_wp2
          go_roundg (n - (i + 1))
          case measure => omega
          case rel =>
            have hk0 : u.kids = [] := List.length_eq_zero_iff.1 HML.out.symm
            refine ⟨i + 1, q0, N, cp0, us, rfl, by go_num, by omega, Nat.le_refl _, HB.out, ?_, by rw [HFIN.out, hk0, List.append_nil]; exact HNN.out⟩
            unfold Hid
            rw [HFIN.out, hk0, List.append_nil]
            exact HO.out
        | some ad =>
          have hcells : ∀ (j : Nat) (x : Value), (ws.flatMap ReV.cells)[j]? = some x → wr.cell? (ad.add j) = some x := by
            intro j x hx
            rcases (HKI.out.under HB.out).row with ⟨h1, _⟩ | ⟨g', off', h1, _, _, _, _, h6⟩
            · have : ws = [] := List.length_eq_zero_iff.1 (by rw [HWL.out, ← HML.out]; exact h1)
              rw [this] at hx
              simp at hx
            · obtain rfl : ad = ⟨g', off', none⟩ := Option.some.inj h1
              rw [addr_add]
              exact h6 j x hx
          have hone := flat6_one ws
          have hlenc : (ws.flatMap ReV.cells).length = m * 6 := by rw [flat6_len, HWL.out, ← HML.out]
          go_wp2_with (at_builtin; go_loud (refine wpList_append_own_at _ rfl _ _ 26 rfl w.heap.size 28 i0 _ 6 64 Tryz.underlying26 hi0 hz0 hz1 hz2 rfl (by decide) _ _ _ rfl HOA.out ad m cp (ws.flatMap ReV.cells) rfl hlenc hcells hone ?c3 ?c4 ?c5 ?_))
          case c3 => unfold maxLen; omega
          case c4 => omega
          case c5 => first | exact hwle | (simp; omega)
          intro v' w4 hown hgrow hnil hat
          have HOWN := Lib.hid hown
          have HGROW := Lib.hid hgrow
          obtain ⟨q4, n4, cp4, rfl⟩ : ∃ q4 n4 cp4, v' = .slice q4 n4 cp4 := by
            rcases row_forms hown with ⟨h, _⟩ | ⟨g, cap', h⟩
            · exact ⟨_, _, _, h⟩
            · exact ⟨_, _, _, h⟩
          have hn4 : n4 = N + m := by
            rcases row_forms hown with ⟨h, h0⟩ | ⟨g, cap', h⟩
            · cases h; omega
            · cases h; rfl
          subst hn4
          clear hown hgrow hat hnil hcells hone hlenc
          go_wp2
          go_roundg (n - (i + 1))
          case measure => omega
          case rel =>
            refine ⟨i + 1, _, N + m, _, us ++ ws, rfl, by go_num, by omega, Nat.le_refl _, HB.out.grown HGROW.out HB.out.size HAB.out, ?_, by rw [HFIN.out, List.length_append, ← HNN.out, HML.out]⟩
            unfold Hid
            rw [HFIN.out]
            refine HO.out.app HWL.out HKI.out.each ?_
            rw [← HNN.out, ← HML.out]
            exact HOWN.out
      · have hkz : (k == kk) = false := by simpa using hk
        have HKK := Lib.hid hk
        clear hk
        have HOB : Hid ((wr.alloc (.cells #[.int .i64 k, .int .u64 a, .int .u64 b, .int .u64 c, .int .u64 d, .slice q m cp] 28)).ownsRow w.heap.size 28 6 (.slice q0 N cp0) N (us.flatMap ReV.cells)) := HOA.out.alloc _
        go_wp2_with (at_builtin; go_loud (refine wpList_append_own_at _ rfl _ _ 26 rfl w.heap.size 28 i0 _ 6 64 Tryz.underlying26 hi0 hz0 hz1 hz2 rfl (by decide) _ _ _ rfl HOB.out ⟨wr.heap.size, 0, none⟩ 1 1 [.int .i64 k, .int .u64 a, .int .u64 b, .int .u64 c, .int .u64 d, .slice q m cp] rfl rfl ?c1 ?c2 ?c3 ?c4 ?c5 ?_))
        case c1 => exact new3 wr #[.int .i64 k, .int .u64 a, .int .u64 b, .int .u64 c, .int .u64 d, .slice q m cp] 28 [.int .i64 k, .int .u64 a, .int .u64 b, .int .u64 c, .int .u64 d, .slice q m cp] rfl
        case c2 => intro x hx; simp at hx; rcases hx with rfl | rfl | rfl | rfl | rfl | rfl <;> rfl
        case c3 => unfold maxLen; omega
        case c4 => omega
        case c5 => simp; omega
        intro v' w4 hown hgrow _ hat
        obtain ⟨g4, cap4, rfl⟩ := (row_forms hown).resolve_left (fun h => by cases h.2)
        have HOWN := Lib.hid hown
        have HGROW := Lib.hid hgrow
        clear hown hgrow hat
        have hfin : flatM kk (l.take (i + 1)) = flatM kk (l.take i) ++ [u] := by
          rw [HTK.out, if_neg (by rw [HUK.out]; exact HKK.out)]
        have HFIN := Lib.hid hfin
        clear hfin
        go_wp2
        go_roundg (n - (i + 1))
        case measure => omega
        case rel =>
          refine ⟨i + 1, _, N + 1, _, us ++ [⟨k, a, b, c, d, q, m, cp⟩], rfl, by go_num, by omega, Nat.le_refl _, (HB.out.alloc HB.out.size _).grown HGROW.out (by simp; omega) HAB.out, ?_, by rw [HFIN.out, List.length_append, ← HNN.out]; rfl⟩
          unfold Hid
          rw [HFIN.out]
          refine HO.out.push HRA.out ?_
          rw [← HNN.out]
          exact HOWN.out
    · have hltz : ¬ (i : Int) < (n : Int) := by omega
      have HN0 := Lib.hid hN
      clear hN
      go_wp2
      go_ret
      refine ⟨_, us, rfl, ?_, HB.out⟩
      have e : l.take i = l := List.take_of_length_le (by rw [← HNU.out]; omega)
      have h := HO.out
      rw [e] at h
      exact h

/-- What is no Empty of the first so many. -/
theorem noKind_take (kk : Int) (l : List RT) (i : Nat) (u : RT) (hu : l[i]? = some u) : noKind kk (l.take (i + 1)) = noKind kk (l.take i) ++ (if u.kind = kk then [] else [u]) := by
  unfold noKind
  rw [List.take_add_one, hu, List.filter_append]
  congr 1
  by_cases h : u.kind = kk <;> simp [h]

set_option maxRecDepth 100000 in
set_option maxHeartbeats 8000000 in
theorem refcat_any {P : Nat → Prop} (w : World) {p : Option Addr} {n cap : Nat} {vs : List ReV} {l : List RT} (h : KidsR w P p n cap vs l) (hsz : (l.map RT.sz).sum ≤ 9000000000) :
    Calls Tryz.prog 10 #[.slice p n cap] w (GivesRe (fun g => P g ∨ w.heap.size ≤ g) (catM l) w) := by
  obtain ⟨i0, hi0, hz0, hz1, hz2⟩ := re_parts
  obtain ⟨D, hD⟩ : ∃ D, D = w.heap.size := ⟨_, rfl⟩
  obtain ⟨w1, hw1⟩ : ∃ w1 : World, w1 = w.alloc (.cells #[.int .i64 0, .int .u64 0, .int .u64 0, .int .u64 0, .int .u64 0, .slice none 0 0] 28) := ⟨_, rfl⟩
  have hb1 : Below w.heap.size w w1 := by rw [hw1]; exact (Below.refl _ _).alloc (Nat.le_refl _) _
  have hnD : w1.heap[D]? = some (.cells #[.int .i64 0, .int .u64 0, .int .u64 0, .int .u64 0, .int .u64 0, .slice none 0 0] 28 (0, 0)) := by rw [hw1, hD]; exact heap_alloc_new _ _
  have h0 : KidsR w (fun g => P g ∧ g < w.heap.size) p n cap vs l := h.kept (Keeps.of (Nat.le_refl _) fun b hp hl => ⟨rfl, hp, hl⟩)
  have c1 := refflat_any w1 3 (h0.under hb1) hsz
  have hfl := flat_len 3 l
  obtain ⟨F, hF⟩ : ∃ F, F = flatM 3 l := ⟨_, rfl⟩
  obtain ⟨R, hR⟩ : ∃ R, R = catM l := ⟨_, rfl⟩
  rw [← hR]
  rw [← hF] at c1 hfl
  have HF := Lib.hid hF
  have HR := Lib.hid hR
  have HB1 := Lib.hid hb1
  have HND := Lib.hid hnD
  have HW1 := Lib.hid hw1
  have HDD := Lib.hid hD
  have hDl : D < w1.heap.size := (Array.getElem?_eq_some_iff.1 hnD).1
  have HDL := Lib.hid hDl
  clear h h0 hF hR hb1 hnD hw1 hD hDl
  go_enter Tryz.func10, Tryz.ntmps10
  go_wp2_with fail
  rw [← HW1.out, ← HDD.out]
  ((with_reducible refine c1.mono ?_))
  rintro _ w2 ⟨v, us, rfl, hO, hb2⟩
  obtain ⟨q2, cp2, rfl, hk⟩ := hO.slice hb2
  obtain ⟨n2, hn2⟩ : ∃ n2, n2 = F.length := ⟨_, rfl⟩
  rw [← hn2] at hk ⊢ hfl
  have hrow2 := hk.rowv
  have HK2 := Lib.hid hk
  have HE2 := Lib.hid hO.each
  have HUL := Lib.hid hO.len
  have HN2 := Lib.hid hn2
  have HB2 := Lib.hid hb2
  have h2D := (hb2.block D HDL.out).trans HND.out
  have H2D := Lib.hid h2D
  have h12 : w1.heap.size ≤ w2.heap.size := hb2.size
  have hn2b : n2 ≤ 9000000000 := by omega
  clear hO hk hn2 hb2 hrow2 h2D c1
  go_wp2_with fail
  go_loopg [4, 5] n2 (fun gk v vi wr => ∃ (i : Nat) (q : Option Addr) (N cp : Nat) (us3 : List ReV), v = .slice q N cp ∧ vi = .int .i64 (i : Int) ∧ i ≤ n2 ∧ n2 - i ≤ gk ∧ N ≤ i ∧ Hid (Below w2.heap.size w2 wr) ∧ Hid (wr.ownsRow w2.heap.size 28 6 (.slice q N cp) N (us3.flatMap ReV.cells)) ∧ Hid (N = (noKind 1 (F.take i)).length) ∧ Hid (us3.length = (noKind 1 (F.take i)).length ∧ (∀ (j : Nat) (y : ReV) (t : RT), us3[j]? = some y → (noKind 1 (F.take i))[j]? = some t → RAt w1 (fun g => P g ∧ g < w.heap.size) y t) ∧ ∀ t ∈ F.take i, t.kind ≠ 0))
  case atStart => exact ⟨0, none, 0, 0, [], rfl, rfl, by omega, by omega, Nat.le_refl _, Below.refl _ _, World.ownsRow_nil _ _ _ _, rfl, rfl, fun j y t hy => by simp at hy, fun t ht => by simp at ht⟩
  case round =>
    obtain ⟨i, q0, N, cp0, us3, rfl, rfl, hi, hgk, hNi, HB, HO, HN, HI⟩ := hrel
    have hrD := (HB.out.block D (Nat.lt_of_lt_of_le HDL.out h12)).trans H2D.out
    have HRD := Lib.hid hrD
    by_cases hlt : i < n2
    · have hltz : (i : Int) < (n2 : Int) := by omega
      obtain ⟨g, off, rfl⟩ := HK2.out.rowv.some_of hlt
      have hil : i < F.length := by rw [← HN2.out]; exact hlt
      obtain ⟨y, hy⟩ : ∃ y, us[i]? = some y := ⟨_, List.getElem?_eq_getElem (by rw [HUL.out]; exact hil)⟩
      obtain ⟨u, hu⟩ : ∃ u, F[i]? = some u := ⟨_, List.getElem?_eq_getElem hil⟩
      have hpl := HK2.out.place hy
      have hra := HE2.out i y u hy hu
      have hukd : u.kind = y.kind := by obtain ⟨_, et, _⟩ := hra.kids; rw [et]; rfl
      have htk := noKind_take 1 F i u hu
      obtain ⟨k, a, b, c, d, q, m, cp⟩ := y
      simp only at hukd
      obtain ⟨p0, p1, p2, p3, p4, p5⟩ := (hpl.under HB.out).six
      simp only at p0 p1 p2 p3 p4 p5
      have HRA := Lib.hid hra
      have HTK := Lib.hid htk
      have HUK := Lib.hid hukd
      have HU := Lib.hid hu
      have HMU : Hid (u ∈ F) := List.mem_of_getElem? hu
      clear hpl hra hukd htk hy hu hil
      by_cases hk0 : k = 0
      · have hkz : (k == 0) = true := by simp [hk0]
        have HK0 := Lib.hid hk0
        have d0 : wr.cell? ⟨D, 0, none⟩ = some (.int .i64 0) := by simp [World.cell?, hrD]
        have d1 : wr.cell? ⟨D, 1, none⟩ = some (.int .u64 0) := by simp [World.cell?, hrD]
        have d2 : wr.cell? ⟨D, 2, none⟩ = some (.int .u64 0) := by simp [World.cell?, hrD]
        have d3 : wr.cell? ⟨D, 3, none⟩ = some (.int .u64 0) := by simp [World.cell?, hrD]
        have d4 : wr.cell? ⟨D, 4, none⟩ = some (.int .u64 0) := by simp [World.cell?, hrD]
        have d5 : wr.cell? ⟨D, 5, none⟩ = some (.slice none 0 0) := by simp [World.cell?, hrD]
        have f0 := frozen_no hrD 0
        have f1 := frozen_no hrD 1
        have f2 := frozen_no hrD 2
        have f3 := frozen_no hrD 3
        have f4 := frozen_no hrD 4
        have f5 := frozen_no hrD 5
        clear hk0 hrD
        go_wp2
        refine bodyPost_ret_by (results_cell_row rfl _ _ D 28 #[.int .i64 0, .int .u64 0, .int .u64 0, .int .u64 0, .int .u64 0, .slice none 0 0] (0, 0) _ rfl (set6_heap HRD.out _ _ _ _ _ _) Tryz.underlying28 rfl (by kernel_rfl)) rfl ?_
        refine ⟨⟨0, 0, 0, 0, 0, none, 0, 0⟩, rfl, ?_, six_set (HB1.out.trans ((HB2.out.trans (HB.out.mono HB2.out.size)).mono HB1.out.size)) (by have := HDD.out; omega) _ _ _ _ _ _⟩
        have e : R = noneM := by
          rw [HR.out]
          unfold catM
          rw [if_pos]
          rw [← HF.out, List.any_eq_true]
          exact ⟨u, HMU.out, by rw [HUK.out, HK0.out]; rfl⟩
        rw [e]
        exact kids_empty.tree 0 W4.zero zero_ok
      · have hkz : (k == 0) = false := by simpa using hk0
        have HK0 := Lib.hid hk0
        have HNZ : Hid (∀ t ∈ F.take (i + 1), t.kind ≠ 0) := by
          intro t ht
          rw [List.take_add_one, HU.out] at ht
          rcases List.mem_append.1 ht with h | h
          · exact HI.out.2.2 t h
          · simp at h; subst h; rw [HUK.out]; exact HK0.out
        clear hk0 hrD
        by_cases hk1 : k = 1
        · have hkz1 : (k == 1) = true := by simp [hk1]
          have HT : Hid (noKind 1 (F.take (i + 1)) = noKind 1 (F.take i)) := by unfold Hid; rw [HTK.out, if_pos (by rw [HUK.out]; exact hk1), List.append_nil]
          clear hk1
          go_wp2
          go_roundg (n2 - (i + 1))
          case measure => omega
          case rel => exact ⟨i + 1, q0, N, cp0, us3, rfl, by go_num, by omega, Nat.le_refl _, by omega, HB.out, HO.out, by rw [HT.out]; exact HN.out, by rw [HT.out]; exact HI.out.1, by rw [HT.out]; exact HI.out.2.1, HNZ.out⟩
        · have hkz1 : (k == 1) = false := by simpa using hk1
          have HT : Hid (noKind 1 (F.take (i + 1)) = noKind 1 (F.take i) ++ [u]) := by unfold Hid; rw [HTK.out, if_neg (by rw [HUK.out]; exact hk1)]
          clear hk1
          have HOB : Hid ((wr.alloc (.cells #[.int .i64 k, .int .u64 a, .int .u64 b, .int .u64 c, .int .u64 d, .slice q m cp] 28)).ownsRow w2.heap.size 28 6 (.slice q0 N cp0) N (us3.flatMap ReV.cells)) := HO.out.alloc _
          have HAB := Lib.hid (own_above HO.out)
          have hwle : w2.heap.size ≤ wr.heap.size := HB.out.size
          go_wp2_with (at_builtin; go_loud (refine wpList_append_own_at _ rfl _ _ 26 rfl w2.heap.size 28 i0 _ 6 64 Tryz.underlying26 hi0 hz0 hz1 hz2 rfl (by decide) _ _ _ rfl HOB.out ⟨wr.heap.size, 0, none⟩ 1 1 [.int .i64 k, .int .u64 a, .int .u64 b, .int .u64 c, .int .u64 d, .slice q m cp] rfl rfl ?c1 ?c2 ?c3 ?c4 ?c5 ?_))
          case c1 => exact new3 wr #[.int .i64 k, .int .u64 a, .int .u64 b, .int .u64 c, .int .u64 d, .slice q m cp] 28 [.int .i64 k, .int .u64 a, .int .u64 b, .int .u64 c, .int .u64 d, .slice q m cp] rfl
          case c2 => intro x hx; simp at hx; rcases hx with rfl | rfl | rfl | rfl | rfl | rfl <;> rfl
          case c3 => unfold maxLen; omega
          case c4 => omega
          case c5 => simp; omega
          intro v' w4 hown hgrow _ hat
          obtain ⟨g4, cap4, rfl⟩ := (row_forms hown).resolve_left (fun h => by cases h.2)
          have HOWN := Lib.hid hown
          have HGROW := Lib.hid hgrow
          clear hown hgrow hat
          go_wp2
          go_roundg (n2 - (i + 1))
          case measure => omega
          case rel =>
            refine ⟨i + 1, _, N + 1, _, us3 ++ [⟨k, a, b, c, d, q, m, cp⟩], rfl, by go_num, by omega, Nat.le_refl _, by omega, (HB.out.alloc HB.out.size _).grown HGROW.out (by simp; omega) HAB.out, ?_, ?_, ?_, ?_, HNZ.out⟩
            · unfold Hid
              rw [List.flatMap_append]
              exact HOWN.out
            · unfold Hid
              rw [HT.out, List.length_append, ← HN.out]
              rfl
            · rw [HT.out, List.length_append, List.length_append, HI.out.1]
              rfl
            · intro j z t hz ht
              rw [HT.out] at ht
              by_cases hj : j < us3.length
              · rw [List.getElem?_append_left hj] at hz
                rw [List.getElem?_append_left (by rw [← HI.out.1]; exact hj)] at ht
                exact HI.out.2.1 j z t hz ht
              · rw [List.getElem?_append_right (by omega)] at hz
                rw [List.getElem?_append_right (by rw [← HI.out.1]; omega), ← HI.out.1] at ht
                cases e : j - us3.length with
                | zero => rw [e] at hz ht; simp at hz ht; subst hz ht; exact HRA.out
                | succ j2 => rw [e] at hz; simp at hz
    · have hltz : ¬ (i : Int) < (n2 : Int) := by omega
      have e9 : F.take i = F := List.take_of_length_le (by rw [← HN2.out]; omega)
      have hI := HI.out
      have hN9 := HN.out
      rw [e9] at hI hN9
      have hcat : R = someM 3 1 (noKind 1 F) := by
        rw [HR.out]
        unfold catM noKind
        rw [if_neg, HF.out]
        rw [← HF.out]
        intro h
        obtain ⟨t, ht, hk⟩ := List.any_eq_true.1 h
        exact hI.2.2 t ht (by simpa using hk)
      have hall : Below w.heap.size w wr := HB1.out.trans ((HB2.out.trans (HB.out.mono HB2.out.size)).mono HB1.out.size)
      have HALL := Lib.hid hall
      have HCAT := Lib.hid hcat
      have HI9 := Lib.hid hI
      have HN9 := Lib.hid hN9
      clear hI hN9 hcat hall e9
      by_cases hN0 : N = 0
      · have hNz : ((N : Int) == 0) = true := by simp [hN0]
        have HL0 : Hid (noKind 1 F = []) := List.length_eq_zero_iff.1 (by rw [← HN9.out]; exact hN0)
        have d0 : wr.cell? ⟨D, 0, none⟩ = some (.int .i64 0) := by simp [World.cell?, hrD]
        have d1 : wr.cell? ⟨D, 1, none⟩ = some (.int .u64 0) := by simp [World.cell?, hrD]
        have d2 : wr.cell? ⟨D, 2, none⟩ = some (.int .u64 0) := by simp [World.cell?, hrD]
        have d3 : wr.cell? ⟨D, 3, none⟩ = some (.int .u64 0) := by simp [World.cell?, hrD]
        have d4 : wr.cell? ⟨D, 4, none⟩ = some (.int .u64 0) := by simp [World.cell?, hrD]
        have d5 : wr.cell? ⟨D, 5, none⟩ = some (.slice none 0 0) := by simp [World.cell?, hrD]
        have f0 := frozen_no hrD 0
        have f1 := frozen_no hrD 1
        have f2 := frozen_no hrD 2
        have f3 := frozen_no hrD 3
        have f4 := frozen_no hrD 4
        have f5 := frozen_no hrD 5
        clear hN0 hrD
        go_wp2
        refine bodyPost_ret_by (results_cell_row rfl _ _ D 28 #[.int .i64 1, .int .u64 0, .int .u64 0, .int .u64 0, .int .u64 0, .slice none 0 0] (0, 0) _ rfl (set6_heap HRD.out _ _ _ _ _ _) Tryz.underlying28 rfl (by kernel_rfl)) rfl ?_
        refine ⟨⟨1, 0, 0, 0, 0, none, 0, 0⟩, rfl, ?_, six_set HALL.out (by have := HDD.out; omega) _ _ _ _ _ _⟩
        rw [HCAT.out, HL0.out]
        exact kids_empty.tree 1 W4.zero zero_ok
      · have hNz : ((N : Int) == 0) = false := by simp; omega
        have hkr : KidsR wr (fun g => (P g ∧ g < w.heap.size) ∨ w1.heap.size ≤ g) q0 N cp0 us3 (noKind 1 F) := by
          have h1 : OwnRe w1 wr (fun g => P g ∧ g < w.heap.size) (.slice q0 N cp0) us3 (noKind 1 F) := ⟨by rw [← HN9.out]; exact own_mono HO.out h12, HI9.out.1, HI9.out.2.1⟩
          obtain ⟨q', cp', e, h2⟩ := h1.slice (HB2.out.trans (HB.out.mono HB2.out.size))
          cases e
          rw [← HN9.out] at h2
          exact h2
        have c5 := refsome_any wr 3 1 hkr (by omega)
        clear hN0 hrD hkr
        go_wp2_with fail
        ((with_reducible refine c5.mono ?_))
        rintro _ w6 ⟨x, rfl, hx, hb6⟩
        obtain ⟨k, a, b, c, d, q6, m, cp6⟩ := x
        have h6D := (hb6.block D (Nat.lt_of_lt_of_le HDL.out (Nat.le_trans h12 HB.out.size))).trans HRD.out
        have H6D := Lib.hid h6D
        have d0 : w6.cell? ⟨D, 0, none⟩ = some (.int .i64 0) := by simp [World.cell?, h6D]
        have d1 : w6.cell? ⟨D, 1, none⟩ = some (.int .u64 0) := by simp [World.cell?, h6D]
        have d2 : w6.cell? ⟨D, 2, none⟩ = some (.int .u64 0) := by simp [World.cell?, h6D]
        have d3 : w6.cell? ⟨D, 3, none⟩ = some (.int .u64 0) := by simp [World.cell?, h6D]
        have d4 : w6.cell? ⟨D, 4, none⟩ = some (.int .u64 0) := by simp [World.cell?, h6D]
        have d5 : w6.cell? ⟨D, 5, none⟩ = some (.slice none 0 0) := by simp [World.cell?, h6D]
        have f0 := frozen_no h6D 0
        have f1 := frozen_no h6D 1
        have f2 := frozen_no h6D 2
        have f3 := frozen_no h6D 3
        have f4 := frozen_no h6D 4
        have f5 := frozen_no h6D 5
        have HX := Lib.hid hx
        have HB6 := Lib.hid hb6
        clear hx hb6 h6D c5
        unfold ReV.val
        go_wp2
        refine bodyPost_ret_by (results_cell_row rfl _ _ D 28 #[.int .i64 k, .int .u64 a, .int .u64 b, .int .u64 c, .int .u64 d, .slice q6 m cp6] (0, 0) _ rfl (set6_heap H6D.out _ _ _ _ _ _) Tryz.underlying28 rfl (by kernel_rfl)) rfl ?_
        have hall : Below w.heap.size w w6 := HALL.out.trans (HB6.out.mono HALL.out.size)
        refine ⟨⟨k, a, b, c, d, q6, m, cp6⟩, rfl, ?_, six_set hall (by have := HDD.out; omega) _ _ _ _ _ _⟩
        rw [HCAT.out]
        refine HX.out.kept (Keeps.of (by simp [World.setCell]) fun b hp hl => ?_)
        have hbD : b ≠ D := by
          have h1 := HDD.out
          have h2 : w1.heap.size = D + 1 := by rw [HW1.out, h1]; simp
          rcases hp with ⟨_, hp⟩ | hp
          · omega
          · omega
        refine ⟨six_ne hbD _ _ _ _ _ _, ?_⟩
        rcases hp with ⟨hp, _⟩ | hp
        · exact .inl hp
        · exact .inr (Nat.le_trans HB1.out.size hp)

end Go.Proofs.YtclnadjgbpihcaaGreatDoor

/-! The document's put: one more, at its place by texts, unless it is there. No condition but size. -/
namespace Go.Proofs.YtclnadjgbpihcaaGreatDoor
open Go.RowKit Go.Lib
set_option linter.unusedVariables false
set_option linter.unusedSimpArgs false

theorem bs_toList (x : Tx) : (bs x).toList = x := by rw [ByteArray.toList_eq]; simp [bs]
theorem putL_step (r : RT) (pb : Bool) (x : RT) (l : List RT) : putL txt r pb (x :: l) = if txt x = txt r then x :: putL txt r true l else if tlt (txt r) (txt x) ∧ pb = false then r :: x :: putL txt r true l else x :: putL txt r pb l := by rw [putL]
theorem drop_one {α : Type} {l : List α} {i : Nat} {x : α} (h : l[i]? = some x) : l.drop i = x :: l.drop (i + 1) := by
  obtain ⟨h1, h2⟩ := List.getElem?_eq_some_iff.1 h
  rw [List.drop_eq_getElem_cons h1, h2]
/-- What of the list is put so far: a row of its own, its kids of the first world. -/
structure PutAt (w : World) (b : Nat) (P : Nat → Prop) (W : World) (q : Option Addr) (N cp : Nat) (us : List ReV) (o : List RT) : Prop where
  row : W.ownsRow b 28 6 (.slice q N cp) N (us.flatMap ReV.cells)
  num : N = o.length
  len : us.length = o.length
  each : ∀ (i : Nat) (y : ReV) (t : RT), us[i]? = some y → o[i]? = some t → RAt w P y t
theorem PutAt.push {w W W' : World} {b : Nat} {P : Nat → Prop} {q q' : Option Addr} {N cp cp' : Nat} {us : List ReV} {o : List RT} {y : ReV} {u : RT} (h : PutAt w b P W q N cp us o) (hr : RAt w P y u)
    (ho : W'.ownsRow b 28 6 (.slice q' (N + 1) cp') (N + 1) (us.flatMap ReV.cells ++ y.cells)) : PutAt w b P W' q' (N + 1) cp' (us ++ [y]) (o ++ [u]) := by
  refine ⟨?_, by rw [List.length_append, h.num]; rfl, by rw [List.length_append, List.length_append, h.len]; rfl, fun i z t hz ht => ?_⟩
  · rw [List.flatMap_append]
    simpa using ho
  · by_cases hi : i < us.length
    · rw [List.getElem?_append_left hi] at hz
      rw [List.getElem?_append_left (by rw [← h.len]; exact hi)] at ht
      exact h.each i z t hz ht
    · rw [List.getElem?_append_right (by omega)] at hz
      rw [List.getElem?_append_right (by rw [← h.len]; omega), ← h.len] at ht
      cases e : i - us.length with
      | zero => rw [e] at hz ht; simp at hz ht; subst hz ht; exact hr
      | succ j => rw [e] at hz; simp at hz

set_option maxRecDepth 100000 in
set_option maxHeartbeats 8000000 in
theorem refput_any {P : Nat → Prop} (w : World) {p : Option Addr} {n cap : Nat} {vs : List ReV} {l : List RT} (h : KidsR w P p n cap vs l) (x : ReV) (r : RT) (hr : RAt w P x r) (hn : n ≤ 9000000000) (hsz : ∀ t ∈ l, t.sz ≤ 9000000000) (hrs : r.sz ≤ 9000000000) :
    Calls Tryz.prog 39 #[.slice p n cap, x.val] w (GivesRow6 P (putL txt r false l) w) := by
  obtain ⟨i0, hi0, hz0, hz1, hz2⟩ := re_parts
  obtain ⟨rk, ra, rb, rc, rd, rq, rm, rcp⟩ := x
  obtain ⟨D, hD⟩ : ∃ D, D = w.heap.size := ⟨_, rfl⟩
  obtain ⟨w1, hw1⟩ : ∃ w1 : World, w1 = w.alloc (.cells #[.int .i64 rk, .int .u64 ra, .int .u64 rb, .int .u64 rc, .int .u64 rd, .slice rq rm rcp] 28) := ⟨_, rfl⟩
  have hb1 : Below w.heap.size w w1 := by rw [hw1]; exact (Below.refl _ _).alloc (Nat.le_refl _) _
  have hnD : w1.heap[D]? = some (.cells #[.int .i64 rk, .int .u64 ra, .int .u64 rb, .int .u64 rc, .int .u64 rd, .slice rq rm rcp] 28 (0, 0)) := by rw [hw1, hD]; exact heap_alloc_new _ _
  have hDl : D < w1.heap.size := (Array.getElem?_eq_some_iff.1 hnD).1
  have c1 := reftext_any r.dep r _ w1 (Nat.le_refl _) (hr.under hb1) hrs
  obtain ⟨T, hT⟩ : ∃ T, T = bs (txt r) := ⟨_, rfl⟩
  unfold GivesTx at c1
  rw [← hT] at c1
  unfold ReV.val at c1 ⊢
  simp only at c1 ⊢
  have HT := Lib.hid hT
  have HK := Lib.hid (h.under hb1)
  have HEA := Lib.hid h.each
  have HLE := Lib.hid h.len
  have HNU := Lib.hid h.num
  have HRA := Lib.hid hr
  have HSZ := Lib.hid hsz
  have HB1 := Lib.hid hb1
  have HND := Lib.hid hnD
  have HW1 := Lib.hid hw1
  have HDD := Lib.hid hD
  have HDL := Lib.hid hDl
  have h01 : w.heap.size ≤ w1.heap.size := hb1.size
  have r0 : w1.cell? ⟨D, 0, none⟩ = some (.int .i64 rk) := by simp [World.cell?, hnD]
  have r1 : w1.cell? ⟨D, 1, none⟩ = some (.int .u64 ra) := by simp [World.cell?, hnD]
  have r2 : w1.cell? ⟨D, 2, none⟩ = some (.int .u64 rb) := by simp [World.cell?, hnD]
  have r3 : w1.cell? ⟨D, 3, none⟩ = some (.int .u64 rc) := by simp [World.cell?, hnD]
  have r4 : w1.cell? ⟨D, 4, none⟩ = some (.int .u64 rd) := by simp [World.cell?, hnD]
  have r5 : w1.cell? ⟨D, 5, none⟩ = some (.slice rq rm rcp) := by simp [World.cell?, hnD]
  clear h hr hsz hrs hb1 hw1 hD hDl hT hnD
  go_enter Tryz.func39, Tryz.ntmps39
  go_wp2_with fail
  rw [← HW1.out, ← HDD.out]
  ((with_reducible refine c1.mono ?_))
  rintro _ w2 ⟨rfl, hb2⟩
  have HB2 := Lib.hid hb2
  clear hb2 c1 r0 r1 r2 r3 r4 r5
  go_wp2_with fail
  go_loopg [5, 7, 8] n (fun gk v vf vi wr => ∃ (i : Nat) (pb : Bool) (q : Option Addr) (N cp : Nat) (us : List ReV) (oo : List RT), v = .slice q N cp ∧ vf = .bool pb ∧ vi = .int .i64 (i : Int) ∧ i ≤ n ∧ n - i ≤ gk ∧ N ≤ 2 * i ∧ Hid (Below w1.heap.size w1 wr) ∧ Hid (PutAt w w1.heap.size P wr q N cp us oo) ∧ Hid (putL txt r false l = oo ++ putL txt r pb (l.drop i)))
  case atStart => exact ⟨0, false, none, 0, 0, [], [], rfl, rfl, rfl, by omega, by omega, by omega, HB2.out, ⟨World.ownsRow_nil _ _ _ _, rfl, rfl, fun i y t hy => by simp at hy⟩, rfl⟩
  case round =>
    obtain ⟨i, pb, q0, N, cp0, us, oo, rfl, rfl, rfl, hi, hgk, hNi, HB, HP, HE⟩ := hrel
    have hrD := (HB.out.block D HDL.out).trans HND.out
    have hwr : w1.heap.size ≤ wr.heap.size := HB.out.size
    have HAB := Lib.hid (own_above HP.out.row)
    by_cases hlt : i < n
    · have hltz : (i : Int) < (n : Int) := by omega
      obtain ⟨g, off, rfl⟩ := HK.out.rowv.some_of hlt
      have hil : i < l.length := by rw [← HNU.out]; exact hlt
      obtain ⟨y, hy⟩ : ∃ y, vs[i]? = some y := ⟨_, List.getElem?_eq_getElem (by rw [HLE.out]; exact hil)⟩
      obtain ⟨u, hu⟩ : ∃ u, l[i]? = some u := ⟨_, List.getElem?_eq_getElem hil⟩
      have hpl := HK.out.place hy
      have hra := HEA.out i y u hy hu
      have c5 := reftext_any u.dep u y wr (Nat.le_refl _) ((hra.under HB1.out).under HB.out) (HSZ.out u (List.mem_of_getElem? hu))
      obtain ⟨S, hS⟩ : ∃ S, S = bs (txt u) := ⟨_, rfl⟩
      unfold GivesTx at c5
      rw [← hS] at c5
      obtain ⟨k, a, b, c, d, q, m, cp⟩ := y
      unfold ReV.val at c5
      simp only at c5
      obtain ⟨p0, p1, p2, p3, p4, p5⟩ := (hpl.under HB.out).six
      simp only at p0 p1 p2 p3 p4 p5
      have HU := Lib.hid hra
      have HS := Lib.hid hS
      have HPL : Hid (∀ w' : World, Below wr.heap.size wr w' → (w'.cell? ⟨g, off + i * 6, none⟩ = some (.int .i64 k) ∧ w'.cell? ⟨g, off + i * 6 + 1, none⟩ = some (.int .u64 a) ∧ w'.cell? ⟨g, off + i * 6 + 2, none⟩ = some (.int .u64 b) ∧ w'.cell? ⟨g, off + i * 6 + 3, none⟩ = some (.int .u64 c) ∧ w'.cell? ⟨g, off + i * 6 + 4, none⟩ = some (.int .u64 d) ∧ w'.cell? ⟨g, off + i * 6 + 5, none⟩ = some (.slice q m cp))) := fun w' hb => ((hpl.under HB.out).under hb).six
      have HPG : Hid (∀ (w4 : World) (row : Nat), w1.heap.size ≤ wr.heap.size → (w4.heap[g]? = wr.heap[g]?) → (w4.cell? ⟨g, off + i * 6, none⟩ = some (.int .i64 k) ∧ w4.cell? ⟨g, off + i * 6 + 1, none⟩ = some (.int .u64 a) ∧ w4.cell? ⟨g, off + i * 6 + 2, none⟩ = some (.int .u64 b) ∧ w4.cell? ⟨g, off + i * 6 + 3, none⟩ = some (.int .u64 c) ∧ w4.cell? ⟨g, off + i * 6 + 4, none⟩ = some (.int .u64 d) ∧ w4.cell? ⟨g, off + i * 6 + 5, none⟩ = some (.slice q m cp))) := fun w4 (_ : Nat) _ e => by
        obtain ⟨s0, s1, s2, s3, s4, s5⟩ := (hpl.under HB.out).six
        exact ⟨(World.cell?_of_block (a := ⟨g, _, none⟩) e).trans s0, (World.cell?_of_block (a := ⟨g, _, none⟩) e).trans s1, (World.cell?_of_block (a := ⟨g, _, none⟩) e).trans s2, (World.cell?_of_block (a := ⟨g, _, none⟩) e).trans s3, (World.cell?_of_block (a := ⟨g, _, none⟩) e).trans s4, (World.cell?_of_block (a := ⟨g, _, none⟩) e).trans s5⟩
      have HGL : Hid (g < w1.heap.size) := hpl.blk.lt
      have hdrop := drop_one hu
      have hstep := HE.out
      rw [hdrop, putL_step] at hstep
      have HST := Lib.hid hstep
      have hrD0 := hrD
      clear hpl hra hy hu hil hS hdrop hstep
      go_wp2_with fail
      ((with_reducible refine c5.mono ?_))
      rintro _ w5 ⟨rfl, hb5⟩
      obtain ⟨s0, s1, s2, s3, s4, s5⟩ := HPL.out w5 hb5
      have hBw5 : Below w1.heap.size w1 w5 := HB.out.trans (hb5.mono hwr)
      have HB5 := Lib.hid hBw5
      have HP5 : Hid (PutAt w w1.heap.size P w5 q0 N cp0 us oo) := by
        refine ⟨?_, HP.out.num, HP.out.len, HP.out.each⟩
        have h1 := HP.out.row
        rcases row_forms h1 with ⟨e, h0⟩ | ⟨g', cp', e⟩
        · rw [e] at h1 ⊢; exact ⟨h1.1, .inl ⟨rfl, h0⟩⟩
        · rw [e] at h1 ⊢; exact own_at h1 (hb5.block g' (row_base h1).2.2.2)
      have h5D := (hBw5.block D HDL.out).trans HND.out
      have hw5 : w1.heap.size ≤ w5.heap.size := hBw5.size
      have hg5 := (hb5.block g (Nat.lt_of_lt_of_le HGL.out hwr))
      have HG5 := Lib.hid hg5
      have HROW := Lib.hid HP5.out.row
      clear hb5 c5 p0 p1 p2 p3 p4 p5 hBw5 hrD hrD0 hg5
      by_cases heq : txt u = txt r
      · have f1 : (S.toList == T.toList) = true := by rw [HS.out, HT.out, bs_toList, bs_toList]; simp [heq]
        have f2 : Op.bytesLess S.toList T.toList = false := by rw [HS.out, HT.out, bs_toList, bs_toList, cb_less, heq, cb_refl]; rfl
        have HQ : Hid (putL txt r false l = (oo ++ [u]) ++ putL txt r true (l.drop (i + 1))) := by unfold Hid; rw [HST.out, if_pos heq]; simp
        clear heq h5D
        have HOBHOWN : Hid ((w5.alloc (.cells #[.int .i64 k, .int .u64 a, .int .u64 b, .int .u64 c, .int .u64 d, .slice q m cp] 28)).ownsRow w1.heap.size 28 6 (.slice q0 N cp0) (N) (us.flatMap ReV.cells)) := HROW.out.alloc _
        go_wp2_with (at_builtin; go_loud (refine wpList_append_own_at _ rfl _ _ 26 rfl w1.heap.size 28 i0 _ 6 64 Tryz.underlying26 hi0 hz0 hz1 hz2 rfl (by decide) _ _ _ rfl HOBHOWN.out ⟨w5.heap.size, 0, none⟩ 1 1 [.int .i64 k, .int .u64 a, .int .u64 b, .int .u64 c, .int .u64 d, .slice q m cp] rfl rfl (new3 w5 #[.int .i64 k, .int .u64 a, .int .u64 b, .int .u64 c, .int .u64 d, .slice q m cp] 28 [.int .i64 k, .int .u64 a, .int .u64 b, .int .u64 c, .int .u64 d, .slice q m cp] rfl) ?h2 ?h3 ?h4 ?h5 ?_))
        case h2 => first | exact ⟨rfl, rfl, rfl, rfl, rfl, rfl⟩ | (intro x hx; simp at hx; rcases hx with rfl | rfl | rfl | rfl | rfl | rfl <;> rfl)
        case h3 => unfold maxLen; omega
        case h4 => omega
        case h5 => first | omega | (simp; omega)
        intro v' w4 hown hgrow _ hat
        obtain ⟨g4, cap4, rfl⟩ := (row_forms hown).resolve_left (fun h => by cases h.2)
        have HOWN := Lib.hid hown
        have HOWNG := Lib.hid hgrow
        clear hown hgrow hat
        go_wp2
        go_roundg (n - (i + 1))
        case measure => omega
        case rel => exact ⟨i + 1, true, _, N + 1, _, us ++ [(⟨k, a, b, c, d, q, m, cp⟩ : ReV)], oo ++ [u], rfl, rfl, by go_num, by omega, Nat.le_refl _, by omega, (HB5.out.alloc hw5 _).grown HOWNG.out (by simp; omega) (own_above HROW.out), HP5.out.push (y := ⟨k, a, b, c, d, q, m, cp⟩) HU.out HOWN.out, HQ.out⟩
      · have f1 : (S.toList == T.toList) = false := by rw [HS.out, HT.out, bs_toList, bs_toList]; simp [heq]
        by_cases hgt : tlt (txt r) (txt u)
        · have f2 : Op.bytesLess S.toList T.toList = false := by rw [HS.out, HT.out, bs_toList, bs_toList, cb_less]; exact decide_eq_false fun h => tlt_irrefl _ (tlt_trans _ _ _ hgt h)
          cases pb with
          | true =>
            have HQ : Hid (putL txt r false l = (oo ++ [u]) ++ putL txt r true (l.drop (i + 1))) := by unfold Hid; rw [HST.out, if_neg heq, if_neg (by simp)]; simp
            clear heq hgt h5D
            have HOBHOWN : Hid ((w5.alloc (.cells #[.int .i64 k, .int .u64 a, .int .u64 b, .int .u64 c, .int .u64 d, .slice q m cp] 28)).ownsRow w1.heap.size 28 6 (.slice q0 N cp0) (N) (us.flatMap ReV.cells)) := HROW.out.alloc _
            go_wp2_with (at_builtin; go_loud (refine wpList_append_own_at _ rfl _ _ 26 rfl w1.heap.size 28 i0 _ 6 64 Tryz.underlying26 hi0 hz0 hz1 hz2 rfl (by decide) _ _ _ rfl HOBHOWN.out ⟨w5.heap.size, 0, none⟩ 1 1 [.int .i64 k, .int .u64 a, .int .u64 b, .int .u64 c, .int .u64 d, .slice q m cp] rfl rfl (new3 w5 #[.int .i64 k, .int .u64 a, .int .u64 b, .int .u64 c, .int .u64 d, .slice q m cp] 28 [.int .i64 k, .int .u64 a, .int .u64 b, .int .u64 c, .int .u64 d, .slice q m cp] rfl) ?m2 ?m3 ?m4 ?m5 ?_))
            case m2 => first | exact ⟨rfl, rfl, rfl, rfl, rfl, rfl⟩ | (intro x hx; simp at hx; rcases hx with rfl | rfl | rfl | rfl | rfl | rfl <;> rfl)
            case m3 => unfold maxLen; omega
            case m4 => omega
            case m5 => first | omega | (simp; omega)
            intro v' w4 hown hgrow _ hat
            obtain ⟨g4, cap4, rfl⟩ := (row_forms hown).resolve_left (fun h => by cases h.2)
            have HOWN := Lib.hid hown
            have HOWNG := Lib.hid hgrow
            clear hown hgrow hat
            go_wp2
            go_roundg (n - (i + 1))
            case measure => omega
            case rel => exact ⟨i + 1, true, _, N + 1, _, us ++ [(⟨k, a, b, c, d, q, m, cp⟩ : ReV)], oo ++ [u], rfl, rfl, by go_num, by omega, Nat.le_refl _, by omega, (HB5.out.alloc hw5 _).grown HOWNG.out (by simp; omega) (own_above HROW.out), HP5.out.push (y := ⟨k, a, b, c, d, q, m, cp⟩) HU.out HOWN.out, HQ.out⟩
          | false =>
            have HQ : Hid (putL txt r false l = ((oo ++ [r]) ++ [u]) ++ putL txt r true (l.drop (i + 1))) := by unfold Hid; rw [HST.out, if_neg heq, if_pos ⟨hgt, rfl⟩]; simp
            clear heq hgt
            have r0 : w5.cell? ⟨D, 0, none⟩ = some (.int .i64 rk) := by simp [World.cell?, h5D]
            have r1 : w5.cell? ⟨D, 1, none⟩ = some (.int .u64 ra) := by simp [World.cell?, h5D]
            have r2 : w5.cell? ⟨D, 2, none⟩ = some (.int .u64 rb) := by simp [World.cell?, h5D]
            have r3 : w5.cell? ⟨D, 3, none⟩ = some (.int .u64 rc) := by simp [World.cell?, h5D]
            have r4 : w5.cell? ⟨D, 4, none⟩ = some (.int .u64 rd) := by simp [World.cell?, h5D]
            have r5 : w5.cell? ⟨D, 5, none⟩ = some (.slice rq rm rcp) := by simp [World.cell?, h5D]
            clear h5D
            have HOBHOWN6 : Hid ((w5.alloc (.cells #[.int .i64 rk, .int .u64 ra, .int .u64 rb, .int .u64 rc, .int .u64 rd, .slice rq rm rcp] 28)).ownsRow w1.heap.size 28 6 (.slice q0 N cp0) (N) (us.flatMap ReV.cells)) := HROW.out.alloc _
            go_wp2_with (at_builtin; go_loud (refine wpList_append_own_at _ rfl _ _ 26 rfl w1.heap.size 28 i0 _ 6 64 Tryz.underlying26 hi0 hz0 hz1 hz2 rfl (by decide) _ _ _ rfl HOBHOWN6.out ⟨w5.heap.size, 0, none⟩ 1 1 [.int .i64 rk, .int .u64 ra, .int .u64 rb, .int .u64 rc, .int .u64 rd, .slice rq rm rcp] rfl rfl (new3 w5 #[.int .i64 rk, .int .u64 ra, .int .u64 rb, .int .u64 rc, .int .u64 rd, .slice rq rm rcp] 28 [.int .i64 rk, .int .u64 ra, .int .u64 rb, .int .u64 rc, .int .u64 rd, .slice rq rm rcp] rfl) ?c2 ?c3 ?c4 ?c5 ?_))
            case c2 => first | exact ⟨rfl, rfl, rfl, rfl, rfl, rfl⟩ | (intro x hx; simp at hx; rcases hx with rfl | rfl | rfl | rfl | rfl | rfl <;> rfl)
            case c3 => unfold maxLen; omega
            case c4 => omega
            case c5 => first | omega | (simp; omega)
            intro v' w6 hown hgrow _ hat
            obtain ⟨g6, cap6, rfl⟩ := (row_forms hown).resolve_left (fun h => by cases h.2)
            have HOWN6 := Lib.hid hown
            have HOWN6G := Lib.hid hgrow
            clear hown hgrow hat
            have HP6 : Hid (PutAt w w1.heap.size P w6 (some ⟨g6, 0, none⟩) (N + 1) cap6 (us ++ [⟨rk, ra, rb, rc, rd, rq, rm, rcp⟩]) (oo ++ [r])) := HP5.out.push (y := ⟨rk, ra, rb, rc, rd, rq, rm, rcp⟩) HRA.out HOWN6.out
            obtain ⟨us2, hus2⟩ : ∃ u2, u2 = us ++ [(⟨rk, ra, rb, rc, rd, rq, rm, rcp⟩ : ReV)] := ⟨_, rfl⟩
            rw [← hus2] at HP6
            clear hus2
            have HB6 : Hid (Below w1.heap.size w1 w6) := (HB5.out.alloc hw5 _).grown HOWN6G.out (by simp; omega) (own_above HROW.out)
            have hw6 : w1.heap.size ≤ w6.heap.size := HB6.out.size
            have HROW6 := Lib.hid HP6.out.row
            have hg6 : w6.heap[g]? = wr.heap[g]? := ((HB6.out.block g HGL.out).trans (HB.out.block g HGL.out).symm)
            obtain ⟨t0, t1, t2, t3, t4, t5⟩ := HPG.out w6 0 hwr hg6
            clear hg6 s0 s1 s2 s3 s4 s5 r0 r1 r2 r3 r4 r5
            have HOBHOWN : Hid ((w6.alloc (.cells #[.int .i64 k, .int .u64 a, .int .u64 b, .int .u64 c, .int .u64 d, .slice q m cp] 28)).ownsRow w1.heap.size 28 6 (.slice (some ⟨g6, 0, none⟩) (N + 1) cap6) (N + 1) (us2.flatMap ReV.cells)) := HROW6.out.alloc _
            go_wp2_with (at_builtin; go_loud (refine wpList_append_own_at _ rfl _ _ 26 rfl w1.heap.size 28 i0 _ 6 64 Tryz.underlying26 hi0 hz0 hz1 hz2 rfl (by decide) _ _ _ rfl HOBHOWN.out ⟨w6.heap.size, 0, none⟩ 1 1 [.int .i64 k, .int .u64 a, .int .u64 b, .int .u64 c, .int .u64 d, .slice q m cp] rfl rfl (new3 w6 #[.int .i64 k, .int .u64 a, .int .u64 b, .int .u64 c, .int .u64 d, .slice q m cp] 28 [.int .i64 k, .int .u64 a, .int .u64 b, .int .u64 c, .int .u64 d, .slice q m cp] rfl) ?e2 ?e3 ?e4 ?e5 ?_))
            case e2 => first | exact ⟨rfl, rfl, rfl, rfl, rfl, rfl⟩ | (intro x hx; simp at hx; rcases hx with rfl | rfl | rfl | rfl | rfl | rfl <;> rfl)
            case e3 => unfold maxLen; omega
            case e4 => omega
            case e5 => first | omega | (simp; omega)
            intro v' w4 hown hgrow _ hat
            obtain ⟨g4, cap4, rfl⟩ := (row_forms hown).resolve_left (fun h => by cases h.2)
            have HOWN := Lib.hid hown
            have HOWNG := Lib.hid hgrow
            clear hown hgrow hat
            go_wp2
            go_roundg (n - (i + 1))
            case measure => omega
            case rel => exact ⟨i + 1, true, _, N + 1 + 1, _, us2 ++ [(⟨k, a, b, c, d, q, m, cp⟩ : ReV)], (oo ++ [r]) ++ [u], rfl, rfl, by go_num, by omega, Nat.le_refl _, by omega, (HB6.out.alloc hw6 _).grown HOWNG.out (by simp; omega) (own_above HROW6.out), HP6.out.push (y := ⟨k, a, b, c, d, q, m, cp⟩) HU.out HOWN.out, HQ.out⟩
        · have f2 : Op.bytesLess S.toList T.toList = true := by rw [HS.out, HT.out, bs_toList, bs_toList, cb_less]; exact decide_eq_true (Classical.byContradiction fun h => heq (cb_eq _ _ h hgt))
          have HQ : Hid (putL txt r false l = (oo ++ [u]) ++ putL txt r pb (l.drop (i + 1))) := by unfold Hid; rw [HST.out, if_neg heq, if_neg (fun h => hgt h.1)]; simp
          clear heq hgt h5D
          have HOBHOWN : Hid ((w5.alloc (.cells #[.int .i64 k, .int .u64 a, .int .u64 b, .int .u64 c, .int .u64 d, .slice q m cp] 28)).ownsRow w1.heap.size 28 6 (.slice q0 N cp0) (N) (us.flatMap ReV.cells)) := HROW.out.alloc _
          go_wp2_with (at_builtin; go_loud (refine wpList_append_own_at _ rfl _ _ 26 rfl w1.heap.size 28 i0 _ 6 64 Tryz.underlying26 hi0 hz0 hz1 hz2 rfl (by decide) _ _ _ rfl HOBHOWN.out ⟨w5.heap.size, 0, none⟩ 1 1 [.int .i64 k, .int .u64 a, .int .u64 b, .int .u64 c, .int .u64 d, .slice q m cp] rfl rfl (new3 w5 #[.int .i64 k, .int .u64 a, .int .u64 b, .int .u64 c, .int .u64 d, .slice q m cp] 28 [.int .i64 k, .int .u64 a, .int .u64 b, .int .u64 c, .int .u64 d, .slice q m cp] rfl) ?n2 ?n3 ?n4 ?n5 ?_))
          case n2 => first | exact ⟨rfl, rfl, rfl, rfl, rfl, rfl⟩ | (intro x hx; simp at hx; rcases hx with rfl | rfl | rfl | rfl | rfl | rfl <;> rfl)
          case n3 => unfold maxLen; omega
          case n4 => omega
          case n5 => first | omega | (simp; omega)
          intro v' w4 hown hgrow _ hat
          obtain ⟨g4, cap4, rfl⟩ := (row_forms hown).resolve_left (fun h => by cases h.2)
          have HOWN := Lib.hid hown
          have HOWNG := Lib.hid hgrow
          clear hown hgrow hat
          go_wp2
          go_roundg (n - (i + 1))
          case measure => omega
          case rel => exact ⟨i + 1, pb, _, N + 1, _, us ++ [(⟨k, a, b, c, d, q, m, cp⟩ : ReV)], oo ++ [u], rfl, rfl, by go_num, by omega, Nat.le_refl _, by omega, (HB5.out.alloc hw5 _).grown HOWNG.out (by simp; omega) (own_above HROW.out), HP5.out.push (y := ⟨k, a, b, c, d, q, m, cp⟩) HU.out HOWN.out, HQ.out⟩
    · have hltz : ¬ (i : Int) < (n : Int) := by omega
      have hdr : l.drop i = [] := List.drop_eq_nil_of_le (by rw [← HNU.out]; omega)
      have hfin := HE.out
      rw [hdr, putL.eq_def] at hfin
      cases pb with
      | true =>
        have HQ : Hid (putL txt r false l = oo) := by
          unfold Hid
          rw [HE.out, hdr]
          simp [putL]
        clear hfin hdr hrD
        go_wp2
        go_ret
        refine ⟨_, us, rfl, ?_, HB1.out.trans (HB.out.mono h01)⟩
        rw [HQ.out]
        exact ⟨by rw [← HP.out.num]; exact own_mono HP.out.row h01, HP.out.len, HP.out.each⟩
      | false =>
        have HQ : Hid (putL txt r false l = oo ++ [r]) := by
          unfold Hid
          rw [HE.out, hdr]
          simp [putL]
        have r0 : wr.cell? ⟨D, 0, none⟩ = some (.int .i64 rk) := by simp [World.cell?, hrD]
        have r1 : wr.cell? ⟨D, 1, none⟩ = some (.int .u64 ra) := by simp [World.cell?, hrD]
        have r2 : wr.cell? ⟨D, 2, none⟩ = some (.int .u64 rb) := by simp [World.cell?, hrD]
        have r3 : wr.cell? ⟨D, 3, none⟩ = some (.int .u64 rc) := by simp [World.cell?, hrD]
        have r4 : wr.cell? ⟨D, 4, none⟩ = some (.int .u64 rd) := by simp [World.cell?, hrD]
        have r5 : wr.cell? ⟨D, 5, none⟩ = some (.slice rq rm rcp) := by simp [World.cell?, hrD]
        clear hfin hdr hrD
        have HROW := Lib.hid HP.out.row
        have HOBHOWN : Hid ((wr.alloc (.cells #[.int .i64 rk, .int .u64 ra, .int .u64 rb, .int .u64 rc, .int .u64 rd, .slice rq rm rcp] 28)).ownsRow w1.heap.size 28 6 (.slice q0 N cp0) (N) (us.flatMap ReV.cells)) := HROW.out.alloc _
        go_wp2_with (at_builtin; go_loud (refine wpList_append_own_at _ rfl _ _ 26 rfl w1.heap.size 28 i0 _ 6 64 Tryz.underlying26 hi0 hz0 hz1 hz2 rfl (by decide) _ _ _ rfl HOBHOWN.out ⟨wr.heap.size, 0, none⟩ 1 1 [.int .i64 rk, .int .u64 ra, .int .u64 rb, .int .u64 rc, .int .u64 rd, .slice rq rm rcp] rfl rfl (new3 wr #[.int .i64 rk, .int .u64 ra, .int .u64 rb, .int .u64 rc, .int .u64 rd, .slice rq rm rcp] 28 [.int .i64 rk, .int .u64 ra, .int .u64 rb, .int .u64 rc, .int .u64 rd, .slice rq rm rcp] rfl) ?w2 ?w3 ?w4 ?w5 ?_))
        case w2 => first | exact ⟨rfl, rfl, rfl, rfl, rfl, rfl⟩ | (intro x hx; simp at hx; rcases hx with rfl | rfl | rfl | rfl | rfl | rfl <;> rfl)
        case w3 => unfold maxLen; omega
        case w4 => omega
        case w5 => first | omega | (simp; omega)
        intro v' w4 hown hgrow _ hat
        obtain ⟨g4, cap4, rfl⟩ := (row_forms hown).resolve_left (fun h => by cases h.2)
        have HOWN := Lib.hid hown
        have HOWNG := Lib.hid hgrow
        clear hown hgrow hat
        go_wp2
        go_ret
        have hp := HP.out.push (y := ⟨rk, ra, rb, rc, rd, rq, rm, rcp⟩) HRA.out HOWN.out
        refine ⟨_, us ++ [(⟨rk, ra, rb, rc, rd, rq, rm, rcp⟩ : ReV)], rfl, ?_, HB1.out.trans (((HB.out.alloc hwr _).grown HOWNG.out (by simp; omega) (own_above HROW.out)).mono h01)⟩
        rw [HQ.out]
        exact ⟨by rw [← hp.num]; exact own_mono hp.row h01, hp.len, hp.each⟩

end Go.Proofs.YtclnadjgbpihcaaGreatDoor

/-! The document's Either. No condition but size. -/
namespace Go.Proofs.YtclnadjgbpihcaaGreatDoor
open Go.RowKit Go.Lib
set_option linter.unusedVariables false
set_option linter.unusedSimpArgs false

theorem others_take (l : List RT) (i : Nat) (u : RT) (hu : l[i]? = some u) : othersM (l.take (i + 1)) = othersM (l.take i) ++ (if u.kind = 0 ∨ u.kind = 2 then [] else [u]) := by
  unfold othersM
  rw [List.take_add_one, hu, List.filter_append]
  congr 1
  by_cases h : u.kind = 0
  · simp [h]
  · by_cases h2 : u.kind = 2
    · simp [h2]
    · simp [h, h2]
theorem puts_snoc (L : List RT) (u : RT) : putsM (L ++ [u]) = putL txt u false (putsM L) := by
  unfold putsM
  rw [List.foldl_append]
  rfl
theorem puts_byte (F : List RT) : putsM (byteM F) = byteM F := by
  unfold byteM
  split <;> rfl
theorem cnt_pos {s : W4} (h : s.Ok) : (0 : Int) < (cnt s.mem 256 : Int) ↔ s ≠ W4.zero := by
  have := cnt_w4 h
  constructor
  · intro h1 e
    have := this.2 e
    omega
  · intro h1
    have : cnt s.mem 256 ≠ 0 := fun e => h1 (this.1 e)
    omega
theorem KidsR.weakP {W : World} {P P' : Nat → Prop} {p : Option Addr} {n cap : Nat} {vs : List ReV} {l : List RT} (h : KidsR W P p n cap vs l) (hk : ∀ b, P b → P' b) : KidsR W P' p n cap vs l := h.kept (Keeps.of (Nat.le_refl _) fun b hp _ => ⟨rfl, hk b hp⟩)

set_option maxRecDepth 100000 in
set_option maxHeartbeats 16000000 in
theorem refeither_any {P : Nat → Prop} (w : World) {p : Option Addr} {n cap : Nat} {vs : List ReV} {l : List RT} (h : KidsR w P p n cap vs l) (hsz : (l.map RT.sz).sum ≤ 9000000000) :
    Calls Tryz.prog 25 #[.slice p n cap] w (GivesRe (fun g => P g ∨ w.heap.size ≤ g) (eitherM l) w) := by
  obtain ⟨i0, hi0, hz0, hz1, hz2⟩ := re_parts
  obtain ⟨D, hD⟩ : ∃ D, D = w.heap.size := ⟨_, rfl⟩
  obtain ⟨w1, hw1⟩ : ∃ w1 : World, w1 = w.alloc (.cells #[.int .i64 0, .int .u64 0, .int .u64 0, .int .u64 0, .int .u64 0, .slice none 0 0] 28) := ⟨_, rfl⟩
  have hb1 : Below w.heap.size w w1 := by rw [hw1]; exact (Below.refl _ _).alloc (Nat.le_refl _) _
  have hnD : w1.heap[D]? = some (.cells #[.int .i64 0, .int .u64 0, .int .u64 0, .int .u64 0, .int .u64 0, .slice none 0 0] 28 (0, 0)) := by rw [hw1, hD]; exact heap_alloc_new _ _
  have h0 : KidsR w (fun g => P g ∧ g < w.heap.size) p n cap vs l := h.kept (Keeps.of (Nat.le_refl _) fun b hp hl => ⟨rfl, hp, hl⟩)
  have c1 := refflat_any w1 4 (h0.under hb1) hsz
  have hfl := flat_len 4 l
  have hfs : ∀ t ∈ flatM 4 l, t.sz ≤ 9000000000 := flat_all (fun t ht => by have := sum_mem ht; omega) fun y hy x hx => by have := kids_sz hx; have := sum_mem hy; omega
  obtain ⟨F, hF⟩ : ∃ F, F = flatM 4 l := ⟨_, rfl⟩
  obtain ⟨R, hR⟩ : ∃ R, R = eitherM l := ⟨_, rfl⟩
  rw [← hR]
  rw [← hF] at c1 hfl hfs
  have HR : Hid (R = someM 4 0 (putsM (byteM F ++ othersM F))) := by unfold Hid; rw [hR, hF]; rfl
  have HB1 := Lib.hid hb1
  have HND := Lib.hid hnD
  have HW1 := Lib.hid hw1
  have HDD := Lib.hid hD
  have HFS := Lib.hid hfs
  have hDl : D < w1.heap.size := (Array.getElem?_eq_some_iff.1 hnD).1
  have HDL := Lib.hid hDl
  clear h h0 hF hR hb1 hnD hw1 hD hDl hfs
  go_enter Tryz.func25, Tryz.ntmps25
  go_wp2_with fail
  rw [← HW1.out, ← HDD.out]
  ((with_reducible refine c1.mono ?_))
  rintro _ w2 ⟨v, us, rfl, hO, hb2⟩
  obtain ⟨q2, cp2, rfl, hk⟩ := hO.slice hb2
  obtain ⟨n2, hn2⟩ : ∃ n2, n2 = F.length := ⟨_, rfl⟩
  rw [← hn2] at hk ⊢ hfl
  obtain ⟨SB, hSB⟩ : ∃ SB, SB = w2.heap.size := ⟨_, rfl⟩
  obtain ⟨w3, hw3⟩ : ∃ w3 : World, w3 = w2.alloc (.cells #[.int .u64 0, .int .u64 0, .int .u64 0, .int .u64 0] 25) := ⟨_, rfl⟩
  have HB3 : Hid (Below w2.heap.size w2 w3) := by unfold Hid; rw [hw3]; exact (Below.refl _ _).alloc (Nat.le_refl _) _
  have HNS : Hid (w3.heap[SB]? = some (.cells #[.int .u64 0, .int .u64 0, .int .u64 0, .int .u64 0] 25 (0, 0))) := by unfold Hid; rw [hw3, hSB]; exact heap_alloc_new _ _
  have HK2 := Lib.hid hk
  have HN2 := Lib.hid hn2
  have HB2 := Lib.hid hb2
  have H2D : Hid (w2.heap[D]? = some (.cells #[.int .i64 0, .int .u64 0, .int .u64 0, .int .u64 0, .int .u64 0, .slice none 0 0] 28 (0, 0))) := (hb2.block D HDL.out).trans HND.out
  have h12 : w1.heap.size ≤ w2.heap.size := hb2.size
  have hn2b : n2 ≤ 9000000000 := by omega
  have HW3 := Lib.hid hw3
  have HSB := Lib.hid hSB
  have hS2 : w2.heap.size ≤ SB := by omega
  have mixed : Tryz.prog.follows .mixedOrders = true := by kernel_rfl
  clear hO hk hn2 hb2 c1 hw3 hSB
  go_wp2_with fail
  rw [← HW3.out, ← HSB.out]
  go_loopg [6] n2 (fun gk vi wr => ∃ (i : Nat) (a0 a1 a2 a3 : Int), vi = .int .i64 (i : Int) ∧ i ≤ n2 ∧ n2 - i ≤ gk ∧ Hid (Below w2.heap.size w2 wr) ∧ Hid (wr.heap[SB]? = some (.cells #[.int .u64 a0, .int .u64 a1, .int .u64 a2, .int .u64 a3] 25 (0, 0))) ∧ Hid (IsSet a0 a1 a2 a3 (unF (F.take i))))
  case atStart => exact ⟨0, 0, 0, 0, 0, rfl, by omega, by omega, HB3.out, HNS.out, zero_isSet⟩
  case round =>
    obtain ⟨i, a0, a1, a2, a3, rfl, hi, hgk, HB, HS, HI⟩ := hrel
    have hsb := HS.out
    by_cases hlt : i < n2
    · have hltz : (i : Int) < (n2 : Int) := by omega
      obtain ⟨g, off, rfl⟩ := HK2.out.rowv.some_of hlt
      have hil : i < F.length := by rw [← HN2.out]; exact hlt
      obtain ⟨y, hy⟩ : ∃ y, us[i]? = some y := ⟨_, List.getElem?_eq_getElem (by rw [HK2.out.len]; exact hil)⟩
      obtain ⟨u, hu⟩ : ∃ u, F[i]? = some u := ⟨_, List.getElem?_eq_getElem hil⟩
      have hpl := HK2.out.place hy
      have hra := HK2.out.each i y u hy hu
      obtain ⟨ws, et, hyok, _⟩ := hra.kids
      have hukd : u.kind = y.kind := by rw [et]; rfl
      have huset : u.set = y.w4 := by rw [et]; rfl
      clear et
      have htk := unF_take F i u hu
      obtain ⟨k, a, b, c, d, q, m, cp⟩ := y
      simp only at hukd
      obtain ⟨p0, p1, p2, p3, p4, p5⟩ := (hpl.under HB.out).six
      simp only at p0 p1 p2 p3 p4 p5
      have HTK := Lib.hid htk
      have HUK := Lib.hid hukd
      have HUS := Lib.hid huset
      have HYO := Lib.hid hyok
      clear hpl hra hukd huset hyok htk hy hu hil
      by_cases hk : k = 2
      · subst hk
        have s0 : wr.cell? ⟨SB, 0, none⟩ = some (.int .u64 a0) := by simp [World.cell?, hsb]
        have s1 : wr.cell? ⟨SB, 1, none⟩ = some (.int .u64 a1) := by simp [World.cell?, hsb]
        have s2 : wr.cell? ⟨SB, 2, none⟩ = some (.int .u64 a2) := by simp [World.cell?, hsb]
        have s3 : wr.cell? ⟨SB, 3, none⟩ = some (.int .u64 a3) := by simp [World.cell?, hsb]
        have HC : Hid (∀ W, Calls Tryz.prog 36 #[.agg #[.int .u64 a0, .int .u64 a1, .int .u64 a2, .int .u64 a3], .agg #[.int .u64 a, .int .u64 b, .int .u64 c, .int .u64 d]] W (RetSet _ W)) := fun W => refjoin_any a0 a1 a2 a3 a b c d _ _ W HI.out (W4.isSet HYO.out)
        have HQ : Hid (∀ w4, Below wr.drew.heap.size wr.drew w4 → (w4.cell? ⟨SB, 0, none⟩ = some (.int .u64 a0) ∧ w4.cell? ⟨SB, 1, none⟩ = some (.int .u64 a1) ∧ w4.cell? ⟨SB, 2, none⟩ = some (.int .u64 a2) ∧ w4.cell? ⟨SB, 3, none⟩ = some (.int .u64 a3)) ∧ (w4.frozen? ⟨SB, 0, none⟩ = false ∧ w4.frozen? ⟨SB, 1, none⟩ = false ∧ w4.frozen? ⟨SB, 2, none⟩ = false ∧ w4.frozen? ⟨SB, 3, none⟩ = false) ∧ Hid (Below w2.heap.size w2 w4) ∧ Hid (w4.heap[SB]? = some (.cells #[.int .u64 a0, .int .u64 a1, .int .u64 a2, .int .u64 a3] 25 (0, 0)))) := by
          intro w4 hb
          have e4 : w4.heap[SB]? = some (.cells #[.int .u64 a0, .int .u64 a1, .int .u64 a2, .int .u64 a3] 25 (0, 0)) := (hb.block SB (Array.getElem?_eq_some_iff.1 HS.out).1).trans HS.out
          refine ⟨⟨?_, ?_, ?_, ?_⟩, ⟨frozen_no e4 _, frozen_no e4 _, frozen_no e4 _, frozen_no e4 _⟩, (below_drawn HB.out 1).trans (hb.mono HB.out.size), e4⟩
          · simp [World.cell?, e4]
          · simp [World.cell?, e4]
          · simp [World.cell?, e4]
          · simp [World.cell?, e4]
        clear hsb
        go_wp2_with fail
        go_region_law (first
          | (go_simp; go_at_call 36; (with_reducible (refine (HC.out _).mono ?_)); rintro _ w4 ⟨b0, b1, b2, b3, hr, rfl, hb4⟩; obtain ⟨⟨t0, t1, t2, t3⟩, ⟨f0, f1, f2, f3⟩, HB4, H4⟩ := HQ.out w4 hb4; have HRR := Lib.hid hr; clear hb4 hr)
          | fail)
        all_goals go_wp2
        all_goals
          go_roundg (n2 - (i + 1))
          case measure => omega
          case rel =>
            refine ⟨i + 1, b0, b1, b2, b3, by go_num, by omega, Nat.le_refl _, four_below HB4.out hS2 _ _ _ _, set4_heap H4.out _ _ _ _, ?_⟩
            exact HRR.out.congr fun b hb => by rw [HTK.out, HUK.out, HUS.out]; rfl
      · have hkz : (k == 2) = false := by simpa using hk
        have HKZ := Lib.hid hkz
        clear hk hsb
        go_wp2
        go_roundg (n2 - (i + 1))
        case measure => omega
        case rel =>
          refine ⟨i + 1, a0, a1, a2, a3, by go_num, by omega, Nat.le_refl _, HB, HS, ?_⟩
          exact HI.out.congr fun b hb => by rw [HTK.out, HUK.out, HKZ.out, Bool.false_and, Bool.or_false]
    · have hltz : ¬ (i : Int) < (n2 : Int) := by omega
      have eF : F.take i = F := List.take_of_length_le (by rw [← HN2.out]; omega)
      have hs := HI.out
      rw [eF] at hs
      have hU : (⟨a0, a1, a2, a3⟩ : W4) = unionM F := by rw [isSet_of hs]; rfl
      have hok : (⟨a0, a1, a2, a3⟩ : W4).Ok := by rw [hU]; exact of_ok _
      have s0 : wr.cell? ⟨SB, 0, none⟩ = some (.int .u64 a0) := by simp [World.cell?, hsb]
      have s1 : wr.cell? ⟨SB, 1, none⟩ = some (.int .u64 a1) := by simp [World.cell?, hsb]
      have s2 : wr.cell? ⟨SB, 2, none⟩ = some (.int .u64 a2) := by simp [World.cell?, hsb]
      have s3 : wr.cell? ⟨SB, 3, none⟩ = some (.int .u64 a3) := by simp [World.cell?, hsb]
      have c5 := fun W => refcount_any a0 a1 a2 a3 _ W (W4.isSet hok)
      have hpos := cnt_pos hok
      obtain ⟨CN, hCN⟩ : ∃ CN : Int, CN = (cnt (W4.mem ⟨a0, a1, a2, a3⟩) 256 : Int) := ⟨_, rfl⟩
      rw [← hCN] at c5 hpos
      have HU := Lib.hid hU
      have HOK := Lib.hid hok
      have HPOS := Lib.hid hpos
      have HSI := Lib.hid HS.out
      have c6 := c5 wr
      clear eF hs hU hok hpos hCN hsb HI c5
      go_wp2_with fail
      ((with_reducible refine c6.mono ?_))
      rintro _ w5 ⟨rfl, hb5⟩
      have hB25 : Below w2.heap.size w2 w5 := HB.out.trans (hb5.mono HB.out.size)
      have HB5 := Lib.hid hB25
      have h5S := (hb5.block SB (Array.getElem?_eq_some_iff.1 HSI.out).1).trans HSI.out
      have H5S := Lib.hid h5S
      clear hb5 hB25 c6 s0 s1 s2 s3 hlt hltz
      have cont : ∀ (W : World) (q0 : Option Addr) (N cp0 : Nat) (us0 : List ReV), True := fun _ _ _ _ _ => trivial
      by_cases hz : (⟨a0, a1, a2, a3⟩ : W4) = W4.zero
      · have hcz : ¬ CN > 0 := fun h => (HPOS.out.1 h) hz
        have HBY : Hid (byteM F = []) := by unfold Hid; unfold byteM; rw [← HU.out, if_pos hz]
        have HB7 : Hid (Below w2.heap.size w2 w5) := HB5
        have HK7 : Hid (KidsR w5 (fun g => (P g ∧ g < w.heap.size) ∨ w1.heap.size ≤ g) none 0 0 [] (putsM (byteM F ++ othersM (F.take 0)))) := by unfold Hid; rw [HBY.out]; exact kids_empty
        clear hz h5S cont
        go_wp2_with fail
        go_loopg [4, 7] n2 (fun gk v vi wr => ∃ (j : Nat) (q : Option Addr) (N cp : Nat) (us3 : List ReV), v = .slice q N cp ∧ vi = .int .i64 (j : Int) ∧ j ≤ n2 ∧ n2 - j ≤ gk ∧ N ≤ j + 1 ∧ Hid (Below w2.heap.size w2 wr) ∧ Hid (KidsR wr (fun g => (P g ∧ g < w.heap.size) ∨ w1.heap.size ≤ g) q N cp us3 (putsM (byteM F ++ othersM (F.take j)))) ∧ Hid (∀ t ∈ putsM (byteM F ++ othersM (F.take j)), t.sz ≤ 9000000000))
        case atStart =>
          refine ⟨0, none, 0, 0, [], rfl, rfl, by omega, by omega, by omega, HB7.out, HK7.out, ?_⟩
          intro t ht
          rcases List.mem_append.1 ((puts_asc _).2 t ht) with h | h
          · unfold byteM at h
            split at h
            · simp at h
            · simp at h; subst h; rw [sz_mk]; decide
          · simp [othersM] at h
        case round =>
          obtain ⟨j, q0, N, cp0, us3, rfl, rfl, hj, hgk, hNj, HBj, HKj, HZj⟩ := hrel
          by_cases hlt : j < n2
          · have hltz : (j : Int) < (n2 : Int) := by omega
            obtain ⟨g, off, rfl⟩ := HK2.out.rowv.some_of hlt
            have hil : j < F.length := by rw [← HN2.out]; exact hlt
            obtain ⟨y, hy⟩ : ∃ y, us[j]? = some y := ⟨_, List.getElem?_eq_getElem (by rw [HK2.out.len]; exact hil)⟩
            obtain ⟨u, hu⟩ : ∃ u, F[j]? = some u := ⟨_, List.getElem?_eq_getElem hil⟩
            have hpl := HK2.out.place hy
            have hra := (HK2.out.each j y u hy hu).under HBj.out
            have hukd : u.kind = y.kind := by obtain ⟨_, et, _⟩ := hra.kids; rw [et]; rfl
            have htk := others_take F j u hu
            have husz := HFS.out u (List.mem_of_getElem? hu)
            have c8 := refput_any wr HKj.out y u hra (by omega) HZj.out husz
            obtain ⟨k, a, b, c, d, q, m, cp⟩ := y
            simp only at hukd
            unfold ReV.val at c8
            simp only at c8
            obtain ⟨p0, p1, p2, p3, p4, p5⟩ := (hpl.under HBj.out).six
            simp only at p0 p1 p2 p3 p4 p5
            have HTK := Lib.hid htk
            have HUK := Lib.hid hukd
            have HUZ := Lib.hid husz
            clear hpl hra hukd htk hy hu hil husz
            by_cases hk0 : k = 0
            · have HT : Hid (othersM (F.take (j + 1)) = othersM (F.take j)) := by unfold Hid; rw [HTK.out, if_pos (.inl (by rw [HUK.out]; exact hk0)), List.append_nil]
              clear c8
              subst hk0
              go_wp2
              go_roundg (n2 - (j + 1))
              case measure => omega
              case rel => exact ⟨j + 1, q0, N, cp0, us3, rfl, by go_num, by omega, Nat.le_refl _, by omega, HBj.out, by rw [HT.out]; exact HKj.out, by rw [HT.out]; exact HZj.out⟩
            · have z0 : (k == 0) = false := by simpa using hk0
              by_cases hk2 : k = 2
              · have HT : Hid (othersM (F.take (j + 1)) = othersM (F.take j)) := by unfold Hid; rw [HTK.out, if_pos (.inr (by rw [HUK.out]; exact hk2)), List.append_nil]
                clear c8 z0 hk0
                subst hk2
                go_wp2
                go_roundg (n2 - (j + 1))
                case measure => omega
                case rel => exact ⟨j + 1, q0, N, cp0, us3, rfl, by go_num, by omega, Nat.le_refl _, by omega, HBj.out, by rw [HT.out]; exact HKj.out, by rw [HT.out]; exact HZj.out⟩
              · have z2 : (k == 2) = false := by simpa using hk2
                have HT : Hid (putsM (byteM F ++ othersM (F.take (j + 1))) = putL txt u false (putsM (byteM F ++ othersM (F.take j)))) := by
                  unfold Hid
                  rw [HTK.out, if_neg (by rw [HUK.out]; omega), ← List.append_assoc, puts_snoc]
                have y0 : (k != 0) = true := by simpa using hk0
                have y2 : (k != 2) = true := by simpa using hk2
                go_wp2_with fail
                ((with_reducible refine c8.mono ?_))
                rintro _ w9 ⟨v9, us9, rfl, hO9, hb9⟩
                obtain ⟨q9, cp9, rfl, hk9⟩ := hO9.slice hb9
                have hlen9 : (putL txt u false (putsM (byteM F ++ othersM (F.take j)))).length ≤ N + 1 := by
                  have h1 : ∀ (pb : Bool) (L : List RT), (putL txt u pb L).length ≤ L.length + (if pb then 0 else 1) := by
                    intro pb L
                    induction L generalizing pb with
                    | nil => cases pb <;> simp [putL]
                    | cons x L ih =>
                      rw [putL]
                      have i1 := ih true
                      have i2 := ih pb
                      simp only [if_true] at i1
                      split
                      · simp only [List.length_cons]; omega
                      · split
                        · rename_i hc
                          rw [hc.2]
                          simp only [List.length_cons, Bool.false_eq_true, if_false]
                          omega
                        · simp only [List.length_cons]; omega
                  have := h1 false (putsM (byteM F ++ othersM (F.take j)))
                  have := HKj.out.num
                  simp at *
                  omega
                have HZ9 : Hid (∀ t ∈ putL txt u false (putsM (byteM F ++ othersM (F.take j))), t.sz ≤ 9000000000) := by
                  intro t ht
                  rcases putL_sub u false _ t ht with rfl | h
                  · exact HUZ.out
                  · exact HZj.out t h
                have HB9 : Hid (Below w2.heap.size w2 w9) := HBj.out.trans (hb9.mono HBj.out.size)
                have hwj : w1.heap.size ≤ wr.heap.size := Nat.le_trans h12 HBj.out.size
                have HK9 : Hid (KidsR w9 (fun g => (P g ∧ g < w.heap.size) ∨ w1.heap.size ≤ g) q9 (putL txt u false (putsM (byteM F ++ othersM (F.take j)))).length cp9 us9 (putL txt u false (putsM (byteM F ++ othersM (F.take j))))) := hk9.weakP fun b hb => by
                  rcases hb with h | h
                  · exact h
                  · exact .inr (by omega)
                obtain ⟨N9, hN9⟩ : ∃ N9, N9 = (putL txt u false (putsM (byteM F ++ othersM (F.take j)))).length := ⟨_, rfl⟩
                rw [← hN9] at HK9 hlen9 ⊢
                clear hO9 hb9 hk9 c8 hN9
                go_wp2
                go_roundg (n2 - (j + 1))
                case measure => omega
                case rel => exact ⟨j + 1, q9, N9, cp9, us9, rfl, by go_num, by omega, Nat.le_refl _, by omega, HB9.out, by rw [HT.out]; exact HK9.out, by rw [HT.out]; exact HZ9.out⟩
          · have hltz : ¬ (j : Int) < (n2 : Int) := by omega
            have eF : F.take j = F := List.take_of_length_le (by rw [← HN2.out]; omega)
            have hkj := HKj.out
            rw [eF] at hkj
            have hall : Below w.heap.size w wr := HB1.out.trans ((HB2.out.trans (HBj.out.mono HB2.out.size)).mono HB1.out.size)
            have hrD := (HBj.out.block D (Nat.lt_of_lt_of_le HDL.out h12)).trans H2D.out
            have HRD := Lib.hid hrD
            have HALL := Lib.hid hall
            have HKJ := Lib.hid hkj
            clear eF hkj hall
            by_cases hN0 : N = 0
            · have hNz : ((N : Int) == 0) = true := by simp [hN0]
              have HL0 : Hid (putsM (byteM F ++ othersM F) = []) := List.length_eq_zero_iff.1 (by rw [← HKJ.out.num]; exact hN0)
              have d0 : wr.cell? ⟨D, 0, none⟩ = some (.int .i64 0) := by simp [World.cell?, hrD]
              have d1 : wr.cell? ⟨D, 1, none⟩ = some (.int .u64 0) := by simp [World.cell?, hrD]
              have d2 : wr.cell? ⟨D, 2, none⟩ = some (.int .u64 0) := by simp [World.cell?, hrD]
              have d3 : wr.cell? ⟨D, 3, none⟩ = some (.int .u64 0) := by simp [World.cell?, hrD]
              have d4 : wr.cell? ⟨D, 4, none⟩ = some (.int .u64 0) := by simp [World.cell?, hrD]
              have d5 : wr.cell? ⟨D, 5, none⟩ = some (.slice none 0 0) := by simp [World.cell?, hrD]
              have f0 := frozen_no hrD 0
              have f1 := frozen_no hrD 1
              have f2 := frozen_no hrD 2
              have f3 := frozen_no hrD 3
              have f4 := frozen_no hrD 4
              have f5 := frozen_no hrD 5
              clear hN0 hrD
              go_wp2
              refine bodyPost_ret_by (results_cell_row rfl _ _ D 28 #[.int .i64 0, .int .u64 0, .int .u64 0, .int .u64 0, .int .u64 0, .slice none 0 0] (0, 0) _ rfl (set6_heap HRD.out _ _ _ _ _ _) Tryz.underlying28 rfl (by kernel_rfl)) rfl ?_
              refine ⟨⟨0, 0, 0, 0, 0, none, 0, 0⟩, rfl, ?_, six_set HALL.out (by have := HDD.out; omega) _ _ _ _ _ _⟩
              rw [HR.out, HL0.out]
              exact kids_empty.tree 0 W4.zero zero_ok
            · have hNz : ((N : Int) == 0) = false := by simp; omega
              have c5 := refsome_any wr 4 0 HKJ.out (by omega)
              clear hN0 hrD
              go_wp2_with fail
              ((with_reducible refine c5.mono ?_))
              rintro _ w6 ⟨x, rfl, hx, hb6⟩
              obtain ⟨k, a, b, c, d, q6, m, cp6⟩ := x
              have h6D := (hb6.block D (Nat.lt_of_lt_of_le HDL.out (Nat.le_trans h12 HBj.out.size))).trans HRD.out
              have H6D := Lib.hid h6D
              have d0 : w6.cell? ⟨D, 0, none⟩ = some (.int .i64 0) := by simp [World.cell?, h6D]
              have d1 : w6.cell? ⟨D, 1, none⟩ = some (.int .u64 0) := by simp [World.cell?, h6D]
              have d2 : w6.cell? ⟨D, 2, none⟩ = some (.int .u64 0) := by simp [World.cell?, h6D]
              have d3 : w6.cell? ⟨D, 3, none⟩ = some (.int .u64 0) := by simp [World.cell?, h6D]
              have d4 : w6.cell? ⟨D, 4, none⟩ = some (.int .u64 0) := by simp [World.cell?, h6D]
              have d5 : w6.cell? ⟨D, 5, none⟩ = some (.slice none 0 0) := by simp [World.cell?, h6D]
              have f0 := frozen_no h6D 0
              have f1 := frozen_no h6D 1
              have f2 := frozen_no h6D 2
              have f3 := frozen_no h6D 3
              have f4 := frozen_no h6D 4
              have f5 := frozen_no h6D 5
              have HX := Lib.hid hx
              have HB6 := Lib.hid hb6
              clear hx hb6 h6D c5
              unfold ReV.val
              go_wp2
              refine bodyPost_ret_by (results_cell_row rfl _ _ D 28 #[.int .i64 k, .int .u64 a, .int .u64 b, .int .u64 c, .int .u64 d, .slice q6 m cp6] (0, 0) _ rfl (set6_heap H6D.out _ _ _ _ _ _) Tryz.underlying28 rfl (by kernel_rfl)) rfl ?_
              have hall : Below w.heap.size w w6 := HALL.out.trans (HB6.out.mono HALL.out.size)
              refine ⟨⟨k, a, b, c, d, q6, m, cp6⟩, rfl, ?_, six_set hall (by have := HDD.out; omega) _ _ _ _ _ _⟩
              rw [HR.out]
              refine HX.out.kept (Keeps.of (by simp [World.setCell]) fun b hp hl => ?_)
              have hbD : b ≠ D := by
                have h1 := HDD.out
                have h2 : w1.heap.size = D + 1 := by rw [HW1.out, h1]; simp
                rcases hp with ⟨_, hp⟩ | hp
                · omega
                · omega
              refine ⟨six_ne hbD _ _ _ _ _ _, ?_⟩
              rcases hp with ⟨hp, _⟩ | hp
              · exact .inl hp
              · exact .inr (Nat.le_trans HB1.out.size hp)
      · have hcz : CN > 0 := HPOS.out.2 hz
        have HBY : Hid (byteM F = [ofM ⟨a0, a1, a2, a3⟩]) := by unfold Hid; unfold byteM ofM; rw [← HU.out, if_neg hz, if_neg hz]
        have s0 : w5.cell? ⟨SB, 0, none⟩ = some (.int .u64 a0) := by simp [World.cell?, h5S]
        have s1 : w5.cell? ⟨SB, 1, none⟩ = some (.int .u64 a1) := by simp [World.cell?, h5S]
        have s2 : w5.cell? ⟨SB, 2, none⟩ = some (.int .u64 a2) := by simp [World.cell?, h5S]
        have s3 : w5.cell? ⟨SB, 3, none⟩ = some (.int .u64 a3) := by simp [World.cell?, h5S]
        have c7 := refofr_any (P := fun g => (P g ∧ g < w.heap.size) ∨ w1.heap.size ≤ g) w5 a0 a1 a2 a3 HOK.out
        clear hz h5S cont
        go_wp2_with fail
        ((with_reducible refine c7.mono ?_))
        rintro _ w6 ⟨x, rfl, hx, hb6⟩
        obtain ⟨k1, a1', b1, c1, d1, q1, m1, cp1⟩ := x
        have HX := Lib.hid hx
        have hB26 : Below w2.heap.size w2 w6 := HB5.out.trans (hb6.mono HB5.out.size)
        have HB6 := Lib.hid hB26
        have hw6 : w2.heap.size ≤ w6.heap.size := hB26.size
        have HOB : Hid ((w6.alloc (.cells #[.int .i64 k1, .int .u64 a1', .int .u64 b1, .int .u64 c1, .int .u64 d1, .slice q1 m1 cp1] 28)).ownsRow w2.heap.size 28 6 (.slice none 0 0) 0 []) := World.ownsRow_nil _ _ _ _
        clear hx hb6 hB26 c7 s0 s1 s2 s3
        unfold ReV.val
        go_wp2_with (at_builtin; go_loud (refine wpList_append_own_at _ rfl _ _ 26 rfl w2.heap.size 28 i0 _ 6 64 Tryz.underlying26 hi0 hz0 hz1 hz2 rfl (by decide) _ _ _ rfl HOB.out ⟨w6.heap.size, 0, none⟩ 1 1 [.int .i64 k1, .int .u64 a1', .int .u64 b1, .int .u64 c1, .int .u64 d1, .slice q1 m1 cp1] rfl rfl (new3 w6 #[.int .i64 k1, .int .u64 a1', .int .u64 b1, .int .u64 c1, .int .u64 d1, .slice q1 m1 cp1] 28 [.int .i64 k1, .int .u64 a1', .int .u64 b1, .int .u64 c1, .int .u64 d1, .slice q1 m1 cp1] rfl) ?c2 ?c3 ?c4 ?c5 ?_))
        case c2 => first | exact ⟨rfl, rfl, rfl, rfl, rfl, rfl⟩ | (intro x hx; simp at hx; rcases hx with rfl | rfl | rfl | rfl | rfl | rfl <;> rfl)
        case c3 => first | (unfold maxLen; omega) | decide
        case c4 => first | omega | decide
        case c5 => first | omega | (simp; omega)
        intro v' w7 hown hgrow _ hat
        obtain ⟨g4, cap4, rfl⟩ := (row_forms hown).resolve_left (fun h => by cases h.2)
        have hB67 : Below w6.heap.size w6 w7 := ((Below.refl _ _).alloc (Nat.le_refl _) _).grown hgrow (by simp) (fun r hr => by cases hr)
        have HB7 : Hid (Below w2.heap.size w2 w7) := HB6.out.trans (hB67.mono hw6)
        have HK7 : Hid (KidsR w7 (fun g => (P g ∧ g < w.heap.size) ∨ w1.heap.size ≤ g) (some ⟨g4, 0, none⟩) 1 cap4 [⟨k1, a1', b1, c1, d1, q1, m1, cp1⟩] (putsM (byteM F ++ othersM (F.take 0)))) := by
          unfold Hid
          rw [HBY.out]
          show KidsR w7 _ (some ⟨g4, 0, none⟩) 1 cap4 _ [ofM ⟨a0, a1, a2, a3⟩]
          have h1 : OwnRe w2 w7 (fun g => (P g ∧ g < w.heap.size) ∨ w1.heap.size ≤ g) (.slice (some ⟨g4, 0, none⟩) 1 cap4) [⟨k1, a1', b1, c1, d1, q1, m1, cp1⟩] [ofM ⟨a0, a1, a2, a3⟩] :=
            ⟨hown, rfl, fun i y t hy ht => by
              cases i with
              | zero => simp at hy ht; subst hy ht; exact HX.out.leaf (ofM_kids _)
              | succ i => simp at hy⟩
          obtain ⟨q', cp', e, h2⟩ := h1.slice HB7.out
          cases e
          exact h2.weakP fun b hb => by
            rcases hb with h | h
            · exact h
            · exact .inr (by omega)
        clear hown hgrow hat hB67
        go_wp2_with fail
        go_loopg [4, 7] n2 (fun gk v vi wr => ∃ (j : Nat) (q : Option Addr) (N cp : Nat) (us3 : List ReV), v = .slice q N cp ∧ vi = .int .i64 (j : Int) ∧ j ≤ n2 ∧ n2 - j ≤ gk ∧ N ≤ j + 1 ∧ Hid (Below w2.heap.size w2 wr) ∧ Hid (KidsR wr (fun g => (P g ∧ g < w.heap.size) ∨ w1.heap.size ≤ g) q N cp us3 (putsM (byteM F ++ othersM (F.take j)))) ∧ Hid (∀ t ∈ putsM (byteM F ++ othersM (F.take j)), t.sz ≤ 9000000000))
        case atStart =>
          refine ⟨0, some ⟨g4, 0, none⟩, 1, cap4, [⟨k1, a1', b1, c1, d1, q1, m1, cp1⟩], rfl, rfl, by omega, by omega, by omega, HB7.out, HK7.out, ?_⟩
          intro t ht
          rcases List.mem_append.1 ((puts_asc _).2 t ht) with h | h
          · unfold byteM at h
            split at h
            · simp at h
            · simp at h; subst h; rw [sz_mk]; decide
          · simp [othersM] at h
        case round =>
          obtain ⟨j, q0, N, cp0, us3, rfl, rfl, hj, hgk, hNj, HBj, HKj, HZj⟩ := hrel
          by_cases hlt : j < n2
          · have hltz : (j : Int) < (n2 : Int) := by omega
            obtain ⟨g, off, rfl⟩ := HK2.out.rowv.some_of hlt
            have hil : j < F.length := by rw [← HN2.out]; exact hlt
            obtain ⟨y, hy⟩ : ∃ y, us[j]? = some y := ⟨_, List.getElem?_eq_getElem (by rw [HK2.out.len]; exact hil)⟩
            obtain ⟨u, hu⟩ : ∃ u, F[j]? = some u := ⟨_, List.getElem?_eq_getElem hil⟩
            have hpl := HK2.out.place hy
            have hra := (HK2.out.each j y u hy hu).under HBj.out
            have hukd : u.kind = y.kind := by obtain ⟨_, et, _⟩ := hra.kids; rw [et]; rfl
            have htk := others_take F j u hu
            have husz := HFS.out u (List.mem_of_getElem? hu)
            have c8 := refput_any wr HKj.out y u hra (by omega) HZj.out husz
            obtain ⟨k, a, b, c, d, q, m, cp⟩ := y
            simp only at hukd
            unfold ReV.val at c8
            simp only at c8
            obtain ⟨p0, p1, p2, p3, p4, p5⟩ := (hpl.under HBj.out).six
            simp only at p0 p1 p2 p3 p4 p5
            have HTK := Lib.hid htk
            have HUK := Lib.hid hukd
            have HUZ := Lib.hid husz
            clear hpl hra hukd htk hy hu hil husz
            by_cases hk0 : k = 0
            · have HT : Hid (othersM (F.take (j + 1)) = othersM (F.take j)) := by unfold Hid; rw [HTK.out, if_pos (.inl (by rw [HUK.out]; exact hk0)), List.append_nil]
              clear c8
              subst hk0
              go_wp2
              go_roundg (n2 - (j + 1))
              case measure => omega
              case rel => exact ⟨j + 1, q0, N, cp0, us3, rfl, by go_num, by omega, Nat.le_refl _, by omega, HBj.out, by rw [HT.out]; exact HKj.out, by rw [HT.out]; exact HZj.out⟩
            · have z0 : (k == 0) = false := by simpa using hk0
              by_cases hk2 : k = 2
              · have HT : Hid (othersM (F.take (j + 1)) = othersM (F.take j)) := by unfold Hid; rw [HTK.out, if_pos (.inr (by rw [HUK.out]; exact hk2)), List.append_nil]
                clear c8 z0 hk0
                subst hk2
                go_wp2
                go_roundg (n2 - (j + 1))
                case measure => omega
                case rel => exact ⟨j + 1, q0, N, cp0, us3, rfl, by go_num, by omega, Nat.le_refl _, by omega, HBj.out, by rw [HT.out]; exact HKj.out, by rw [HT.out]; exact HZj.out⟩
              · have z2 : (k == 2) = false := by simpa using hk2
                have HT : Hid (putsM (byteM F ++ othersM (F.take (j + 1))) = putL txt u false (putsM (byteM F ++ othersM (F.take j)))) := by
                  unfold Hid
                  rw [HTK.out, if_neg (by rw [HUK.out]; omega), ← List.append_assoc, puts_snoc]
                have y0 : (k != 0) = true := by simpa using hk0
                have y2 : (k != 2) = true := by simpa using hk2
                go_wp2_with fail
                ((with_reducible refine c8.mono ?_))
                rintro _ w9 ⟨v9, us9, rfl, hO9, hb9⟩
                obtain ⟨q9, cp9, rfl, hk9⟩ := hO9.slice hb9
                have hlen9 : (putL txt u false (putsM (byteM F ++ othersM (F.take j)))).length ≤ N + 1 := by
                  have h1 : ∀ (pb : Bool) (L : List RT), (putL txt u pb L).length ≤ L.length + (if pb then 0 else 1) := by
                    intro pb L
                    induction L generalizing pb with
                    | nil => cases pb <;> simp [putL]
                    | cons x L ih =>
                      rw [putL]
                      have i1 := ih true
                      have i2 := ih pb
                      simp only [if_true] at i1
                      split
                      · simp only [List.length_cons]; omega
                      · split
                        · rename_i hc
                          rw [hc.2]
                          simp only [List.length_cons, Bool.false_eq_true, if_false]
                          omega
                        · simp only [List.length_cons]; omega
                  have := h1 false (putsM (byteM F ++ othersM (F.take j)))
                  have := HKj.out.num
                  simp at *
                  omega
                have HZ9 : Hid (∀ t ∈ putL txt u false (putsM (byteM F ++ othersM (F.take j))), t.sz ≤ 9000000000) := by
                  intro t ht
                  rcases putL_sub u false _ t ht with rfl | h
                  · exact HUZ.out
                  · exact HZj.out t h
                have HB9 : Hid (Below w2.heap.size w2 w9) := HBj.out.trans (hb9.mono HBj.out.size)
                have hwj : w1.heap.size ≤ wr.heap.size := Nat.le_trans h12 HBj.out.size
                have HK9 : Hid (KidsR w9 (fun g => (P g ∧ g < w.heap.size) ∨ w1.heap.size ≤ g) q9 (putL txt u false (putsM (byteM F ++ othersM (F.take j)))).length cp9 us9 (putL txt u false (putsM (byteM F ++ othersM (F.take j))))) := hk9.weakP fun b hb => by
                  rcases hb with h | h
                  · exact h
                  · exact .inr (by omega)
                obtain ⟨N9, hN9⟩ : ∃ N9, N9 = (putL txt u false (putsM (byteM F ++ othersM (F.take j)))).length := ⟨_, rfl⟩
                rw [← hN9] at HK9 hlen9 ⊢
                clear hO9 hb9 hk9 c8 hN9
                go_wp2
                go_roundg (n2 - (j + 1))
                case measure => omega
                case rel => exact ⟨j + 1, q9, N9, cp9, us9, rfl, by go_num, by omega, Nat.le_refl _, by omega, HB9.out, by rw [HT.out]; exact HK9.out, by rw [HT.out]; exact HZ9.out⟩
          · have hltz : ¬ (j : Int) < (n2 : Int) := by omega
            have eF : F.take j = F := List.take_of_length_le (by rw [← HN2.out]; omega)
            have hkj := HKj.out
            rw [eF] at hkj
            have hall : Below w.heap.size w wr := HB1.out.trans ((HB2.out.trans (HBj.out.mono HB2.out.size)).mono HB1.out.size)
            have hrD := (HBj.out.block D (Nat.lt_of_lt_of_le HDL.out h12)).trans H2D.out
            have HRD := Lib.hid hrD
            have HALL := Lib.hid hall
            have HKJ := Lib.hid hkj
            clear eF hkj hall
            by_cases hN0 : N = 0
            · have hNz : ((N : Int) == 0) = true := by simp [hN0]
              have HL0 : Hid (putsM (byteM F ++ othersM F) = []) := List.length_eq_zero_iff.1 (by rw [← HKJ.out.num]; exact hN0)
              have d0 : wr.cell? ⟨D, 0, none⟩ = some (.int .i64 0) := by simp [World.cell?, hrD]
              have d1 : wr.cell? ⟨D, 1, none⟩ = some (.int .u64 0) := by simp [World.cell?, hrD]
              have d2 : wr.cell? ⟨D, 2, none⟩ = some (.int .u64 0) := by simp [World.cell?, hrD]
              have d3 : wr.cell? ⟨D, 3, none⟩ = some (.int .u64 0) := by simp [World.cell?, hrD]
              have d4 : wr.cell? ⟨D, 4, none⟩ = some (.int .u64 0) := by simp [World.cell?, hrD]
              have d5 : wr.cell? ⟨D, 5, none⟩ = some (.slice none 0 0) := by simp [World.cell?, hrD]
              have f0 := frozen_no hrD 0
              have f1 := frozen_no hrD 1
              have f2 := frozen_no hrD 2
              have f3 := frozen_no hrD 3
              have f4 := frozen_no hrD 4
              have f5 := frozen_no hrD 5
              clear hN0 hrD
              go_wp2
              refine bodyPost_ret_by (results_cell_row rfl _ _ D 28 #[.int .i64 0, .int .u64 0, .int .u64 0, .int .u64 0, .int .u64 0, .slice none 0 0] (0, 0) _ rfl (set6_heap HRD.out _ _ _ _ _ _) Tryz.underlying28 rfl (by kernel_rfl)) rfl ?_
              refine ⟨⟨0, 0, 0, 0, 0, none, 0, 0⟩, rfl, ?_, six_set HALL.out (by have := HDD.out; omega) _ _ _ _ _ _⟩
              rw [HR.out, HL0.out]
              exact kids_empty.tree 0 W4.zero zero_ok
            · have hNz : ((N : Int) == 0) = false := by simp; omega
              have c5 := refsome_any wr 4 0 HKJ.out (by omega)
              clear hN0 hrD
              go_wp2_with fail
              ((with_reducible refine c5.mono ?_))
              rintro _ w6 ⟨x, rfl, hx, hb6⟩
              obtain ⟨k, a, b, c, d, q6, m, cp6⟩ := x
              have h6D := (hb6.block D (Nat.lt_of_lt_of_le HDL.out (Nat.le_trans h12 HBj.out.size))).trans HRD.out
              have H6D := Lib.hid h6D
              have d0 : w6.cell? ⟨D, 0, none⟩ = some (.int .i64 0) := by simp [World.cell?, h6D]
              have d1 : w6.cell? ⟨D, 1, none⟩ = some (.int .u64 0) := by simp [World.cell?, h6D]
              have d2 : w6.cell? ⟨D, 2, none⟩ = some (.int .u64 0) := by simp [World.cell?, h6D]
              have d3 : w6.cell? ⟨D, 3, none⟩ = some (.int .u64 0) := by simp [World.cell?, h6D]
              have d4 : w6.cell? ⟨D, 4, none⟩ = some (.int .u64 0) := by simp [World.cell?, h6D]
              have d5 : w6.cell? ⟨D, 5, none⟩ = some (.slice none 0 0) := by simp [World.cell?, h6D]
              have f0 := frozen_no h6D 0
              have f1 := frozen_no h6D 1
              have f2 := frozen_no h6D 2
              have f3 := frozen_no h6D 3
              have f4 := frozen_no h6D 4
              have f5 := frozen_no h6D 5
              have HX := Lib.hid hx
              have HB6 := Lib.hid hb6
              clear hx hb6 h6D c5
              unfold ReV.val
              go_wp2
              refine bodyPost_ret_by (results_cell_row rfl _ _ D 28 #[.int .i64 k, .int .u64 a, .int .u64 b, .int .u64 c, .int .u64 d, .slice q6 m cp6] (0, 0) _ rfl (set6_heap H6D.out _ _ _ _ _ _) Tryz.underlying28 rfl (by kernel_rfl)) rfl ?_
              have hall : Below w.heap.size w w6 := HALL.out.trans (HB6.out.mono HALL.out.size)
              refine ⟨⟨k, a, b, c, d, q6, m, cp6⟩, rfl, ?_, six_set hall (by have := HDD.out; omega) _ _ _ _ _ _⟩
              rw [HR.out]
              refine HX.out.kept (Keeps.of (by simp [World.setCell]) fun b hp hl => ?_)
              have hbD : b ≠ D := by
                have h1 := HDD.out
                have h2 : w1.heap.size = D + 1 := by rw [HW1.out, h1]; simp
                rcases hp with ⟨_, hp⟩ | hp
                · omega
                · omega
              refine ⟨six_ne hbD _ _ _ _ _ _, ?_⟩
              rcases hp with ⟨hp, _⟩ | hp
              · exact .inl hp
              · exact .inr (Nat.le_trans HB1.out.size hp)

end Go.Proofs.YtclnadjgbpihcaaGreatDoor
