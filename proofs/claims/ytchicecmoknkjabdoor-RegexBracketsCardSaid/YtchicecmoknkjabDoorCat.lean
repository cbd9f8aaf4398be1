/- The program's Cat and Either. No condition but the library's tables, depth and size. -/
import Derived.Test.YtchicecmoknkjabDoorSorted
namespace Go.Proofs.YtchicecmoknkjabDoor
open Go.RowKit Go.Lib
set_option linter.unusedVariables false
set_option linter.unusedSimpArgs false

/-- A row of the call's own, as a slice of expressions. -/
theorem OwnRe.slice {w W : World} {P : Nat → Prop} {v : Value} {us : List ReV} {l : List RT} (h : OwnRe w W P v us l) (hb : Below w.heap.size w W) : ∃ q cp, v = .slice q l.length cp ∧ KidsR W (fun g => P g ∨ w.heap.size ≤ g) q l.length cp us l := by
  have he : ∀ (i : Nat) (y : ReV) (t : RT), us[i]? = some y → l[i]? = some t → RAt W (fun g => P g ∨ w.heap.size ≤ g) y t := fun i y t hy ht => ((h.each i y t hy ht).under hb).weak fun g hg _ => .inl hg
  rcases row_forms h.own with ⟨rfl, h0⟩ | ⟨g, cp, rfl⟩
  · exact ⟨none, 0, by rw [h0], .inl ⟨h0, fun _ => rfl⟩, rfl, h.len, he⟩
  · refine ⟨_, cp, rfl, ?_, rfl, h.len, he⟩
    obtain ⟨r1, r2, r3, r4⟩ := row_base h.own
    rcases h.own.2 with ⟨h2, _⟩ | ⟨g', cap', cur, hv, hb, hh, hc, hm, hsz, ht⟩
    · cases h2
    · obtain rfl : g = g' := by simp at hv; omega
      exact .inr ⟨g, 0, rfl, r2, r3, .inr r1, ⟨cur, _, by decide, hh⟩, fun j u hj => by rw [Nat.zero_add]; exact row_cell h.own hj⟩
theorem RAt.leaf {W W' : World} {P P' : Nat → Prop} {x : ReV} {t : RT} (h : RAt W P x t) (hk : t.kids = []) : RAt W' P' x t := by
  obtain ⟨vs, et, ho, hr⟩ := h.kids
  rw [hk] at et hr
  rw [et]
  have hn : x.n = 0 := hr.num
  have hv : vs = [] := List.length_eq_zero_iff.1 hr.len
  have hrow : RowR W' P' x.p x.n x.cap [] := by
    rcases hr.row with h | ⟨g, off, e, _⟩
    · exact .inl h
    · exact .inl ⟨hn, fun e2 => by rw [e] at e2; cases e2⟩
  obtain ⟨k, a, b, c, d, p, n, cap⟩ := x
  exact .mk [] ho hrow hn rfl fun i y t hy => by simp at hy
theorem OwnRe.sub {w W : World} {P : Nat → Prop} {v : Value} {us : List ReV} {l : List RT} (h : OwnRe w W P v us l) {W' : World} (hb : W'.heap.size = W'.heap.size) (ho : W'.ownsRow w.heap.size 30 6 v l.length (us.flatMap ReV.cells)) : OwnRe w W' P v us l := ⟨ho, h.len, h.each⟩
theorem flat_all {Q : RT → Prop} {k : Int} {l : List RT} (h : ∀ t ∈ l, Q t) (hk : ∀ t ∈ l, ∀ x ∈ t.kids, Q x) : ∀ t ∈ flatM k l, Q t := by
  intro t ht
  rcases flat_mem ht with ⟨h1, _⟩ | ⟨y, hy, _, hx⟩
  · exact h t h1
  · exact hk y hy t hx
theorem dep_kid {y x : RT} (h : x ∈ y.kids) : x.dep < y.dep := by
  obtain ⟨k, s, kids⟩ := y
  have h1 : (RT.mk k s kids).dep = ((RT.mk k s kids).dep - 1) + 1 := by have := dep_pos (RT.mk k s kids); omega
  have := dep_mk.1 (Nat.le_of_eq h1) x h
  have := dep_pos (RT.mk k s kids)
  omega
theorem flat_len (k : Int) (l : List RT) : (flatM k l).length ≤ (l.map RT.sz).sum := by
  induction l with
  | nil => simp [flatM]
  | cons a l ih =>
    have h1 := kids_len a
    have h2 := sz_pos a
    have e : flatM k (a :: l) = (if a.kind = k then a.kids else [a]) ++ flatM k l := by simp [flatM]
    rw [e, List.length_append, List.map_cons, List.sum_cons]
    split
    · omega
    · simp only [List.length_cons, List.length_nil]; omega
theorem six_ne {W : World} {D g : Nat} (h : g ≠ D) (a b c d e f : Value) :
    ((((((W.setCell ⟨D, 0, none⟩ a).setCell ⟨D, 1, none⟩ b).setCell ⟨D, 2, none⟩ c).setCell ⟨D, 3, none⟩ d).setCell ⟨D, 4, none⟩ e).setCell ⟨D, 5, none⟩ f).heap[g]? = W.heap[g]? := by
  rw [heap_set_ne _ _ _ (by exact h), heap_set_ne _ _ _ (by exact h), heap_set_ne _ _ _ (by exact h), heap_set_ne _ _ _ (by exact h), heap_set_ne _ _ _ (by exact h), heap_set_ne _ _ _ (by exact h)]
theorem noKind_len (k : Int) (l : List RT) : (noKind k l).length ≤ l.length := List.length_filter_le _ _

set_option maxRecDepth 100000 in
set_option maxHeartbeats 8000000 in
theorem cat_any {P : Nat → Prop} (w : World) {p : Option Addr} {n cap : Nat} {vs : List ReV} {l : List RT} (h : KidsR w P p n cap vs l) (hsz : (l.map RT.sz).sum ≤ 1000000000) :
    Calls Tryd.prog 8 #[.slice p n cap] w (GivesRe (fun g => P g ∨ w.heap.size ≤ g) (catM l) w) := by
  obtain ⟨D, hD⟩ : ∃ D, D = w.heap.size := ⟨_, rfl⟩
  obtain ⟨w1, hw1⟩ : ∃ w1 : World, w1 = w.alloc (.cells #[.int .i64 0, .int .u64 0, .int .u64 0, .int .u64 0, .int .u64 0, .slice none 0 0] 30) := ⟨_, rfl⟩
  have hb1 : Below w.heap.size w w1 := by rw [hw1]; exact (Below.refl _ _).alloc (Nat.le_refl _) _
  have hnD : w1.heap[D]? = some (.cells #[.int .i64 0, .int .u64 0, .int .u64 0, .int .u64 0, .int .u64 0, .slice none 0 0] 30 (0, 0)) := by rw [hw1, hD]; exact heap_alloc_new _ _
  have h0 : KidsR w (fun g => P g ∧ g < w.heap.size) p n cap vs l := h.kept (Keeps.of (Nat.le_refl _) fun b hp hl => ⟨rfl, hp, hl⟩)
  have c1 := opened_any w1 3 (h0.under hb1) hsz
  have hfl := flat_len 3 l
  obtain ⟨F, hF⟩ : ∃ F, F = flatM 3 l := ⟨_, rfl⟩
  obtain ⟨R, hR⟩ : ∃ R, R = catM l := ⟨_, rfl⟩
  rw [← hR]
  rw [← hF] at c1 hfl
  have HF := Lib.hid hF
  have HR := Lib.hid hR
  have HB1 := Lib.hid hb1
  have HND := Lib.hid hnD
  have HW1 := Lib.hid hw1
  have HDD := Lib.hid hD
  have hDl : D < w1.heap.size := (Array.getElem?_eq_some_iff.1 hnD).1
  have HDL := Lib.hid hDl
  clear h h0 hF hR hb1 hnD hw1 hD hDl
  go_enter Tryd.func8, Tryd.ntmps8
  go_wp2_with fail
  rw [← HW1.out, ← HDD.out]
  ((with_reducible refine c1.mono ?_))
  rintro _ w2 ⟨v, us, rfl, hO, hb2⟩
  obtain ⟨q, cp, rfl, hk⟩ := hO.slice hb2
  have hb3 : Below w2.heap.size w2 (w2.alloc (.cells #[.int .i64 0] 3)) := (Below.refl _ _).alloc (Nat.le_refl _) _
  have c2 := hasany_any (w2.alloc (.cells #[.int .i64 0] 3)) w2.heap.size 1 [0] ⟨heap_alloc_new _ _⟩ rfl (by decide) (hk.rowv.under hb3) (by omega)
  have e2 := kids_any hk (fun k => [0].contains k)
  rw [e2] at c2
  obtain ⟨E, hE⟩ : ∃ E, E = F.any fun t => [0].contains t.kind := ⟨_, rfl⟩
  rw [← hE] at c2
  have HE := Lib.hid hE
  have HO := Lib.hid hO
  have HB2 := Lib.hid hb2
  have HB3 := Lib.hid hb3
  clear hO hk e2 hE hb2 hb3 c1
  go_wp2_with fail
  ((with_reducible refine c2.mono ?_))
  rintro _ w4 ⟨rfl, hb4⟩
  have hb24 : Below w2.heap.size w2 w4 := HB3.out.trans (hb4.mono HB3.out.size)
  have hO4 : OwnRe w1 w4 (fun g => P g ∧ g < w.heap.size) (.slice q F.length cp) us F := by
    refine ⟨?_, HO.out.len, HO.out.each⟩
    rcases row_forms HO.out.own with ⟨e, h0⟩ | ⟨g, cp', e⟩
    · have h1 := HO.out.own
      rw [e] at h1 ⊢
      exact ⟨h1.1, .inl ⟨rfl, h0⟩⟩
    · have h1 := HO.out.own
      rw [e] at h1 ⊢
      exact own_at h1 (hb24.block g (row_base h1).2.2.2)
  have hb14 : Below w1.heap.size w1 w4 := HB2.out.trans (hb24.mono HB2.out.size)
  have HB14 := Lib.hid hb14
  have HO4 := Lib.hid hO4
  clear c2 hb4 hb24 hO4
  cases E with
  | true =>
    have h4D : w4.heap[D]? = some (.cells #[.int .i64 0, .int .u64 0, .int .u64 0, .int .u64 0, .int .u64 0, .slice none 0 0] 30 (0, 0)) := (hb14.block D HDL.out).trans HND.out
    have H4D := Lib.hid h4D
    have d0 : w4.cell? ⟨D, 0, none⟩ = some (.int .i64 0) := by simp [World.cell?, h4D]
    have d1 : w4.cell? ⟨D, 1, none⟩ = some (.int .u64 0) := by simp [World.cell?, h4D]
    have d2 : w4.cell? ⟨D, 2, none⟩ = some (.int .u64 0) := by simp [World.cell?, h4D]
    have d3 : w4.cell? ⟨D, 3, none⟩ = some (.int .u64 0) := by simp [World.cell?, h4D]
    have d4 : w4.cell? ⟨D, 4, none⟩ = some (.int .u64 0) := by simp [World.cell?, h4D]
    have d5 : w4.cell? ⟨D, 5, none⟩ = some (.slice none 0 0) := by simp [World.cell?, h4D]
    have f0 := frozen_no h4D 0
    have f1 := frozen_no h4D 1
    have f2 := frozen_no h4D 2
    have f3 := frozen_no h4D 3
    have f4 := frozen_no h4D 4
    have f5 := frozen_no h4D 5
    clear h4D hb14
    go_wp2
    refine bodyPost_ret_by (results_cell_row rfl _ _ D 30 #[.int .i64 0, .int .u64 0, .int .u64 0, .int .u64 0, .int .u64 0, .slice none 0 0] (0, 0) _ rfl (set6_heap H4D.out _ _ _ _ _ _) Tryd.underlying30 rfl (by kernel_rfl)) rfl ?_
    refine ⟨⟨0, 0, 0, 0, 0, none, 0, 0⟩, rfl, ?_, six_set (HB1.out.trans (HB14.out.mono HB1.out.size)) (by have := HDD.out; omega) _ _ _ _ _ _⟩
    have e : R = noneM := by
      rw [HR.out]
      unfold catM
      rw [if_pos]
      rw [← HF.out]
      have := HE.out.symm
      simpa [List.contains_cons, List.contains_nil] using this
    rw [e]
    exact kids_empty.tree 0 W4.zero zero_ok
  | false =>
    have c5 := without_any w4 1 HO4.out hb14.size (by omega)
    clear hb14
    go_wp2_with fail
    ((with_reducible refine c5.mono ?_))
    rintro _ w5 ⟨v5, us5, rfl, hO5, hg5, _⟩
    have hb5 : Below w1.heap.size w1 w5 := by
      rcases row_forms HO4.out.own with ⟨e, h0⟩ | ⟨g, cp', e⟩
      · rw [e] at hg5
        exact HB14.out.grown hg5 HB14.out.size (fun r hr => by cases hr)
      · have h1 := HO4.out.own
        rw [e] at hg5 h1
        exact HB14.out.grown hg5 HB14.out.size (fun r hr => by cases hr; exact (row_base h1).1)
    obtain ⟨q5, cp5, rfl, hk5⟩ := hO5.slice hb5
    have c6 := joined_any w5 3 1 hk5
    have h5D : w5.heap[D]? = some (.cells #[.int .i64 0, .int .u64 0, .int .u64 0, .int .u64 0, .int .u64 0, .slice none 0 0] 30 (0, 0)) := (hb5.block D HDL.out).trans HND.out
    have H5D := Lib.hid h5D
    have HB5 := Lib.hid hb5
    clear hO5 hg5 hb5 hk5 c5 h5D
    go_wp2_with fail
    ((with_reducible refine c6.mono ?_))
    rintro _ w6 ⟨x, rfl, hx, hb6⟩
    obtain ⟨k, a, b, c, d, q6, m, cp6⟩ := x
    have h6D : w6.heap[D]? = some (.cells #[.int .i64 0, .int .u64 0, .int .u64 0, .int .u64 0, .int .u64 0, .slice none 0 0] 30 (0, 0)) := (hb6.block D (Nat.lt_of_lt_of_le HDL.out HB5.out.size)).trans H5D.out
    have H6D := Lib.hid h6D
    have d0 : w6.cell? ⟨D, 0, none⟩ = some (.int .i64 0) := by simp [World.cell?, h6D]
    have d1 : w6.cell? ⟨D, 1, none⟩ = some (.int .u64 0) := by simp [World.cell?, h6D]
    have d2 : w6.cell? ⟨D, 2, none⟩ = some (.int .u64 0) := by simp [World.cell?, h6D]
    have d3 : w6.cell? ⟨D, 3, none⟩ = some (.int .u64 0) := by simp [World.cell?, h6D]
    have d4 : w6.cell? ⟨D, 4, none⟩ = some (.int .u64 0) := by simp [World.cell?, h6D]
    have d5 : w6.cell? ⟨D, 5, none⟩ = some (.slice none 0 0) := by simp [World.cell?, h6D]
    have f0 := frozen_no h6D 0
    have f1 := frozen_no h6D 1
    have f2 := frozen_no h6D 2
    have f3 := frozen_no h6D 3
    have f4 := frozen_no h6D 4
    have f5 := frozen_no h6D 5
    have HX := Lib.hid hx
    have HB6 := Lib.hid hb6
    clear hx hb6 h6D c6
    unfold ReV.val
    go_wp2
    refine bodyPost_ret_by (results_cell_row rfl _ _ D 30 #[.int .i64 k, .int .u64 a, .int .u64 b, .int .u64 c, .int .u64 d, .slice q6 m cp6] (0, 0) _ rfl (set6_heap H6D.out _ _ _ _ _ _) Tryd.underlying30 rfl (by kernel_rfl)) rfl ?_
    have hall : Below w.heap.size w w6 := HB1.out.trans ((HB5.out.trans (HB6.out.mono HB5.out.size)).mono HB1.out.size)
    refine ⟨⟨k, a, b, c, d, q6, m, cp6⟩, rfl, ?_, six_set hall (by have := HDD.out; omega) _ _ _ _ _ _⟩
    have e : R = someM 3 1 (noKind 1 F) := by
      rw [HR.out]
      unfold catM noKind
      rw [if_neg, HF.out]
      rw [← HF.out]
      intro h
      have h2 := HE.out
      simp [List.contains_cons, List.contains_nil] at h2 h
      obtain ⟨t, ht, hk⟩ := h
      exact h2 t ht hk
    rw [e]
    refine HX.out.kept (Keeps.of (by simp [World.setCell]) fun b hp hl => ?_)
    have hbD : b ≠ D := by
      have h1 := HDD.out
      have h2 : w1.heap.size = D + 1 := by rw [HW1.out, h1]; simp
      rcases hp with ⟨_, hp⟩ | hp
      · omega
      · omega
    refine ⟨six_ne hbD _ _ _ _ _ _, ?_⟩
    rcases hp with ⟨hp, _⟩ | hp
    · exact .inl hp
    · exact .inr (Nat.le_trans HB1.out.size hp)

theorem either_list (F : List RT) : noKind 0 (ofM (unionM F) :: noKind 2 F) = byteM F ++ othersM F := by
  have e : (noKind 2 F).filter (fun t => !(t.kind == 0)) = othersM F := by
    unfold noKind othersM
    rw [List.filter_filter]
  unfold noKind at e ⊢
  rw [List.filter_cons, e]
  unfold ofM byteM
  by_cases h : unionM F = W4.zero
  · rw [if_pos h, if_pos h]
    simp [noneM, RT.kind]
  · rw [if_neg h, if_neg h]
    simp [RT.kind]
theorem ofM_kids (s : W4) : (ofM s).kids = [] := by
  unfold ofM
  split <;> rfl
theorem ofM_dep (s : W4) : (ofM s).dep = 1 := by
  unfold ofM noneM
  split <;> (rw [RT.dep]; rfl)
theorem ofM_sz (s : W4) : (ofM s).sz = 1 := by
  unfold ofM noneM
  split <;> (rw [sz_mk]; rfl)
theorem OwnRe.moved {w W W' : World} {P : Nat → Prop} {v : Value} {us : List ReV} {l : List RT} (h : OwnRe w W P v us l) (hb : Below W.heap.size W W') : OwnRe w W' P v us l := by
  refine ⟨?_, h.len, h.each⟩
  rcases row_forms h.own with ⟨rfl, h0⟩ | ⟨g, cp, rfl⟩
  · exact ⟨h.own.1, .inl ⟨rfl, h0⟩⟩
  · exact own_at h.own (hb.block g (row_base h.own).2.2.2)
theorem OwnRe.belowDel {w W W' : World} {P : Nat → Prop} {v : Value} {us : List ReV} {l : List RT} (h : OwnRe w W P v us l) (hb : Below w.heap.size w W) (hg : W.grownBy W' v.ownBlock) : Below w.heap.size w W' :=
  hb.grown hg hb.size (own_above h.own)
theorem flat6_one (us : List ReV) : ∀ x ∈ us.flatMap ReV.cells, x.oneCell' = true := by
  intro x hx
  obtain ⟨y, _, hy⟩ := List.mem_flatMap.1 hx
  unfold ReV.cells at hy
  simp at hy
  rcases hy with rfl | rfl | rfl | rfl | rfl | rfl <;> rfl

set_option maxRecDepth 100000 in
set_option maxHeartbeats 8000000 in
theorem either_any {P : Nat → Prop} (w : World) {p : Option Addr} {n cap : Nat} {vs : List ReV} {l : List RT} (h : KidsR w P p n cap vs l) (hT : Tab1 w) (hdep : ∀ t ∈ l, t.dep < 10000) (hsz : (l.map RT.sz).sum ≤ 1000000000) :
    Calls Tryd.prog 9 #[.slice p n cap] w (GivesRe (fun g => P g ∨ w.heap.size ≤ g) (eitherM l) w) := by
  obtain ⟨i0, hi0, hz0, hz1, hz2⟩ := re_parts
  obtain ⟨D, hD⟩ : ∃ D, D = w.heap.size := ⟨_, rfl⟩
  obtain ⟨w1, hw1⟩ : ∃ w1 : World, w1 = w.alloc (.cells #[.int .i64 0, .int .u64 0, .int .u64 0, .int .u64 0, .int .u64 0, .slice none 0 0] 30) := ⟨_, rfl⟩
  have hb1 : Below w.heap.size w w1 := by rw [hw1]; exact (Below.refl _ _).alloc (Nat.le_refl _) _
  have hnD : w1.heap[D]? = some (.cells #[.int .i64 0, .int .u64 0, .int .u64 0, .int .u64 0, .int .u64 0, .slice none 0 0] 30 (0, 0)) := by rw [hw1, hD]; exact heap_alloc_new _ _
  have h0 : KidsR w (fun g => P g ∧ g < w.heap.size) p n cap vs l := h.kept (Keeps.of (Nat.le_refl _) fun b hp hl => ⟨rfl, hp, hl⟩)
  have c1 := opened_any w1 4 (h0.under hb1) hsz
  have hfl := flat_len 4 l
  have hfd : ∀ t ∈ flatM 4 l, t.dep < 10000 := flat_all hdep fun y hy x hx => by have := dep_kid hx; have := hdep y hy; omega
  have hfs : ∀ t ∈ flatM 4 l, t.sz ≤ 1000000000 := flat_all (fun t ht => by have := sum_mem ht; omega) fun y hy x hx => by have := kids_sz hx; have := sum_mem hy; omega
  obtain ⟨F, hF⟩ : ∃ F, F = flatM 4 l := ⟨_, rfl⟩
  obtain ⟨R, hR⟩ : ∃ R, R = eitherM l := ⟨_, rfl⟩
  rw [← hR]
  rw [← hF] at c1 hfl hfd hfs
  have HF := Lib.hid hF
  have HR := Lib.hid hR
  have HB1 := Lib.hid hb1
  have HND := Lib.hid hnD
  have HW1 := Lib.hid hw1
  have HDD := Lib.hid hD
  have HT1 := Lib.hid (hT.stays hb1)
  have HFD := Lib.hid hfd
  have HFS := Lib.hid hfs
  have hDl : D < w1.heap.size := (Array.getElem?_eq_some_iff.1 hnD).1
  have HDL := Lib.hid hDl
  clear h h0 hF hR hb1 hnD hw1 hD hDl hT hdep hfd hfs
  go_enter Tryd.func9, Tryd.ntmps9
  go_wp2_with fail
  rw [← HW1.out, ← HDD.out]
  ((with_reducible refine c1.mono ?_))
  rintro _ w2 ⟨v, us, rfl, hO, hb2⟩
  obtain ⟨q, cp, rfl, hk⟩ := hO.slice hb2
  have c2 := union_any w2 hk (by omega)
  obtain ⟨⟨sa, sb, sc, sd⟩, hS⟩ : ∃ s, s = unionM F := ⟨_, rfl⟩
  rw [← hS] at c2
  have hok : (⟨sa, sb, sc, sd⟩ : W4).Ok := by rw [hS]; exact of_ok _
  have HO := Lib.hid hO
  have HB2 := Lib.hid hb2
  have HS := Lib.hid hS
  have HOK := Lib.hid hok
  clear hO hb2 hk hS hok c1
  go_wp2_with fail
  ((with_reducible refine c2.mono ?_))
  rintro _ w3 ⟨rfl, hb3⟩
  have c3 := of_any (P := fun _ => True) w3 sa sb sc sd HOK.out
  have HB3 := Lib.hid hb3
  clear hb3 c2
  go_wp2_with fail
  ((with_reducible refine c3.mono ?_))
  rintro _ w4 ⟨x, rfl, hx, hb4⟩
  obtain ⟨k1, a1, b1, c1, d1, q1, m1, cp1⟩ := x
  have HB4 := Lib.hid hb4
  have HX := Lib.hid hx
  clear hb4 hx c3
  obtain ⟨g9, hg9⟩ : ∃ g9, g9 = w4.heap.size := ⟨_, rfl⟩
  obtain ⟨w5, hw5⟩ : ∃ w5 : World, w5 = w4.alloc (.cells #[.int .i64 k1, .int .u64 a1, .int .u64 b1, .int .u64 c1, .int .u64 d1, .slice q1 m1 cp1] 30) := ⟨_, rfl⟩
  have hb5 : Below w4.heap.size w4 w5 := by rw [hw5]; exact (Below.refl _ _).alloc (Nat.le_refl _) _
  have hb25 : Below w2.heap.size w2 w5 := (HB3.out.trans (HB4.out.mono HB3.out.size)).trans (hb5.mono (Nat.le_trans HB3.out.size HB4.out.size))
  have hO5 := HO.out.moved hb25
  have hb15 : Below w1.heap.size w1 w5 := HB2.out.trans (hb25.mono HB2.out.size)
  have hL5 : w5.ownsRow w1.heap.size 30 6 (.slice (some ⟨g9, 0, none⟩) 1 1) 1 [.int .i64 k1, .int .u64 a1, .int .u64 b1, .int .u64 c1, .int .u64 d1, .slice q1 m1 cp1] := by
    rw [hg9, hw5]
    exact row_new (c := #[.int .i64 k1, .int .u64 a1, .int .u64 b1, .int .u64 c1, .int .u64 d1, .slice q1 m1 cp1]) (Nat.le_trans HB2.out.size (Nat.le_trans HB3.out.size HB4.out.size)) (by decide) rfl
  have hne9 : ∀ g cp', (.slice q F.length cp : Value) = .slice (some ⟨g, 0, none⟩) F.length cp' → g < g9 := by
    intro g cp' e
    have h1 := HO.out.own
    rw [e] at h1
    have := (row_base h1).2.2.2
    have := HB3.out.size
    have := HB4.out.size
    omega
  have c6 := without_any w5 2 hO5 hb15.size (by omega)
  have HB15 := Lib.hid hb15
  have HO5 := Lib.hid hO5
  have HL5 := Lib.hid hL5
  have HNE9 := Lib.hid hne9
  have HG9 := Lib.hid hg9
  have HW5 := Lib.hid hw5
  unfold ReV.val
  clear hb5 hb25 hO5 hb15 hL5 hne9 hg9 hw5
  go_wp2_with fail
  rw [← HW5.out, ← HG9.out]
  ((with_reducible refine c6.mono ?_))
  rintro _ w6 ⟨v6, us6, rfl, hO6, hg6, _⟩
  have hb6 := HO5.out.belowDel HB15.out hg6
  have hL6 : w6.ownsRow w1.heap.size 30 6 (.slice (some ⟨g9, 0, none⟩) 1 1) 1 [.int .i64 k1, .int .u64 a1, .int .u64 b1, .int .u64 c1, .int .u64 d1, .slice q1 m1 cp1] := by
    refine own_at HL5.out (hg6.block g9 (row_base HL5.out).2.2.2 fun e => ?_)
    rcases row_forms HO.out.own with ⟨e2, _⟩ | ⟨g, cp', e2⟩
    · rw [e2] at e; cases e
    · have := HNE9.out g cp' e2
      rw [e2] at e
      have : g9 = g := by simpa [Value.ownBlock] using e
      omega
  obtain ⟨q6, cp6, rfl, hk6⟩ := hO6.slice hb6
  have hlen6 : (noKind 2 F).length ≤ 1000000000 := Nat.le_trans (noKind_len 2 F) (by omega)
  obtain ⟨n6, hn6⟩ : ∃ n6, n6 = (noKind 2 F).length := ⟨_, rfl⟩
  rw [← hn6] at hlen6 ⊢
  have hk6r := hk6.row
  have hul6 : us6.length = n6 := by rw [hO6.len, hn6]
  rw [← hn6] at hk6r
  have HO6 := Lib.hid hO6
  have HB6 := Lib.hid hb6
  have HL6 := Lib.hid hL6
  have HK6 := Lib.hid hk6r
  have HUL6 := Lib.hid hul6
  have HN6 := Lib.hid hn6
  have h1w : w1.heap.size ≤ w6.heap.size := hb6.size
  clear hO6 hb6 hL6 hk6 hk6r hul6 hn6 hg6 c6
  have fin : ∀ (v7 : Value) (w7 : World), w7.ownsRow w1.heap.size 30 6 v7 (1 + n6) ([.int .i64 k1, .int .u64 a1, .int .u64 b1, .int .u64 c1, .int .u64 d1, .slice q1 m1 cp1] ++ us6.flatMap ReV.cells) →
      OwnRe w1 w7 (fun g => P g ∧ g < w.heap.size) v7 (⟨k1, a1, b1, c1, d1, q1, m1, cp1⟩ :: us6) (ofM (unionM F) :: noKind 2 F) := by
    intro v7 w7 ho
    refine ⟨?_, by rw [List.length_cons, List.length_cons, HUL6.out, HN6.out], fun i y t hy ht => ?_⟩
    · rw [List.length_cons, ← HN6.out, Nat.add_comm]
      exact ho
    · cases i with
      | zero =>
        simp at hy ht
        subst hy ht
        rw [← HS.out]
        exact HX.out.leaf (ofM_kids _)
      | succ i => exact HO6.out.each i y t (by simpa using hy) (by simpa using ht)
  have HFIN := Lib.hid fin
  clear fin
  have cont : ∀ (q7 : Option Addr) (n7 cp7 : Nat) (w7 : World) (us7 : List ReV), OwnRe w1 w7 (fun g => P g ∧ g < w.heap.size) (.slice q7 n7 cp7) us7 (ofM (unionM F) :: noKind 2 F) → Below w1.heap.size w1 w7 →
      Calls Tryd.prog 24 #[.slice q7 n7 cp7, .int .i64 0] w7 (fun e w' => ∃ (q8 : Option Addr) (n8 cp8 : Nat) (us8 : List ReV), e = .returned (.slice q8 n8 cp8) ∧ OwnRe w1 w' (fun g => P g ∧ g < w.heap.size) (.slice q8 n8 cp8) us8 (byteM F ++ othersM F) ∧ Below w1.heap.size w1 w') := by
    intro q7 n7 cp7 w7 us7 ho hb
    refine (without_any w7 0 ho hb.size (by rw [List.length_cons, ← HN6.out]; omega)).mono ?_
    rintro _ w8 ⟨v8, us8, rfl, h1, h2, _⟩
    rw [either_list] at h1
    have hb8 := ho.belowDel hb h2
    obtain ⟨q8, cp8, rfl, _⟩ := h1.slice hb8
    exact ⟨q8, _, cp8, us8, rfl, h1, hb8⟩
  have HCO := Lib.hid cont
  clear cont
  have HZ := Lib.hid hlen6
  cases q6 with
  | none =>
    have hc : n6 = 0 ∧ cp6 = 0 := by
      rcases HK6.out with ⟨h1, h2⟩ | ⟨_, _, h1, _⟩
      · exact ⟨h1, h2 rfl⟩
      · cases h1
    obtain ⟨rfl, rfl⟩ := hc
    have hus : us6 = [] := List.length_eq_zero_iff.1 HUL6.out
    have h7 := HFIN.out _ w6 (by rw [hus]; exact HL6.out)
    have c7 := HCO.out _ _ _ w6 _ h7 HB6.out
    clear h7 hus
    go_wp2_with (at_builtin; go_loud (refine wpList_append_own_none rfl _ _ 24 rfl w1.heap.size 30 i0 6 Tryd.underlying24 hi0 _ _ _ rfl HL6.out rfl ?_))
    go_wp2_with fail
    ((with_reducible refine c7.mono ?_))
    rintro _ w8 ⟨q8, n8, cp8, us8, rfl, hO8, hb8⟩
    have c8 := sorted_any w8 hO8 hb8 HT1.out (fun t ht => by
        rcases List.mem_append.1 ht with h | h
        · unfold byteM at h
          split at h
          · simp at h
          · simp at h
            subst h
            rw [RT.dep]
            decide
        · exact HFD.out t (List.mem_filter.1 h).1) (fun t ht => by
        rcases List.mem_append.1 ht with h | h
        · unfold byteM at h
          split at h
          · simp at h
          · simp at h
            subst h
            rw [sz_mk]
            decide
        · exact HFS.out t (List.mem_filter.1 h).1) (by
        have h1 : (byteM F).length ≤ 1 := by unfold byteM; split <;> simp
        have h2 : (othersM F).length ≤ F.length := List.length_filter_le _ _
        rw [List.length_append]
        omega)
    have HB8 := Lib.hid hb8
    clear hO8 hb8 c7
    go_wp2_with fail
    ((with_reducible refine c8.mono ?_))
    rintro _ w9 ⟨v9, us9, rfl, hO9, hb9⟩
    have hb19 : Below w1.heap.size w1 w9 := HB8.out.trans hb9
    obtain ⟨q9, cp9, rfl, hk9⟩ := hO9.slice hb19
    have c9 := joined_any w9 4 0 hk9
    have h9D : w9.heap[D]? = some (.cells #[.int .i64 0, .int .u64 0, .int .u64 0, .int .u64 0, .int .u64 0, .slice none 0 0] 30 (0, 0)) := (hb19.block D HDL.out).trans HND.out
    have H9D := Lib.hid h9D
    have HB9 := Lib.hid hb19
    clear hO9 hb9 hb19 hk9 c8 h9D
    go_wp2_with fail
    ((with_reducible refine c9.mono ?_))
    rintro _ w10 ⟨x, rfl, hx, hb10⟩
    obtain ⟨k, a, b, c, d, q10, m, cp10⟩ := x
    have h6D : w10.heap[D]? = some (.cells #[.int .i64 0, .int .u64 0, .int .u64 0, .int .u64 0, .int .u64 0, .slice none 0 0] 30 (0, 0)) := (hb10.block D (Nat.lt_of_lt_of_le HDL.out HB9.out.size)).trans H9D.out
    have H6D := Lib.hid h6D
    have d0 : w10.cell? ⟨D, 0, none⟩ = some (.int .i64 0) := by simp [World.cell?, h6D]
    have d1 : w10.cell? ⟨D, 1, none⟩ = some (.int .u64 0) := by simp [World.cell?, h6D]
    have d2 : w10.cell? ⟨D, 2, none⟩ = some (.int .u64 0) := by simp [World.cell?, h6D]
    have d3 : w10.cell? ⟨D, 3, none⟩ = some (.int .u64 0) := by simp [World.cell?, h6D]
    have d4 : w10.cell? ⟨D, 4, none⟩ = some (.int .u64 0) := by simp [World.cell?, h6D]
    have d5 : w10.cell? ⟨D, 5, none⟩ = some (.slice none 0 0) := by simp [World.cell?, h6D]
    have f0 := frozen_no h6D 0
    have f1 := frozen_no h6D 1
    have f2 := frozen_no h6D 2
    have f3 := frozen_no h6D 3
    have f4 := frozen_no h6D 4
    have f5 := frozen_no h6D 5
    have HX10 := Lib.hid hx
    have HB10 := Lib.hid hb10
    clear hx hb10 h6D c9
    unfold ReV.val
    go_wp2
    refine bodyPost_ret_by (results_cell_row rfl _ _ D 30 #[.int .i64 k, .int .u64 a, .int .u64 b, .int .u64 c, .int .u64 d, .slice q10 m cp10] (0, 0) _ rfl (set6_heap H6D.out _ _ _ _ _ _) Tryd.underlying30 rfl (by kernel_rfl)) rfl ?_
    have hall : Below w.heap.size w w10 := HB1.out.trans ((HB9.out.trans (HB10.out.mono HB9.out.size)).mono HB1.out.size)
    refine ⟨⟨k, a, b, c, d, q10, m, cp10⟩, rfl, ?_, six_set hall (by have := HDD.out; omega) _ _ _ _ _ _⟩
    have e : R = someM 4 0 (putsM (byteM F ++ othersM F)) := by
      rw [HR.out]
      unfold eitherM
      rw [HF.out]
    rw [e]
    refine HX10.out.kept (Keeps.of (by simp [World.setCell]) fun b hp hl => ?_)
    have hbD : b ≠ D := by
      have h1 := HDD.out
      have h2 : w1.heap.size = D + 1 := by rw [HW1.out, h1]; simp
      rcases hp with ⟨_, hp⟩ | hp
      · omega
      · omega
    refine ⟨six_ne hbD _ _ _ _ _ _, ?_⟩
    rcases hp with ⟨hp, _⟩ | hp
    · exact .inl hp
    · exact .inr (Nat.le_trans HB1.out.size hp)
  | some ad =>
    have hcells : ∀ (j : Nat) (x : Value), (us6.flatMap ReV.cells)[j]? = some x → w6.cell? (ad.add j) = some x := by
      intro j x hx
      rcases HK6.out with ⟨h1, _⟩ | ⟨g', off', h1, _, _, _, _, h6⟩
      · have : us6 = [] := List.length_eq_zero_iff.1 (by rw [HUL6.out]; exact h1)
        rw [this] at hx
        simp at hx
      · obtain rfl : ad = ⟨g', off', none⟩ := Option.some.inj h1
        rw [addr_add]
        exact h6 j x hx
    have hone := flat6_one us6
    have hlenc : (us6.flatMap ReV.cells).length = n6 * 6 := by rw [flat6_len, HUL6.out]
    go_wp2_with (at_builtin; go_loud (refine wpList_append_own_at _ rfl _ _ 24 rfl w1.heap.size 30 i0 _ 6 64 Tryd.underlying24 hi0 hz0 hz1 hz2 rfl (by decide) _ _ _ rfl HL6.out ad n6 cp6 (us6.flatMap ReV.cells) rfl hlenc hcells hone ?c3 ?c4 ?c5 ?_))
    case c3 => unfold maxLen; omega
    case c4 => omega
    case c5 => exact h1w
    intro v7 w7 hown hgrow _ _
    have h7 := HFIN.out v7 w7 hown
    have hb7 : Below w1.heap.size w1 w7 := HB6.out.grown hgrow h1w (own_above HL6.out)
    obtain ⟨q7, cp7, rfl, _⟩ := h7.slice hb7
    have c7 := HCO.out _ _ _ w7 _ h7 hb7
    obtain ⟨n7, hn7⟩ : ∃ n7, n7 = (ofM (unionM F) :: noKind 2 F).length := ⟨_, rfl⟩
    rw [← hn7] at c7 ⊢
    clear hn7
    clear h7 hb7 hown hgrow hcells hone hlenc
    go_wp2_with fail
    ((with_reducible refine c7.mono ?_))
    rintro _ w8 ⟨q8, n8, cp8, us8, rfl, hO8, hb8⟩
    have c8 := sorted_any w8 hO8 hb8 HT1.out (fun t ht => by
        rcases List.mem_append.1 ht with h | h
        · unfold byteM at h
          split at h
          · simp at h
          · simp at h
            subst h
            rw [RT.dep]
            decide
        · exact HFD.out t (List.mem_filter.1 h).1) (fun t ht => by
        rcases List.mem_append.1 ht with h | h
        · unfold byteM at h
          split at h
          · simp at h
          · simp at h
            subst h
            rw [sz_mk]
            decide
        · exact HFS.out t (List.mem_filter.1 h).1) (by
        have h1 : (byteM F).length ≤ 1 := by unfold byteM; split <;> simp
        have h2 : (othersM F).length ≤ F.length := List.length_filter_le _ _
        rw [List.length_append]
        omega)
    have HB8 := Lib.hid hb8
    clear hO8 hb8 c7
    go_wp2_with fail
    ((with_reducible refine c8.mono ?_))
    rintro _ w9 ⟨v9, us9, rfl, hO9, hb9⟩
    have hb19 : Below w1.heap.size w1 w9 := HB8.out.trans hb9
    obtain ⟨q9, cp9, rfl, hk9⟩ := hO9.slice hb19
    have c9 := joined_any w9 4 0 hk9
    have h9D : w9.heap[D]? = some (.cells #[.int .i64 0, .int .u64 0, .int .u64 0, .int .u64 0, .int .u64 0, .slice none 0 0] 30 (0, 0)) := (hb19.block D HDL.out).trans HND.out
    have H9D := Lib.hid h9D
    have HB9 := Lib.hid hb19
    clear hO9 hb9 hb19 hk9 c8 h9D
    go_wp2_with fail
    ((with_reducible refine c9.mono ?_))
    rintro _ w10 ⟨x, rfl, hx, hb10⟩
    obtain ⟨k, a, b, c, d, q10, m, cp10⟩ := x
    have h6D : w10.heap[D]? = some (.cells #[.int .i64 0, .int .u64 0, .int .u64 0, .int .u64 0, .int .u64 0, .slice none 0 0] 30 (0, 0)) := (hb10.block D (Nat.lt_of_lt_of_le HDL.out HB9.out.size)).trans H9D.out
    have H6D := Lib.hid h6D
    have d0 : w10.cell? ⟨D, 0, none⟩ = some (.int .i64 0) := by simp [World.cell?, h6D]
    have d1 : w10.cell? ⟨D, 1, none⟩ = some (.int .u64 0) := by simp [World.cell?, h6D]
    have d2 : w10.cell? ⟨D, 2, none⟩ = some (.int .u64 0) := by simp [World.cell?, h6D]
    have d3 : w10.cell? ⟨D, 3, none⟩ = some (.int .u64 0) := by simp [World.cell?, h6D]
    have d4 : w10.cell? ⟨D, 4, none⟩ = some (.int .u64 0) := by simp [World.cell?, h6D]
    have d5 : w10.cell? ⟨D, 5, none⟩ = some (.slice none 0 0) := by simp [World.cell?, h6D]
    have f0 := frozen_no h6D 0
    have f1 := frozen_no h6D 1
    have f2 := frozen_no h6D 2
    have f3 := frozen_no h6D 3
    have f4 := frozen_no h6D 4
    have f5 := frozen_no h6D 5
    have HX10 := Lib.hid hx
    have HB10 := Lib.hid hb10
    clear hx hb10 h6D c9
    unfold ReV.val
    go_wp2
    refine bodyPost_ret_by (results_cell_row rfl _ _ D 30 #[.int .i64 k, .int .u64 a, .int .u64 b, .int .u64 c, .int .u64 d, .slice q10 m cp10] (0, 0) _ rfl (set6_heap H6D.out _ _ _ _ _ _) Tryd.underlying30 rfl (by kernel_rfl)) rfl ?_
    have hall : Below w.heap.size w w10 := HB1.out.trans ((HB9.out.trans (HB10.out.mono HB9.out.size)).mono HB1.out.size)
    refine ⟨⟨k, a, b, c, d, q10, m, cp10⟩, rfl, ?_, six_set hall (by have := HDD.out; omega) _ _ _ _ _ _⟩
    have e : R = someM 4 0 (putsM (byteM F ++ othersM F)) := by
      rw [HR.out]
      unfold eitherM
      rw [HF.out]
    rw [e]
    refine HX10.out.kept (Keeps.of (by simp [World.setCell]) fun b hp hl => ?_)
    have hbD : b ≠ D := by
      have h1 := HDD.out
      have h2 : w1.heap.size = D + 1 := by rw [HW1.out, h1]; simp
      rcases hp with ⟨_, hp⟩ | hp
      · omega
      · omega
    refine ⟨six_ne hbD _ _ _ _ _ _, ?_⟩
    rcases hp with ⟨hp, _⟩ | hp
    · exact .inl hp
    · exact .inr (Nat.le_trans HB1.out.size hp)

end Go.Proofs.YtchicecmoknkjabDoor
