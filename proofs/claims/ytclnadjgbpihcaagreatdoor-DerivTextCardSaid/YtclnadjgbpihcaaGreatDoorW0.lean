/- Joined texts; each begins with what it says. -/
import Derived.Test.YtclnadjgbpihcaaGreatDoorSorted
import Derived.Test.YtclnadjgbpihcaaGreatDoorQuery
import Derived.Test.YtclnadjgbpihcaaGreatDoorBase
import Derived.Test.YtclnadjgbpihcaaGreatDoorProg
import Derived.BigQuiet
import Derived.Deep.QuietTactic
import Derived.Maps.AppendAt
import Derived.Lib.Hide
import Derived.Test.YtclnadjgbpihcaaGreatDoorReMath
import Derived.Test.YtclnadjgbpihcaaGreatDoorSortM
/-! The program's Cat and Either. No condition but the library's tables, depth and size. -/
namespace Go.Proofs.YtclnadjgbpihcaaGreatDoor
open Go.RowKit Go.Lib
set_option linter.unusedVariables false
set_option linter.unusedSimpArgs false

/-- A row of the call's own, as a slice of expressions. -/
theorem OwnRe.slice {w W : World} {P : Nat → Prop} {v : Value} {us : List ReV} {l : List RT} (h : OwnRe w W P v us l) (hb : Below w.heap.size w W) : ∃ q cp, v = .slice q l.length cp ∧ KidsR W (fun g => P g ∨ w.heap.size ≤ g) q l.length cp us l := by
  have he : ∀ (i : Nat) (y : ReV) (t : RT), us[i]? = some y → l[i]? = some t → RAt W (fun g => P g ∨ w.heap.size ≤ g) y t := fun i y t hy ht => ((h.each i y t hy ht).under hb).weak fun g hg _ => .inl hg
  rcases row_forms h.own with ⟨rfl, h0⟩ | ⟨g, cp, rfl⟩
  · exact ⟨none, 0, by rw [h0], .inl ⟨h0, fun _ => rfl⟩, rfl, h.len, he⟩
  · refine ⟨_, cp, rfl, ?_, rfl, h.len, he⟩
    obtain ⟨r1, r2, r3, r4⟩ := row_base h.own
    rcases h.own.2 with ⟨h2, _⟩ | ⟨g', cap', cur, hv, hb, hh, hc, hm, hsz, ht⟩
    · cases h2
    · obtain rfl : g = g' := by simp at hv; omega
      exact .inr ⟨g, 0, rfl, r2, r3, .inr r1, ⟨cur, _, by decide, hh⟩, fun j u hj => by rw [Nat.zero_add]; exact row_cell h.own hj⟩
theorem RAt.leaf {W W' : World} {P P' : Nat → Prop} {x : ReV} {t : RT} (h : RAt W P x t) (hk : t.kids = []) : RAt W' P' x t := by
  obtain ⟨vs, et, ho, hr⟩ := h.kids
  rw [hk] at et hr
  rw [et]
  have hn : x.n = 0 := hr.num
  have hv : vs = [] := List.length_eq_zero_iff.1 hr.len
  have hrow : RowR W' P' x.p x.n x.cap [] := by
    rcases hr.row with h | ⟨g, off, e, _⟩
    · exact .inl h
    · exact .inl ⟨hn, fun e2 => by rw [e] at e2; cases e2⟩
  obtain ⟨k, a, b, c, d, p, n, cap⟩ := x
  exact .mk [] ho hrow hn rfl fun i y t hy => by simp at hy
theorem OwnRe.sub {w W : World} {P : Nat → Prop} {v : Value} {us : List ReV} {l : List RT} (h : OwnRe w W P v us l) {W' : World} (hb : W'.heap.size = W'.heap.size) (ho : W'.ownsRow w.heap.size 28 6 v l.length (us.flatMap ReV.cells)) : OwnRe w W' P v us l := ⟨ho, h.len, h.each⟩
theorem flat_all {Q : RT → Prop} {k : Int} {l : List RT} (h : ∀ t ∈ l, Q t) (hk : ∀ t ∈ l, ∀ x ∈ t.kids, Q x) : ∀ t ∈ flatM k l, Q t := by
  intro t ht
  rcases flat_mem ht with ⟨h1, _⟩ | ⟨y, hy, _, hx⟩
  · exact h t h1
  · exact hk y hy t hx
theorem dep_kid {y x : RT} (h : x ∈ y.kids) : x.dep < y.dep := by
  obtain ⟨k, s, kids⟩ := y
  have h1 : (RT.mk k s kids).dep = ((RT.mk k s kids).dep - 1) + 1 := by have := dep_pos (RT.mk k s kids); omega
  have := dep_mk.1 (Nat.le_of_eq h1) x h
  have := dep_pos (RT.mk k s kids)
  omega
theorem flat_len (k : Int) (l : List RT) : (flatM k l).length ≤ (l.map RT.sz).sum := by
  induction l with
  | nil => simp [flatM]
  | cons a l ih =>
    have h1 := kids_len a
    have h2 := sz_pos a
    have e : flatM k (a :: l) = (if a.kind = k then a.kids else [a]) ++ flatM k l := by simp [flatM]
    rw [e, List.length_append, List.map_cons, List.sum_cons]
    split
    · omega
    · simp only [List.length_cons, List.length_nil]; omega
theorem six_ne {W : World} {D g : Nat} (h : g ≠ D) (a b c d e f : Value) :
    ((((((W.setCell ⟨D, 0, none⟩ a).setCell ⟨D, 1, none⟩ b).setCell ⟨D, 2, none⟩ c).setCell ⟨D, 3, none⟩ d).setCell ⟨D, 4, none⟩ e).setCell ⟨D, 5, none⟩ f).heap[g]? = W.heap[g]? := by
  rw [heap_set_ne _ _ _ (by exact h), heap_set_ne _ _ _ (by exact h), heap_set_ne _ _ _ (by exact h), heap_set_ne _ _ _ (by exact h), heap_set_ne _ _ _ (by exact h), heap_set_ne _ _ _ (by exact h)]
theorem noKind_len (k : Int) (l : List RT) : (noKind k l).length ≤ l.length := List.length_filter_le _ _

set_option maxRecDepth 100000 in
set_option maxHeartbeats 8000000 in
theorem cat_any {P : Nat → Prop} (w : World) {p : Option Addr} {n cap : Nat} {vs : List ReV} {l : List RT} (h : KidsR w P p n cap vs l) (hsz : (l.map RT.sz).sum ≤ 9000000000) :
    Calls Tryz.prog 55 #[.slice p n cap] w (GivesRe (fun g => P g ∨ w.heap.size ≤ g) (catM l) w) := by
  obtain ⟨D, hD⟩ : ∃ D, D = w.heap.size := ⟨_, rfl⟩
  obtain ⟨w1, hw1⟩ : ∃ w1 : World, w1 = w.alloc (.cells #[.int .i64 0, .int .u64 0, .int .u64 0, .int .u64 0, .int .u64 0, .slice none 0 0] 28) := ⟨_, rfl⟩
  have hb1 : Below w.heap.size w w1 := by rw [hw1]; exact (Below.refl _ _).alloc (Nat.le_refl _) _
  have hnD : w1.heap[D]? = some (.cells #[.int .i64 0, .int .u64 0, .int .u64 0, .int .u64 0, .int .u64 0, .slice none 0 0] 28 (0, 0)) := by rw [hw1, hD]; exact heap_alloc_new _ _
  have h0 : KidsR w (fun g => P g ∧ g < w.heap.size) p n cap vs l := h.kept (Keeps.of (Nat.le_refl _) fun b hp hl => ⟨rfl, hp, hl⟩)
  have c1 := opened_any w1 3 (h0.under hb1) hsz
  have hfl := flat_len 3 l
  obtain ⟨F, hF⟩ : ∃ F, F = flatM 3 l := ⟨_, rfl⟩
  obtain ⟨R, hR⟩ : ∃ R, R = catM l := ⟨_, rfl⟩
  rw [← hR]
  rw [← hF] at c1 hfl
  have HF := Lib.hid hF
  have HR := Lib.hid hR
  have HB1 := Lib.hid hb1
  have HND := Lib.hid hnD
  have HW1 := Lib.hid hw1
  have HDD := Lib.hid hD
  have hDl : D < w1.heap.size := (Array.getElem?_eq_some_iff.1 hnD).1
  have HDL := Lib.hid hDl
  clear h h0 hF hR hb1 hnD hw1 hD hDl
  go_enter Tryz.func55, Tryz.ntmps55
  go_wp2_with fail
  rw [← HW1.out, ← HDD.out]
  ((with_reducible refine c1.mono ?_))
  rintro _ w2 ⟨v, us, rfl, hO, hb2⟩
  obtain ⟨q, cp, rfl, hk⟩ := hO.slice hb2
  have hb3 : Below w2.heap.size w2 (w2.alloc (.cells #[.int .i64 0] 3)) := (Below.refl _ _).alloc (Nat.le_refl _) _
  have c2 := hasany_any (w2.alloc (.cells #[.int .i64 0] 3)) w2.heap.size 1 [0] ⟨heap_alloc_new _ _⟩ rfl (by decide) (hk.rowv.under hb3) (by omega)
  have e2 := kids_any hk (fun k => [0].contains k)
  rw [e2] at c2
  obtain ⟨E, hE⟩ : ∃ E, E = F.any fun t => [0].contains t.kind := ⟨_, rfl⟩
  rw [← hE] at c2
  have HE := Lib.hid hE
  have HO := Lib.hid hO
  have HB2 := Lib.hid hb2
  have HB3 := Lib.hid hb3
  clear hO hk e2 hE hb2 hb3 c1
  go_wp2_with fail
  ((with_reducible refine c2.mono ?_))
  rintro _ w4 ⟨rfl, hb4⟩
  have hb24 : Below w2.heap.size w2 w4 := HB3.out.trans (hb4.mono HB3.out.size)
  have hO4 : OwnRe w1 w4 (fun g => P g ∧ g < w.heap.size) (.slice q F.length cp) us F := by
    refine ⟨?_, HO.out.len, HO.out.each⟩
    rcases row_forms HO.out.own with ⟨e, h0⟩ | ⟨g, cp', e⟩
    · have h1 := HO.out.own
      rw [e] at h1 ⊢
      exact ⟨h1.1, .inl ⟨rfl, h0⟩⟩
    · have h1 := HO.out.own
      rw [e] at h1 ⊢
      exact own_at h1 (hb24.block g (row_base h1).2.2.2)
  have hb14 : Below w1.heap.size w1 w4 := HB2.out.trans (hb24.mono HB2.out.size)
  have HB14 := Lib.hid hb14
  have HO4 := Lib.hid hO4
  clear c2 hb4 hb24 hO4
  cases E with
  | true =>
    have h4D : w4.heap[D]? = some (.cells #[.int .i64 0, .int .u64 0, .int .u64 0, .int .u64 0, .int .u64 0, .slice none 0 0] 28 (0, 0)) := (hb14.block D HDL.out).trans HND.out
    have H4D := Lib.hid h4D
    have d0 : w4.cell? ⟨D, 0, none⟩ = some (.int .i64 0) := by simp [World.cell?, h4D]
    have d1 : w4.cell? ⟨D, 1, none⟩ = some (.int .u64 0) := by simp [World.cell?, h4D]
    have d2 : w4.cell? ⟨D, 2, none⟩ = some (.int .u64 0) := by simp [World.cell?, h4D]
    have d3 : w4.cell? ⟨D, 3, none⟩ = some (.int .u64 0) := by simp [World.cell?, h4D]
    have d4 : w4.cell? ⟨D, 4, none⟩ = some (.int .u64 0) := by simp [World.cell?, h4D]
    have d5 : w4.cell? ⟨D, 5, none⟩ = some (.slice none 0 0) := by simp [World.cell?, h4D]
    have f0 := frozen_no h4D 0
    have f1 := frozen_no h4D 1
    have f2 := frozen_no h4D 2
    have f3 := frozen_no h4D 3
    have f4 := frozen_no h4D 4
    have f5 := frozen_no h4D 5
    clear h4D hb14
    go_wp2
    refine bodyPost_ret_by (results_cell_row rfl _ _ D 28 #[.int .i64 0, .int .u64 0, .int .u64 0, .int .u64 0, .int .u64 0, .slice none 0 0] (0, 0) _ rfl (set6_heap H4D.out _ _ _ _ _ _) Tryz.underlying28 rfl (by kernel_rfl)) rfl ?_
    refine ⟨⟨0, 0, 0, 0, 0, none, 0, 0⟩, rfl, ?_, six_set (HB1.out.trans (HB14.out.mono HB1.out.size)) (by have := HDD.out; omega) _ _ _ _ _ _⟩
    have e : R = noneM := by
      rw [HR.out]
      unfold catM
      rw [if_pos]
      rw [← HF.out]
      have := HE.out.symm
      simpa [List.contains_cons, List.contains_nil] using this
    rw [e]
    exact kids_empty.tree 0 W4.zero zero_ok
  | false =>
    have c5 := without_any w4 1 HO4.out hb14.size (by omega)
    clear hb14
    go_wp2_with fail
    ((with_reducible refine c5.mono ?_))
    rintro _ w5 ⟨v5, us5, rfl, hO5, hg5, _⟩
    have hb5 : Below w1.heap.size w1 w5 := by
      rcases row_forms HO4.out.own with ⟨e, h0⟩ | ⟨g, cp', e⟩
      · rw [e] at hg5
        exact HB14.out.grown hg5 HB14.out.size (fun r hr => by cases hr)
      · have h1 := HO4.out.own
        rw [e] at hg5 h1
        exact HB14.out.grown hg5 HB14.out.size (fun r hr => by cases hr; exact (row_base h1).1)
    obtain ⟨q5, cp5, rfl, hk5⟩ := hO5.slice hb5
    have c6 := joined_any w5 3 1 hk5
    have h5D : w5.heap[D]? = some (.cells #[.int .i64 0, .int .u64 0, .int .u64 0, .int .u64 0, .int .u64 0, .slice none 0 0] 28 (0, 0)) := (hb5.block D HDL.out).trans HND.out
    have H5D := Lib.hid h5D
    have HB5 := Lib.hid hb5
    clear hO5 hg5 hb5 hk5 c5 h5D
    go_wp2_with fail
    ((with_reducible refine c6.mono ?_))
    rintro _ w6 ⟨x, rfl, hx, hb6⟩
    obtain ⟨k, a, b, c, d, q6, m, cp6⟩ := x
    have h6D : w6.heap[D]? = some (.cells #[.int .i64 0, .int .u64 0, .int .u64 0, .int .u64 0, .int .u64 0, .slice none 0 0] 28 (0, 0)) := (hb6.block D (Nat.lt_of_lt_of_le HDL.out HB5.out.size)).trans H5D.out
    have H6D := Lib.hid h6D
    have d0 : w6.cell? ⟨D, 0, none⟩ = some (.int .i64 0) := by simp [World.cell?, h6D]
    have d1 : w6.cell? ⟨D, 1, none⟩ = some (.int .u64 0) := by simp [World.cell?, h6D]
    have d2 : w6.cell? ⟨D, 2, none⟩ = some (.int .u64 0) := by simp [World.cell?, h6D]
    have d3 : w6.cell? ⟨D, 3, none⟩ = some (.int .u64 0) := by simp [World.cell?, h6D]
    have d4 : w6.cell? ⟨D, 4, none⟩ = some (.int .u64 0) := by simp [World.cell?, h6D]
    have d5 : w6.cell? ⟨D, 5, none⟩ = some (.slice none 0 0) := by simp [World.cell?, h6D]
    have f0 := frozen_no h6D 0
    have f1 := frozen_no h6D 1
    have f2 := frozen_no h6D 2
    have f3 := frozen_no h6D 3
    have f4 := frozen_no h6D 4
    have f5 := frozen_no h6D 5
    have HX := Lib.hid hx
    have HB6 := Lib.hid hb6
    clear hx hb6 h6D c6
    unfold ReV.val
    go_wp2
    refine bodyPost_ret_by (results_cell_row rfl _ _ D 28 #[.int .i64 k, .int .u64 a, .int .u64 b, .int .u64 c, .int .u64 d, .slice q6 m cp6] (0, 0) _ rfl (set6_heap H6D.out _ _ _ _ _ _) Tryz.underlying28 rfl (by kernel_rfl)) rfl ?_
    have hall : Below w.heap.size w w6 := HB1.out.trans ((HB5.out.trans (HB6.out.mono HB5.out.size)).mono HB1.out.size)
    refine ⟨⟨k, a, b, c, d, q6, m, cp6⟩, rfl, ?_, six_set hall (by have := HDD.out; omega) _ _ _ _ _ _⟩
    have e : R = someM 3 1 (noKind 1 F) := by
      rw [HR.out]
      unfold catM noKind
      rw [if_neg, HF.out]
      rw [← HF.out]
      intro h
      have h2 := HE.out
      simp [List.contains_cons, List.contains_nil] at h2 h
      obtain ⟨t, ht, hk⟩ := h
      exact h2 t ht hk
    rw [e]
    refine HX.out.kept (Keeps.of (by simp [World.setCell]) fun b hp hl => ?_)
    have hbD : b ≠ D := by
      have h1 := HDD.out
      have h2 : w1.heap.size = D + 1 := by rw [HW1.out, h1]; simp
      rcases hp with ⟨_, hp⟩ | hp
      · omega
      · omega
    refine ⟨six_ne hbD _ _ _ _ _ _, ?_⟩
    rcases hp with ⟨hp, _⟩ | hp
    · exact .inl hp
    · exact .inr (Nat.le_trans HB1.out.size hp)

theorem either_list (F : List RT) : noKind 0 (ofM (unionM F) :: noKind 2 F) = byteM F ++ othersM F := by
  have e : (noKind 2 F).filter (fun t => !(t.kind == 0)) = othersM F := by
    unfold noKind othersM
    rw [List.filter_filter]
  unfold noKind at e ⊢
  rw [List.filter_cons, e]
  unfold ofM byteM
  by_cases h : unionM F = W4.zero
  · rw [if_pos h, if_pos h]
    simp [noneM, RT.kind]
  · rw [if_neg h, if_neg h]
    simp [RT.kind]
theorem ofM_kids (s : W4) : (ofM s).kids = [] := by
  unfold ofM
  split <;> rfl
theorem ofM_dep (s : W4) : (ofM s).dep = 1 := by
  unfold ofM noneM
  split <;> (rw [RT.dep]; rfl)
theorem ofM_sz (s : W4) : (ofM s).sz = 1 := by
  unfold ofM noneM
  split <;> (rw [sz_mk]; rfl)
theorem OwnRe.moved {w W W' : World} {P : Nat → Prop} {v : Value} {us : List ReV} {l : List RT} (h : OwnRe w W P v us l) (hb : Below W.heap.size W W') : OwnRe w W' P v us l := by
  refine ⟨?_, h.len, h.each⟩
  rcases row_forms h.own with ⟨rfl, h0⟩ | ⟨g, cp, rfl⟩
  · exact ⟨h.own.1, .inl ⟨rfl, h0⟩⟩
  · exact own_at h.own (hb.block g (row_base h.own).2.2.2)
theorem OwnRe.belowDel {w W W' : World} {P : Nat → Prop} {v : Value} {us : List ReV} {l : List RT} (h : OwnRe w W P v us l) (hb : Below w.heap.size w W) (hg : W.grownBy W' v.ownBlock) : Below w.heap.size w W' :=
  hb.grown hg hb.size (own_above h.own)
theorem flat6_one (us : List ReV) : ∀ x ∈ us.flatMap ReV.cells, x.oneCell' = true := by
  intro x hx
  obtain ⟨y, _, hy⟩ := List.mem_flatMap.1 hx
  unfold ReV.cells at hy
  simp at hy
  rcases hy with rfl | rfl | rfl | rfl | rfl | rfl <;> rfl

set_option maxRecDepth 100000 in
set_option maxHeartbeats 8000000 in
theorem either_any {P : Nat → Prop} (w : World) {p : Option Addr} {n cap : Nat} {vs : List ReV} {l : List RT} (h : KidsR w P p n cap vs l) (hT : Tab1 w) (hdep : ∀ t ∈ l, t.dep < 10000) (hsz : (l.map RT.sz).sum ≤ 9000000000) :
    Calls Tryz.prog 54 #[.slice p n cap] w (GivesRe (fun g => P g ∨ w.heap.size ≤ g) (eitherM l) w) := by
  obtain ⟨i0, hi0, hz0, hz1, hz2⟩ := re_parts
  obtain ⟨D, hD⟩ : ∃ D, D = w.heap.size := ⟨_, rfl⟩
  obtain ⟨w1, hw1⟩ : ∃ w1 : World, w1 = w.alloc (.cells #[.int .i64 0, .int .u64 0, .int .u64 0, .int .u64 0, .int .u64 0, .slice none 0 0] 28) := ⟨_, rfl⟩
  have hb1 : Below w.heap.size w w1 := by rw [hw1]; exact (Below.refl _ _).alloc (Nat.le_refl _) _
  have hnD : w1.heap[D]? = some (.cells #[.int .i64 0, .int .u64 0, .int .u64 0, .int .u64 0, .int .u64 0, .slice none 0 0] 28 (0, 0)) := by rw [hw1, hD]; exact heap_alloc_new _ _
  have h0 : KidsR w (fun g => P g ∧ g < w.heap.size) p n cap vs l := h.kept (Keeps.of (Nat.le_refl _) fun b hp hl => ⟨rfl, hp, hl⟩)
  have c1 := opened_any w1 4 (h0.under hb1) hsz
  have hfl := flat_len 4 l
  have hfd : ∀ t ∈ flatM 4 l, t.dep < 10000 := flat_all hdep fun y hy x hx => by have := dep_kid hx; have := hdep y hy; omega
  have hfs : ∀ t ∈ flatM 4 l, t.sz ≤ 9000000000 := flat_all (fun t ht => by have := sum_mem ht; omega) fun y hy x hx => by have := kids_sz hx; have := sum_mem hy; omega
  obtain ⟨F, hF⟩ : ∃ F, F = flatM 4 l := ⟨_, rfl⟩
  obtain ⟨R, hR⟩ : ∃ R, R = eitherM l := ⟨_, rfl⟩
  rw [← hR]
  rw [← hF] at c1 hfl hfd hfs
  have HF := Lib.hid hF
  have HR := Lib.hid hR
  have HB1 := Lib.hid hb1
  have HND := Lib.hid hnD
  have HW1 := Lib.hid hw1
  have HDD := Lib.hid hD
  have HT1 := Lib.hid (hT.stays hb1)
  have HFD := Lib.hid hfd
  have HFS := Lib.hid hfs
  have hDl : D < w1.heap.size := (Array.getElem?_eq_some_iff.1 hnD).1
  have HDL := Lib.hid hDl
  clear h h0 hF hR hb1 hnD hw1 hD hDl hT hdep hfd hfs
  go_enter Tryz.func54, Tryz.ntmps54
  go_wp2_with fail
  rw [← HW1.out, ← HDD.out]
  ((with_reducible refine c1.mono ?_))
  rintro _ w2 ⟨v, us, rfl, hO, hb2⟩
  obtain ⟨q, cp, rfl, hk⟩ := hO.slice hb2
  have c2 := union_any w2 hk (by omega)
  obtain ⟨⟨sa, sb, sc, sd⟩, hS⟩ : ∃ s, s = unionM F := ⟨_, rfl⟩
  rw [← hS] at c2
  have hok : (⟨sa, sb, sc, sd⟩ : W4).Ok := by rw [hS]; exact of_ok _
  have HO := Lib.hid hO
  have HB2 := Lib.hid hb2
  have HS := Lib.hid hS
  have HOK := Lib.hid hok
  clear hO hb2 hk hS hok c1
  go_wp2_with fail
  ((with_reducible refine c2.mono ?_))
  rintro _ w3 ⟨rfl, hb3⟩
  have c3 := of_any (P := fun _ => True) w3 sa sb sc sd HOK.out
  have HB3 := Lib.hid hb3
  clear hb3 c2
  go_wp2_with fail
  ((with_reducible refine c3.mono ?_))
  rintro _ w4 ⟨x, rfl, hx, hb4⟩
  obtain ⟨k1, a1, b1, c1, d1, q1, m1, cp1⟩ := x
  have HB4 := Lib.hid hb4
  have HX := Lib.hid hx
  clear hb4 hx c3
  obtain ⟨g9, hg9⟩ : ∃ g9, g9 = w4.heap.size := ⟨_, rfl⟩
  obtain ⟨w5, hw5⟩ : ∃ w5 : World, w5 = w4.alloc (.cells #[.int .i64 k1, .int .u64 a1, .int .u64 b1, .int .u64 c1, .int .u64 d1, .slice q1 m1 cp1] 28) := ⟨_, rfl⟩
  have hb5 : Below w4.heap.size w4 w5 := by rw [hw5]; exact (Below.refl _ _).alloc (Nat.le_refl _) _
  have hb25 : Below w2.heap.size w2 w5 := (HB3.out.trans (HB4.out.mono HB3.out.size)).trans (hb5.mono (Nat.le_trans HB3.out.size HB4.out.size))
  have hO5 := HO.out.moved hb25
  have hb15 : Below w1.heap.size w1 w5 := HB2.out.trans (hb25.mono HB2.out.size)
  have hL5 : w5.ownsRow w1.heap.size 28 6 (.slice (some ⟨g9, 0, none⟩) 1 1) 1 [.int .i64 k1, .int .u64 a1, .int .u64 b1, .int .u64 c1, .int .u64 d1, .slice q1 m1 cp1] := by
    rw [hg9, hw5]
    exact row_new (c := #[.int .i64 k1, .int .u64 a1, .int .u64 b1, .int .u64 c1, .int .u64 d1, .slice q1 m1 cp1]) (Nat.le_trans HB2.out.size (Nat.le_trans HB3.out.size HB4.out.size)) (by decide) rfl
  have hne9 : ∀ g cp', (.slice q F.length cp : Value) = .slice (some ⟨g, 0, none⟩) F.length cp' → g < g9 := by
    intro g cp' e
    have h1 := HO.out.own
    rw [e] at h1
    have := (row_base h1).2.2.2
    have := HB3.out.size
    have := HB4.out.size
    omega
  have c6 := without_any w5 2 hO5 hb15.size (by omega)
  have HB15 := Lib.hid hb15
  have HO5 := Lib.hid hO5
  have HL5 := Lib.hid hL5
  have HNE9 := Lib.hid hne9
  have HG9 := Lib.hid hg9
  have HW5 := Lib.hid hw5
  unfold ReV.val
  clear hb5 hb25 hO5 hb15 hL5 hne9 hg9 hw5
  go_wp2_with fail
  rw [← HW5.out, ← HG9.out]
  ((with_reducible refine c6.mono ?_))
  rintro _ w6 ⟨v6, us6, rfl, hO6, hg6, _⟩
  have hb6 := HO5.out.belowDel HB15.out hg6
  have hL6 : w6.ownsRow w1.heap.size 28 6 (.slice (some ⟨g9, 0, none⟩) 1 1) 1 [.int .i64 k1, .int .u64 a1, .int .u64 b1, .int .u64 c1, .int .u64 d1, .slice q1 m1 cp1] := by
    refine own_at HL5.out (hg6.block g9 (row_base HL5.out).2.2.2 fun e => ?_)
    rcases row_forms HO.out.own with ⟨e2, _⟩ | ⟨g, cp', e2⟩
    · rw [e2] at e; cases e
    · have := HNE9.out g cp' e2
      rw [e2] at e
      have : g9 = g := by simpa [Value.ownBlock] using e
      omega
  obtain ⟨q6, cp6, rfl, hk6⟩ := hO6.slice hb6
  have hlen6 : (noKind 2 F).length ≤ 9000000000 := Nat.le_trans (noKind_len 2 F) (by omega)
  obtain ⟨n6, hn6⟩ : ∃ n6, n6 = (noKind 2 F).length := ⟨_, rfl⟩
  rw [← hn6] at hlen6 ⊢
  have hk6r := hk6.row
  have hul6 : us6.length = n6 := by rw [hO6.len, hn6]
  rw [← hn6] at hk6r
  have HO6 := Lib.hid hO6
  have HB6 := Lib.hid hb6
  have HL6 := Lib.hid hL6
  have HK6 := Lib.hid hk6r
  have HUL6 := Lib.hid hul6
  have HN6 := Lib.hid hn6
  have h1w : w1.heap.size ≤ w6.heap.size := hb6.size
  clear hO6 hb6 hL6 hk6 hk6r hul6 hn6 hg6 c6
  have fin : ∀ (v7 : Value) (w7 : World), w7.ownsRow w1.heap.size 28 6 v7 (1 + n6) ([.int .i64 k1, .int .u64 a1, .int .u64 b1, .int .u64 c1, .int .u64 d1, .slice q1 m1 cp1] ++ us6.flatMap ReV.cells) →
      OwnRe w1 w7 (fun g => P g ∧ g < w.heap.size) v7 (⟨k1, a1, b1, c1, d1, q1, m1, cp1⟩ :: us6) (ofM (unionM F) :: noKind 2 F) := by
    intro v7 w7 ho
    refine ⟨?_, by rw [List.length_cons, List.length_cons, HUL6.out, HN6.out], fun i y t hy ht => ?_⟩
    · rw [List.length_cons, ← HN6.out, Nat.add_comm]
      exact ho
    · cases i with
      | zero =>
        simp at hy ht
        subst hy ht
        rw [← HS.out]
        exact HX.out.leaf (ofM_kids _)
      | succ i => exact HO6.out.each i y t (by simpa using hy) (by simpa using ht)
  have HFIN := Lib.hid fin
  clear fin
  have cont : ∀ (q7 : Option Addr) (n7 cp7 : Nat) (w7 : World) (us7 : List ReV), OwnRe w1 w7 (fun g => P g ∧ g < w.heap.size) (.slice q7 n7 cp7) us7 (ofM (unionM F) :: noKind 2 F) → Below w1.heap.size w1 w7 →
      Calls Tryz.prog 61 #[.slice q7 n7 cp7, .int .i64 0] w7 (fun e w' => ∃ (q8 : Option Addr) (n8 cp8 : Nat) (us8 : List ReV), e = .returned (.slice q8 n8 cp8) ∧ OwnRe w1 w' (fun g => P g ∧ g < w.heap.size) (.slice q8 n8 cp8) us8 (byteM F ++ othersM F) ∧ Below w1.heap.size w1 w') := by
    intro q7 n7 cp7 w7 us7 ho hb
    refine (without_any w7 0 ho hb.size (by rw [List.length_cons, ← HN6.out]; omega)).mono ?_
    rintro _ w8 ⟨v8, us8, rfl, h1, h2, _⟩
    rw [either_list] at h1
    have hb8 := ho.belowDel hb h2
    obtain ⟨q8, cp8, rfl, _⟩ := h1.slice hb8
    exact ⟨q8, _, cp8, us8, rfl, h1, hb8⟩
  have HCO := Lib.hid cont
  clear cont
  have HZ := Lib.hid hlen6
  cases q6 with
  | none =>
    have hc : n6 = 0 ∧ cp6 = 0 := by
      rcases HK6.out with ⟨h1, h2⟩ | ⟨_, _, h1, _⟩
      · exact ⟨h1, h2 rfl⟩
      · cases h1
    obtain ⟨rfl, rfl⟩ := hc
    have hus : us6 = [] := List.length_eq_zero_iff.1 HUL6.out
    have h7 := HFIN.out _ w6 (by rw [hus]; exact HL6.out)
    have c7 := HCO.out _ _ _ w6 _ h7 HB6.out
    clear h7 hus
    go_wp2_with (at_builtin; go_loud (refine wpList_append_own_none rfl _ _ 26 rfl w1.heap.size 28 i0 6 Tryz.underlying26 hi0 _ _ _ rfl HL6.out rfl ?_))
    go_wp2_with fail
    ((with_reducible refine c7.mono ?_))
    rintro _ w8 ⟨q8, n8, cp8, us8, rfl, hO8, hb8⟩
    have c8 := sorted_any w8 hO8 hb8 HT1.out (fun t ht => by
        rcases List.mem_append.1 ht with h | h
        · unfold byteM at h
          split at h
          · simp at h
          · simp at h
            subst h
            rw [RT.dep]
            decide
        · exact HFD.out t (List.mem_filter.1 h).1) (fun t ht => by
        rcases List.mem_append.1 ht with h | h
        · unfold byteM at h
          split at h
          · simp at h
          · simp at h
            subst h
            rw [sz_mk]
            decide
        · exact HFS.out t (List.mem_filter.1 h).1) (by
        have h1 : (byteM F).length ≤ 1 := by unfold byteM; split <;> simp
        have h2 : (othersM F).length ≤ F.length := List.length_filter_le _ _
        rw [List.length_append]
        omega)
    have HB8 := Lib.hid hb8
    clear hO8 hb8 c7
    go_wp2_with fail
    ((with_reducible refine c8.mono ?_))
    rintro _ w9 ⟨v9, us9, rfl, hO9, hb9⟩
    have hb19 : Below w1.heap.size w1 w9 := HB8.out.trans hb9
    obtain ⟨q9, cp9, rfl, hk9⟩ := hO9.slice hb19
    have c9 := joined_any w9 4 0 hk9
    have h9D : w9.heap[D]? = some (.cells #[.int .i64 0, .int .u64 0, .int .u64 0, .int .u64 0, .int .u64 0, .slice none 0 0] 28 (0, 0)) := (hb19.block D HDL.out).trans HND.out
    have H9D := Lib.hid h9D
    have HB9 := Lib.hid hb19
    clear hO9 hb9 hb19 hk9 c8 h9D
    go_wp2_with fail
    ((with_reducible refine c9.mono ?_))
    rintro _ w10 ⟨x, rfl, hx, hb10⟩
    obtain ⟨k, a, b, c, d, q10, m, cp10⟩ := x
    have h6D : w10.heap[D]? = some (.cells #[.int .i64 0, .int .u64 0, .int .u64 0, .int .u64 0, .int .u64 0, .slice none 0 0] 28 (0, 0)) := (hb10.block D (Nat.lt_of_lt_of_le HDL.out HB9.out.size)).trans H9D.out
    have H6D := Lib.hid h6D
    have d0 : w10.cell? ⟨D, 0, none⟩ = some (.int .i64 0) := by simp [World.cell?, h6D]
    have d1 : w10.cell? ⟨D, 1, none⟩ = some (.int .u64 0) := by simp [World.cell?, h6D]
    have d2 : w10.cell? ⟨D, 2, none⟩ = some (.int .u64 0) := by simp [World.cell?, h6D]
    have d3 : w10.cell? ⟨D, 3, none⟩ = some (.int .u64 0) := by simp [World.cell?, h6D]
    have d4 : w10.cell? ⟨D, 4, none⟩ = some (.int .u64 0) := by simp [World.cell?, h6D]
    have d5 : w10.cell? ⟨D, 5, none⟩ = some (.slice none 0 0) := by simp [World.cell?, h6D]
    have f0 := frozen_no h6D 0
    have f1 := frozen_no h6D 1
    have f2 := frozen_no h6D 2
    have f3 := frozen_no h6D 3
    have f4 := frozen_no h6D 4
    have f5 := frozen_no h6D 5
    have HX10 := Lib.hid hx
    have HB10 := Lib.hid hb10
    clear hx hb10 h6D c9
    unfold ReV.val
    go_wp2
    refine bodyPost_ret_by (results_cell_row rfl _ _ D 28 #[.int .i64 k, .int .u64 a, .int .u64 b, .int .u64 c, .int .u64 d, .slice q10 m cp10] (0, 0) _ rfl (set6_heap H6D.out _ _ _ _ _ _) Tryz.underlying28 rfl (by kernel_rfl)) rfl ?_
    have hall : Below w.heap.size w w10 := HB1.out.trans ((HB9.out.trans (HB10.out.mono HB9.out.size)).mono HB1.out.size)
    refine ⟨⟨k, a, b, c, d, q10, m, cp10⟩, rfl, ?_, six_set hall (by have := HDD.out; omega) _ _ _ _ _ _⟩
    have e : R = someM 4 0 (putsM (byteM F ++ othersM F)) := by
      rw [HR.out]
      unfold eitherM
      rw [HF.out]
    rw [e]
    refine HX10.out.kept (Keeps.of (by simp [World.setCell]) fun b hp hl => ?_)
    have hbD : b ≠ D := by
      have h1 := HDD.out
      have h2 : w1.heap.size = D + 1 := by rw [HW1.out, h1]; simp
      rcases hp with ⟨_, hp⟩ | hp
      · omega
      · omega
    refine ⟨six_ne hbD _ _ _ _ _ _, ?_⟩
    rcases hp with ⟨hp, _⟩ | hp
    · exact .inl hp
    · exact .inr (Nat.le_trans HB1.out.size hp)
  | some ad =>
    have hcells : ∀ (j : Nat) (x : Value), (us6.flatMap ReV.cells)[j]? = some x → w6.cell? (ad.add j) = some x := by
      intro j x hx
      rcases HK6.out with ⟨h1, _⟩ | ⟨g', off', h1, _, _, _, _, h6⟩
      · have : us6 = [] := List.length_eq_zero_iff.1 (by rw [HUL6.out]; exact h1)
        rw [this] at hx
        simp at hx
      · obtain rfl : ad = ⟨g', off', none⟩ := Option.some.inj h1
        rw [addr_add]
        exact h6 j x hx
    have hone := flat6_one us6
    have hlenc : (us6.flatMap ReV.cells).length = n6 * 6 := by rw [flat6_len, HUL6.out]
    go_wp2_with (at_builtin; go_loud (refine wpList_append_own_at _ rfl _ _ 26 rfl w1.heap.size 28 i0 _ 6 64 Tryz.underlying26 hi0 hz0 hz1 hz2 rfl (by decide) _ _ _ rfl HL6.out ad n6 cp6 (us6.flatMap ReV.cells) rfl hlenc hcells hone ?c3 ?c4 ?c5 ?_))
    case c3 => unfold maxLen; omega
    case c4 => omega
    case c5 => exact h1w
    intro v7 w7 hown hgrow _ _
    have h7 := HFIN.out v7 w7 hown
    have hb7 : Below w1.heap.size w1 w7 := HB6.out.grown hgrow h1w (own_above HL6.out)
    obtain ⟨q7, cp7, rfl, _⟩ := h7.slice hb7
    have c7 := HCO.out _ _ _ w7 _ h7 hb7
    obtain ⟨n7, hn7⟩ : ∃ n7, n7 = (ofM (unionM F) :: noKind 2 F).length := ⟨_, rfl⟩
    rw [← hn7] at c7 ⊢
    clear hn7
    clear h7 hb7 hown hgrow hcells hone hlenc
    go_wp2_with fail
    ((with_reducible refine c7.mono ?_))
    rintro _ w8 ⟨q8, n8, cp8, us8, rfl, hO8, hb8⟩
    have c8 := sorted_any w8 hO8 hb8 HT1.out (fun t ht => by
        rcases List.mem_append.1 ht with h | h
        · unfold byteM at h
          split at h
          · simp at h
          · simp at h
            subst h
            rw [RT.dep]
            decide
        · exact HFD.out t (List.mem_filter.1 h).1) (fun t ht => by
        rcases List.mem_append.1 ht with h | h
        · unfold byteM at h
          split at h
          · simp at h
          · simp at h
            subst h
            rw [sz_mk]
            decide
        · exact HFS.out t (List.mem_filter.1 h).1) (by
        have h1 : (byteM F).length ≤ 1 := by unfold byteM; split <;> simp
        have h2 : (othersM F).length ≤ F.length := List.length_filter_le _ _
        rw [List.length_append]
        omega)
    have HB8 := Lib.hid hb8
    clear hO8 hb8 c7
    go_wp2_with fail
    ((with_reducible refine c8.mono ?_))
    rintro _ w9 ⟨v9, us9, rfl, hO9, hb9⟩
    have hb19 : Below w1.heap.size w1 w9 := HB8.out.trans hb9
    obtain ⟨q9, cp9, rfl, hk9⟩ := hO9.slice hb19
    have c9 := joined_any w9 4 0 hk9
    have h9D : w9.heap[D]? = some (.cells #[.int .i64 0, .int .u64 0, .int .u64 0, .int .u64 0, .int .u64 0, .slice none 0 0] 28 (0, 0)) := (hb19.block D HDL.out).trans HND.out
    have H9D := Lib.hid h9D
    have HB9 := Lib.hid hb19
    clear hO9 hb9 hb19 hk9 c8 h9D
    go_wp2_with fail
    ((with_reducible refine c9.mono ?_))
    rintro _ w10 ⟨x, rfl, hx, hb10⟩
    obtain ⟨k, a, b, c, d, q10, m, cp10⟩ := x
    have h6D : w10.heap[D]? = some (.cells #[.int .i64 0, .int .u64 0, .int .u64 0, .int .u64 0, .int .u64 0, .slice none 0 0] 28 (0, 0)) := (hb10.block D (Nat.lt_of_lt_of_le HDL.out HB9.out.size)).trans H9D.out
    have H6D := Lib.hid h6D
    have d0 : w10.cell? ⟨D, 0, none⟩ = some (.int .i64 0) := by simp [World.cell?, h6D]
    have d1 : w10.cell? ⟨D, 1, none⟩ = some (.int .u64 0) := by simp [World.cell?, h6D]
    have d2 : w10.cell? ⟨D, 2, none⟩ = some (.int .u64 0) := by simp [World.cell?, h6D]
    have d3 : w10.cell? ⟨D, 3, none⟩ = some (.int .u64 0) := by simp [World.cell?, h6D]
    have d4 : w10.cell? ⟨D, 4, none⟩ = some (.int .u64 0) := by simp [World.cell?, h6D]
    have d5 : w10.cell? ⟨D, 5, none⟩ = some (.slice none 0 0) := by simp [World.cell?, h6D]
    have f0 := frozen_no h6D 0
    have f1 := frozen_no h6D 1
    have f2 := frozen_no h6D 2
    have f3 := frozen_no h6D 3
    have f4 := frozen_no h6D 4
    have f5 := frozen_no h6D 5
    have HX10 := Lib.hid hx
    have HB10 := Lib.hid hb10
    clear hx hb10 h6D c9
    unfold ReV.val
    go_wp2
    refine bodyPost_ret_by (results_cell_row rfl _ _ D 28 #[.int .i64 k, .int .u64 a, .int .u64 b, .int .u64 c, .int .u64 d, .slice q10 m cp10] (0, 0) _ rfl (set6_heap H6D.out _ _ _ _ _ _) Tryz.underlying28 rfl (by kernel_rfl)) rfl ?_
    have hall : Below w.heap.size w w10 := HB1.out.trans ((HB9.out.trans (HB10.out.mono HB9.out.size)).mono HB1.out.size)
    refine ⟨⟨k, a, b, c, d, q10, m, cp10⟩, rfl, ?_, six_set hall (by have := HDD.out; omega) _ _ _ _ _ _⟩
    have e : R = someM 4 0 (putsM (byteM F ++ othersM F)) := by
      rw [HR.out]
      unfold eitherM
      rw [HF.out]
    rw [e]
    refine HX10.out.kept (Keeps.of (by simp [World.setCell]) fun b hp hl => ?_)
    have hbD : b ≠ D := by
      have h1 := HDD.out
      have h2 : w1.heap.size = D + 1 := by rw [HW1.out, h1]; simp
      rcases hp with ⟨_, hp⟩ | hp
      · omega
      · omega
    refine ⟨six_ne hbD _ _ _ _ _ _, ?_⟩
    rcases hp with ⟨hp, _⟩ | hp
    · exact .inl hp
    · exact .inr (Nat.le_trans HB1.out.size hp)

end Go.Proofs.YtclnadjgbpihcaaGreatDoor

/-! What is found out about expressions, in a row: is one of them such? And rows of truths. No condition but size. -/
namespace Go.Proofs.YtclnadjgbpihcaaGreatDoor
open Go.RowKit Go.Lib
set_option linter.unusedVariables false
set_option linter.unusedSimpArgs false

/-- What is left of an expression, and whether it derives the empty text, as they lie in memory. -/
structure FV where
  re : ReV
  nul : Bool
  deriving Inhabited
def FV.cells (x : FV) : List Value := [.int .i64 x.re.kind, .int .u64 x.re.a, .int .u64 x.re.b, .int .u64 x.re.c, .int .u64 x.re.d, .slice x.re.p x.re.n x.re.cap, .bool x.nul]
def FV.val (x : FV) : Value := .agg #[.int .i64 x.re.kind, .int .u64 x.re.a, .int .u64 x.re.b, .int .u64 x.re.c, .int .u64 x.re.d, .slice x.re.p x.re.n x.re.cap, .bool x.nul]
theorem flatF_len (vs : List FV) : (vs.flatMap FV.cells).length = vs.length * 7 := by
  induction vs with
  | nil => rfl
  | cons x vs ih => simp [FV.cells] at ih ⊢; omega
theorem flatF_at (vs : List FV) (i j : Nat) (x : FV) (h : vs[i]? = some x) (hj : j < 7) : (vs.flatMap FV.cells)[i * 7 + j]? = x.cells[j]? := by
  induction vs generalizing i with
  | nil => simp at h
  | cons y vs ih =>
    cases i with
    | zero =>
      simp at h
      subst h
      simp only [List.flatMap_cons, Nat.zero_mul, Nat.zero_add]
      rw [List.getElem?_append_left (by simp [FV.cells]; exact hj)]
    | succ i =>
      simp at h
      have := ih i h
      simp only [List.flatMap_cons]
      rw [List.getElem?_append_right (by simp [FV.cells]; omega), show (i + 1) * 7 + j - (FV.cells y).length = i * 7 + j by simp [FV.cells]; omega]
      exact this
/-- A row of facts. -/
structure RowF (W : World) (P : Nat → Prop) (p : Option Addr) (n cap : Nat) (vs : List FV) : Prop where
  row : RowR W P p n cap (vs.flatMap FV.cells)
  num : n = vs.length
theorem RowF.kept {W W' : World} {P P' : Nat → Prop} {p : Option Addr} {n cap : Nat} {vs : List FV} (h : RowF W P p n cap vs) (hk : Keeps W W' P P') : RowF W' P' p n cap vs := ⟨h.row.kept hk, h.num⟩
theorem RowF.under {W W' : World} {P : Nat → Prop} {p : Option Addr} {n cap : Nat} {vs : List FV} (h : RowF W P p n cap vs) (hb : Below W.heap.size W W') : RowF W' P p n cap vs := h.kept (Keeps.below hb)
theorem RowF.some_of {W : World} {P : Nat → Prop} {p : Option Addr} {n cap : Nat} {vs : List FV} (h : RowF W P p n cap vs) {i : Nat} (hi : i < n) : ∃ g off, p = some ⟨g, off, none⟩ := by
  rcases h.row with ⟨h0, _⟩ | ⟨g', off', h1, _⟩
  · omega
  · exact ⟨g', off', h1⟩
theorem RowF.seven {W : World} {P : Nat → Prop} {g off n cap : Nat} {vs : List FV} (h : RowF W P (some ⟨g, off, none⟩) n cap vs) {i : Nat} {y : FV} (hy : vs[i]? = some y) :
    W.cell? ⟨g, off + i * 7, none⟩ = some (.int .i64 y.re.kind) ∧ W.cell? ⟨g, off + i * 7 + 1, none⟩ = some (.int .u64 y.re.a) ∧ W.cell? ⟨g, off + i * 7 + 2, none⟩ = some (.int .u64 y.re.b) ∧ W.cell? ⟨g, off + i * 7 + 3, none⟩ = some (.int .u64 y.re.c) ∧
    W.cell? ⟨g, off + i * 7 + 4, none⟩ = some (.int .u64 y.re.d) ∧ W.cell? ⟨g, off + i * 7 + 5, none⟩ = some (.slice y.re.p y.re.n y.re.cap) ∧ W.cell? ⟨g, off + i * 7 + 6, none⟩ = some (.bool y.nul) := by
  have hi := (List.getElem?_eq_some_iff.1 hy).1
  rcases h.row with ⟨h0, _⟩ | ⟨g', off', h1, h2, h3, h4, h5, h6⟩
  · have := h.num; omega
  · obtain ⟨rfl, rfl⟩ : g = g' ∧ off = off' := by simp at h1; exact h1
    have key : ∀ (j : Nat) (u : Value), j < 7 → y.cells[j]? = some u → W.cell? ⟨g, off + (i * 7 + j), none⟩ = some u := fun j u hj hu => h6 _ u ((flatF_at vs i j y hy hj).trans hu)
    refine ⟨key 0 _ (by omega) rfl, ?_, ?_, ?_, ?_, ?_, ?_⟩
    · rw [Nat.add_assoc]; exact key 1 _ (by omega) rfl
    · rw [Nat.add_assoc]; exact key 2 _ (by omega) rfl
    · rw [Nat.add_assoc]; exact key 3 _ (by omega) rfl
    · rw [Nat.add_assoc]; exact key 4 _ (by omega) rfl
    · rw [Nat.add_assoc]; exact key 5 _ (by omega) rfl
    · rw [Nat.add_assoc]; exact key 6 _ (by omega) rfl

set_option maxRecDepth 100000 in
set_option maxHeartbeats 1000000 in
theorem isnullable_any (W : World) (x : FV) : Calls Tryz.prog 41 #[x.val] W (GivesBool x.nul W) := by
  unfold FV.val
  go_enter Tryz.func41, Tryz.ntmps41
  go_wp2
  go_ret
  exact ⟨rfl, (Below.refl _ _).alloc (Nat.le_refl _) _⟩
set_option maxRecDepth 100000 in
set_option maxHeartbeats 1000000 in
theorem isnotnullable_any (W : World) (x : FV) : Calls Tryz.prog 42 #[x.val] W (GivesBool (!x.nul) W) := by
  unfold FV.val
  go_enter Tryz.func42, Tryz.ntmps42
  go_wp2
  go_ret
  exact ⟨rfl, (Below.refl _ _).alloc (Nat.le_refl _) _⟩

/-- The place of the first one. -/
def FirstF (q : FV → Bool) (vs : List FV) (r : Int) : Prop :=
  (r = -1 ∧ ∀ y ∈ vs, q y = false) ∨ ∃ (i : Nat) (y : FV), r = (i : Int) ∧ vs[i]? = some y ∧ q y = true ∧ ∀ (j : Nat) (z : FV), j < i → vs[j]? = some z → q z = false
theorem FirstF.any {q : FV → Bool} {vs : List FV} {r : Int} (h : FirstF q vs r) : decide (r ≥ 0) = vs.any q := by
  rcases h with ⟨rfl, h⟩ | ⟨i, y, rfl, hy, hq, _⟩
  · have e : vs.any q = false := by rw [List.any_eq_false]; intro x hx; rw [h x hx]; simp
    rw [e]
    rfl
  · have e : vs.any q = true := List.any_eq_true.2 ⟨y, List.mem_of_getElem? hy, hq⟩
    rw [e]
    simp

set_option maxRecDepth 100000 in
set_option maxHeartbeats 4000000 in
theorem indexF_any (K : Nat) (cs : Array Value) (eg : ∀ args w, (callFunc K args).run Tryz.prog w = .ok (.enter K args) w) (q : FV → Bool) (w : World)
    (hw : ∀ (W : World) (x : FV), Below w.heap.size w W → Calls Tryz.prog K (#[x.val] ++ cs) W (GivesBool (q x) W))
    {P : Nat → Prop} {p : Option Addr} {n cap : Nat} {vs : List FV} (h : RowF w P p n cap vs) (hn : n ≤ 9223372036854775807) :
    Calls Tryz.prog 52 #[.slice p n cap, .func (.func K) #[] cs] w fun e w' => ∃ r, e = .returned (.int .i64 r) ∧ FirstF q vs r ∧ Below w.heap.size w w' := by
  have HW := Lib.hid hw
  have HR := Lib.hid h
  clear hw h
  go_enter Tryz.func52, Tryz.ntmps52
  go_wp2
  go_loopg [8] n (fun gk v wr => ∃ i : Nat, v = .int .i64 (i : Int) ∧ i ≤ n ∧ n - i ≤ gk ∧ Hid (Below w.heap.size w wr) ∧ Hid (∀ (j : Nat) (z : FV), j < i → vs[j]? = some z → q z = false))
  case atStart => exact ⟨0, rfl, by omega, by omega, Below.refl _ _, fun j z hj => by omega⟩
  case round =>
    obtain ⟨i, rfl, hi, hgk, HB, HF⟩ := hrel
    by_cases hlt : i < n
    · have hltz : (i : Int) < (n : Int) := by omega
      obtain ⟨g, off, rfl⟩ := HR.out.some_of hlt
      obtain ⟨y, hy⟩ : ∃ y, vs[i]? = some y := ⟨_, List.getElem?_eq_getElem (by rw [← HR.out.num]; exact hlt)⟩
      obtain ⟨p0, p1, p2, p3, p4, p5, p6⟩ := (HR.out.under HB.out).seven hy
      have hcon := HW.out wr y HB.out
      unfold FV.val at hcon
      obtain ⟨R, hR⟩ : ∃ R, R = q y := ⟨_, rfl⟩
      rw [← hR] at hcon
      have HQ := Lib.hid hR
      have HY := Lib.hid hy
      clear hR hy
      go_wp2_with fail
      ((with_reducible refine hcon.mono ?_))
      rintro _ w2 ⟨rfl, hb2⟩
      have HB2 : Hid (Below w.heap.size w w2) := HB.out.trans (hb2.mono HB.out.size)
      clear hb2 hcon p0 p1 p2 p3 p4 p5 p6
      cases R with
      | true =>
        go_wp2
        go_ret
        exact ⟨_, rfl, .inr ⟨i, y, rfl, HY.out, HQ.out.symm, HF.out⟩, HB2.out⟩
      | false =>
        go_wp2
        go_roundg (n - (i + 1))
        case measure => omega
        case rel =>
          refine ⟨i + 1, by go_num, by omega, Nat.le_refl _, HB2, fun j z hj hz => ?_⟩
          rcases Nat.lt_or_ge j i with h | h
          · exact HF.out j z h hz
          · obtain rfl : j = i := by omega
            have e := HY.out.symm.trans hz
            rw [← Option.some.inj e]
            exact HQ.out.symm
    · have hltz : ¬ (i : Int) < (n : Int) := by omega
      go_wp2
      go_ret
      refine ⟨_, rfl, .inl ⟨rfl, fun y hy => ?_⟩, HB.out⟩
      obtain ⟨j, hj, e⟩ := List.getElem_of_mem hy
      exact HF.out j y (by have := HR.out.num; omega) (by rw [← e]; exact List.getElem?_eq_getElem hj)
theorem containsF_any (K : Nat) (cs : Array Value) (eg : ∀ args w, (callFunc K args).run Tryz.prog w = .ok (.enter K args) w) (q : FV → Bool) (w : World)
    (hw : ∀ (W : World) (x : FV), Below w.heap.size w W → Calls Tryz.prog K (#[x.val] ++ cs) W (GivesBool (q x) W))
    {P : Nat → Prop} {p : Option Addr} {n cap : Nat} {vs : List FV} (h : RowF w P p n cap vs) (hn : n ≤ 9223372036854775807) :
    Calls Tryz.prog 40 #[.slice p n cap, .func (.func K) #[] cs] w (GivesBool (vs.any q) w) := by
  have hcon := indexF_any K cs eg q w hw h hn
  clear hw h
  go_enter Tryz.func40, Tryz.ntmps40
  go_wp2_with fail
  ((with_reducible refine hcon.mono ?_))
  rintro _ w2 ⟨r, rfl, hf, hb⟩
  have HF := Lib.hid hf
  have HB := Lib.hid hb
  clear hf hb hcon
  go_wp2
  go_ret
  refine ⟨?_, HB.out⟩
  rw [HF.out.any]
  exact rfl

/-! ### truths in a row -/
def bcells (l : List Bool) : List Value := l.map Value.bool
structure RowB (W : World) (P : Nat → Prop) (p : Option Addr) (n cap : Nat) (l : List Bool) : Prop where
  row : RowR W P p n cap (bcells l)
  num : n = l.length
theorem RowB.kept {W W' : World} {P P' : Nat → Prop} {p : Option Addr} {n cap : Nat} {l : List Bool} (h : RowB W P p n cap l) (hk : Keeps W W' P P') : RowB W' P' p n cap l := ⟨h.row.kept hk, h.num⟩
theorem RowB.under {W W' : World} {P : Nat → Prop} {p : Option Addr} {n cap : Nat} {l : List Bool} (h : RowB W P p n cap l) (hb : Below W.heap.size W W') : RowB W' P p n cap l := h.kept (Keeps.below hb)
theorem RowB.some_of {W : World} {P : Nat → Prop} {p : Option Addr} {n cap : Nat} {l : List Bool} (h : RowB W P p n cap l) {i : Nat} (hi : i < n) : ∃ g off, p = some ⟨g, off, none⟩ := by
  rcases h.row with ⟨h0, _⟩ | ⟨g', off', h1, _⟩
  · omega
  · exact ⟨g', off', h1⟩
theorem RowB.cell {W : World} {P : Nat → Prop} {g off n cap : Nat} {l : List Bool} (h : RowB W P (some ⟨g, off, none⟩) n cap l) {i : Nat} {y : Bool} (hy : l[i]? = some y) : W.cell? ⟨g, off + i, none⟩ = some (.bool y) := by
  have hi := (List.getElem?_eq_some_iff.1 hy).1
  rcases h.row with ⟨h0, _⟩ | ⟨g', off', h1, h2, h3, h4, h5, h6⟩
  · have := h.num; omega
  · obtain ⟨rfl, rfl⟩ : g = g' ∧ off = off' := by simp at h1; exact h1
    exact h6 i _ (by simp [bcells, hy])
structure IdxB (ks : List Bool) (k : Bool) (r : Int) : Prop where
  is : decide (r ≥ 0) = ks.contains k

set_option maxRecDepth 100000 in
set_option maxHeartbeats 4000000 in
theorem indexb_any (w : World) {P : Nat → Prop} {p : Option Addr} {n cap : Nat} {ks : List Bool} (k : Bool) (h : RowB w P p n cap ks) (hn : n ≤ 9223372036854775807) :
    Calls Tryz.prog 48 #[.slice p n cap, .bool k] w fun e w' => ∃ r : Int, e = .returned (.int .i64 r) ∧ IdxB ks k r ∧ w' = w := by
  have HI := Lib.hid h
  have HN := Lib.hid h.num
  clear h
  go_enter Tryz.func48, Tryz.ntmps48
  go_wp2
  go_loopg [8] n (fun gk v wr => ∃ i : Nat, v = .int .i64 (i : Int) ∧ i ≤ n ∧ n - i ≤ gk ∧ wr = w ∧ Hid (∀ (j : Nat) (z : Bool), j < i → ks[j]? = some z → z ≠ k))
  case atStart => exact ⟨0, rfl, by omega, by omega, rfl, fun j z hj => by omega⟩
  case round =>
    obtain ⟨i, rfl, hi, hgk, rfl, HF⟩ := hrel
    by_cases hlt : i < n
    · have hltz : (i : Int) < (n : Int) := by omega
      obtain ⟨g, off, rfl⟩ := HI.out.some_of hlt
      obtain ⟨y, hy⟩ : ∃ y, ks[i]? = some y := ⟨_, List.getElem?_eq_getElem (by rw [← HN.out]; exact hlt)⟩
      have c0 := HI.out.cell hy
      have HY := Lib.hid hy
      clear hy
      by_cases hk : k = y
      · subst hk
        have hkk : (k == k) = true := by simp
        go_wp2
        go_ret
        refine ⟨_, rfl, ⟨?_⟩, rfl⟩
        have e : ks.contains k = true := by rw [List.contains_iff_mem]; exact List.mem_of_getElem? HY.out
        rw [e]
        simp
      · have hkk : (k == y) = false := by simpa using hk
        have HK := Lib.hid hk
        clear hk
        go_wp2
        go_roundg (n - (i + 1))
        case measure => omega
        case rel =>
          refine ⟨i + 1, by go_num, by omega, Nat.le_refl _, rfl, fun j z hj hz => ?_⟩
          rcases Nat.lt_or_ge j i with h | h
          · exact HF.out j z h hz
          · obtain rfl : j = i := by omega
            have e := HY.out.symm.trans hz
            rw [← Option.some.inj e]
            exact fun h => HK.out h.symm
    · have hltz : ¬ (i : Int) < (n : Int) := by omega
      go_wp2
      go_ret
      refine ⟨_, rfl, ⟨?_⟩, rfl⟩
      have e : ks.contains k = false := by
        rw [Bool.eq_false_iff]
        intro h
        rw [List.contains_iff_mem] at h
        obtain ⟨j, hj, e⟩ := List.getElem_of_mem h
        exact HF.out j k (by have := HN.out; omega) (by rw [← e]; exact List.getElem?_eq_getElem hj) rfl
      rw [e]
      rfl
theorem containsb_any (w : World) {P : Nat → Prop} {p : Option Addr} {n cap : Nat} {ks : List Bool} (k : Bool) (h : RowB w P p n cap ks) (hn : n ≤ 9223372036854775807) :
    Calls Tryz.prog 32 #[.slice p n cap, .bool k] w fun e w' => e = .returned (.bool (ks.contains k)) ∧ w' = w := by
  have hcon := indexb_any w k h hn
  clear h hn
  go_enter Tryz.func32, Tryz.ntmps32
  go_wp2_with fail
  ((with_reducible refine hcon.mono ?_))
  rintro _ _ ⟨r, rfl, hf, rfl⟩
  have HF := Lib.hid hf
  clear hf hcon
  go_wp2
  go_ret
  refine ⟨?_, rfl⟩
  rw [HF.out.is]
  exact rfl

/-! ### by the kind -/
set_option maxRecDepth 100000 in
set_option maxHeartbeats 1000000 in
/-- nullable: by the kind, by whether some kids are, and whether all are. -/
theorem exprnull_any (W : World) (b o : Nat) (x : ReV) (hp : PlaceR W b o x) (s a : Bool) :
    Calls Tryz.prog 31 #[.pointer (some ⟨b, o, none⟩), .bool s, .bool a] W fun e w' => e = .returned (.bool (if x.kind = 1 ∨ x.kind = 5 then true else if x.kind = 3 then a else if x.kind = 4 then s else false)) ∧ W = w' := by
  obtain ⟨c0, _, _, _, _, c5⟩ := hp.six
  obtain ⟨k, hk⟩ : ∃ k, k = x.kind := ⟨_, rfl⟩
  rw [← hk] at c0 ⊢
  clear hk hp c5
  by_cases k1 : k = 1
  · subst k1
    go_enter Tryz.func31, Tryz.ntmps31
    go_wp2
    go_ret
    exact ⟨rfl, rfl⟩
  by_cases k5 : k = 5
  · subst k5
    go_enter Tryz.func31, Tryz.ntmps31
    go_wp2
    go_ret
    exact ⟨rfl, rfl⟩
  by_cases k3 : k = 3
  · subst k3
    go_enter Tryz.func31, Tryz.ntmps31
    go_wp2
    go_ret
    exact ⟨rfl, rfl⟩
  by_cases k4 : k = 4
  · subst k4
    go_enter Tryz.func31, Tryz.ntmps31
    go_wp2
    go_ret
    exact ⟨rfl, rfl⟩
  have q1 : (k == 1) = false := by simpa using k1
  have q5 : (k == 5) = false := by simpa using k5
  have q3 : (k == 3) = false := by simpa using k3
  have q4 : (k == 4) = false := by simpa using k4
  have e : (if k = 1 ∨ k = 5 then true else if k = 3 then a else if k = 4 then s else false) = false := by simp [k1, k5, k3, k4]
  rw [e]
  clear e k1 k5 k3 k4
  go_enter Tryz.func31, Tryz.ntmps31
  go_wp2
  go_ret
  exact ⟨rfl, rfl⟩

end Go.Proofs.YtclnadjgbpihcaaGreatDoor

/-! The law's numbers that are taken one by one. No condition. -/
namespace Go.Proofs.YtclnadjgbpihcaaGreatDoor
open Go.RowKit Go.Lib
set_option linter.unusedVariables false
set_option linter.unusedSimpArgs false

theorem grown_refl (w : World) (row : Option Nat) : w.grownBy w row := ⟨rfl, rfl, rfl, Nat.le_refl _, fun _ _ _ => rfl⟩

theorem grown_drew {w w' : World} {row : Option Nat} (h : w.grownBy w' row) (n : Nat) : w.grownBy (w'.drewN n) row := ⟨h.os, h.tape, h.output, h.size, h.block⟩

theorem grown_alloc {w w' : World} {row : Option Nat} (h : w.grownBy w' row) (o : Obj) : w.grownBy (w'.alloc o) row := h.trans (World.grownBy_alloc w' o row)

theorem grown_set {w w' : World} {R : Nat} (h : w.grownBy w' (some R)) (k : Nat) (v : Value) : w.grownBy (w'.setCell ⟨R, k, none⟩ v) (some R) :=
  h.trans ⟨rfl, rfl, rfl, by simp [World.setCell], fun i _ hi => Below.heap_setCell _ _ _ _ (fun e => hi (by rw [e]))⟩

theorem grown_below {w w1 w' : World} {row : Option Nat} (h : w.grownBy w1 row) (hb : Below w1.heap.size w1 w') : w.grownBy w' row :=
  h.trans ⟨hb.os, hb.tape, hb.output, hb.size, fun k hk _ => hb.block k hk⟩

/-- A slice of bytes that reads so, in a block below R. -/
def BytesLow (W : World) (R : Nat) (v : Value) (zs : List Int) : Prop :=
  ∃ a cap, v = .slice a zs.length cap ∧ zs.length ≤ cap ∧ zs.length ≤ maxLen ∧ (∀ z ∈ zs, 0 ≤ z ∧ z ≤ 255) ∧
    (0 < zs.length → ∃ b off, a = some ⟨b, off, none⟩ ∧ b < R ∧ ∀ (i : Nat) (z : Int), zs[i]? = some z → W.cell? ⟨b, off + i, none⟩ = some (.int .u8 z))

theorem BytesLow.kept {W W' : World} {R : Nat} {v : Value} {zs : List Int} (h : BytesLow W R v zs) (hk : ∀ b, b < R → W'.heap[b]? = W.heap[b]?) : BytesLow W' R v zs := by
  obtain ⟨a, cap, h1, h2, h3, h4, h5⟩ := h
  refine ⟨a, cap, h1, h2, h3, h4, fun hn => ?_⟩
  obtain ⟨b, off, ha, hlt, hc⟩ := h5 hn
  refine ⟨b, off, ha, hlt, fun i z hz => ?_⟩
  rw [World.cell?_of_block (w := W) (hk b hlt)]
  exact hc i z hz

/-- The picker in block R: the slice of numbers, and how many are taken. -/
def PickAt (W : World) (R : Nat) (v : Value) (zs : List Int) (a : Nat) : Prop :=
  W.heap[R]? = some (.cells #[v, .int .i64 a] 40 (0, 0)) ∧ BytesLow W R v zs

theorem PickAt.lt {W : World} {R a : Nat} {v : Value} {zs : List Int} (h : PickAt W R v zs a) : R < W.heap.size := (Array.getElem?_eq_some_iff.1 h.1).1
theorem PickAt.kept {W W' : World} {R a : Nat} {v : Value} {zs : List Int} (h : PickAt W R v zs a) (hk : ∀ b, b ≤ R → W'.heap[b]? = W.heap[b]?) : PickAt W' R v zs a :=
  ⟨(hk R (Nat.le_refl _)).trans h.1, h.2.kept (fun b hb => hk b (Nat.le_of_lt hb))⟩
theorem PickAt.grown {W W' : World} {R a : Nat} {row : Option Nat} {v : Value} {zs : List Int} (h : PickAt W R v zs a) (hg : W.grownBy W' row) (hr : ∀ k, row = some k → R < k) : PickAt W' R v zs a :=
  h.kept (fun b hb => hg.block b (by have := h.lt; omega) (fun e => by have := hr b e.symm; omega))
theorem PickAt.below {W W' : World} {R a : Nat} {v : Value} {zs : List Int} (h : PickAt W R v zs a) (hb : Below W.heap.size W W') : PickAt W' R v zs a :=
  h.kept (fun b hl => hb.block b (by have := h.lt; omega))
theorem PickAt.alloc {W : World} {R a : Nat} {v : Value} {zs : List Int} (h : PickAt W R v zs a) (o : Obj) : PickAt (W.alloc o) R v zs a := h.below ((Below.refl _ _).alloc (Nat.le_refl _) o)
theorem PickAt.cells {W : World} {R a : Nat} {v : Value} {zs : List Int} (h : PickAt W R v zs a) : W.cell? ⟨R, 0, none⟩ = some v ∧ W.cell? ⟨R, 1, none⟩ = some (.int .i64 a) ∧ W.frozen? ⟨R, 0, none⟩ = false ∧ W.frozen? ⟨R, 1, none⟩ = false := by
  obtain ⟨h, _⟩ := h
  simp [World.cell?, World.frozen?, h]
theorem PickAt.set {W : World} {R a : Nat} {v : Value} {zs : List Int} (h : PickAt W R v zs a) (n : Nat) : PickAt (W.setCell ⟨R, 1, none⟩ (.int .i64 n)) R v zs n := by
  refine ⟨?_, h.2.kept (fun b hb => Below.heap_setCell _ _ _ _ (by show b ≠ R; omega))⟩
  have h0 := h.1
  unfold World.setCell
  simp only [Array.getElem?_modify, h0]
  simp

/-- Which number it is. -/
def pickF (zs : List Int) (a : Nat) (n : Int) : Nat := if zs.length < a + 1 ∨ 150 < a + 1 then 0 else (zs.getD a 0 % n).toNat
theorem pickF_lt (zs : List Int) (a : Nat) {n : Int} (hn : 1 ≤ n) : (pickF zs a n : Int) < n := by
  unfold pickF
  split
  · simp; omega
  · have h1 := Int.emod_nonneg (zs.getD a 0) (b := n) (by omega)
    have h2 := Int.emod_lt_of_pos (zs.getD a 0) (b := n) (by omega)
    omega

/-- The call answers that number, and has taken one more. -/
def Picks (R : Nat) (v : Value) (zs : List Int) (a : Nat) (n : Int) (w : World) (e : Ending) (w' : World) : Prop :=
  e = .returned (.int .i64 (pickF zs a n : Int)) ∧ PickAt w' R v zs (a + 1) ∧ w.grownBy w' (some R)

set_option maxRecDepth 100000 in
set_option maxHeartbeats 1000000 in
theorem picknum_any {R a : Nat} {n : Int} {v : Value} {zs : List Int} {W : World} (h : PickAt W R v zs a) (ha : a ≤ 1000000) (hn : 1 ≤ n ∧ n ≤ 255) :
    Calls Tryz.prog 22 #[.pointer (some ⟨R, 0, none⟩), .int .i64 n] W (Picks R v zs a n W) := by
  obtain ⟨c0, c1, f0, f1⟩ := h.cells
  have hs := h.set (a + 1)
  have hg : W.grownBy (W.setCell ⟨R, 1, none⟩ (.int .i64 ((a + 1 : Nat) : Int))) (some R) := grown_set (grown_refl W _) _ _
  have hcast : ((a + 1 : Nat) : Int) = (a : Int) + 1 := by omega
  obtain ⟨d0, d1, g0, g1⟩ := hs.cells
  obtain ⟨p, cap, rfl, hcap, hmax, hrange, hcells⟩ := h.2
  unfold maxLen at hmax
  rw [hcast] at hs hg d0 d1 g0 g1
  have HS := Lib.hid hs
  have HG := Lib.hid hg
  clear hs hg h
  by_cases hlt : zs.length < a + 1
  · have q1 : decide ((zs.length : Int) < (a : Int) + 1) = true := decide_eq_true (by omega)
    have HF : Hid ((pickF zs a n : Int) = 0) := by unfold Hid; unfold pickF; rw [if_pos (.inl hlt)]; rfl
    go_enter Tryz.func22, Tryz.ntmps22
    go_wp2_with fail
    go_quiet (fail)
    go_wp2_with fail
    go_ret
    exact ⟨by rw [HF.out]; rfl, HS.out, grown_drew HG.out _⟩
  · have q1 : decide ((zs.length : Int) < (a : Int) + 1) = false := decide_eq_false (by omega)
    by_cases h150 : 150 < a + 1
    · have q2 : decide ((150 : Int) < (a : Int) + 1) = true := decide_eq_true (by omega)
      have HF : Hid ((pickF zs a n : Int) = 0) := by unfold Hid; unfold pickF; rw [if_pos (.inr h150)]; rfl
      go_enter Tryz.func22, Tryz.ntmps22
      go_wp2_with fail
      go_quiet (fail)
      go_wp2_with fail
      go_ret
      exact ⟨by rw [HF.out]; rfl, HS.out, grown_drew HG.out _⟩
    · have q2 : decide ((150 : Int) < (a : Int) + 1) = false := decide_eq_false (by omega)
      obtain ⟨b, off, rfl, hbR, hc⟩ := hcells (by omega)
      obtain ⟨z, hz⟩ : ∃ z, zs[a]? = some z := ⟨_, List.getElem?_eq_getElem (by omega)⟩
      have hz0 := hrange z (List.mem_of_getElem? hz)
      have e0 := hc a z hz
      have HF : Hid ((pickF zs a n : Int) = z % n) := by
        unfold Hid
        unfold pickF
        rw [if_neg (fun h => h.elim hlt h150), List.getD_eq_getElem?_getD, hz]
        exact Int.toNat_of_nonneg (Int.emod_nonneg _ (by omega))
      go_enter Tryz.func22, Tryz.ntmps22
      go_wp2_with fail
      go_quiet (fail)
      go_wp2_with fail
      go_quiet (fail)
      go_wp2_with fail
      go_ret
      exact ⟨by rw [HF.out]; rfl, HS.out, grown_drew (grown_drew HG.out _) _⟩

end Go.Proofs.YtclnadjgbpihcaaGreatDoor

/-! What the laws' expressions by numbers are; how big they are; that what is made of right ones is right. No condition. -/
namespace Go.Proofs.YtclnadjgbpihcaaGreatDoor
open Go.Lib
set_option linter.unusedVariables false
set_option linter.unusedSimpArgs false

/-! ### sizes and depths -/
theorem sum_append (l m : List RT) : ((l ++ m).map RT.sz).sum = (l.map RT.sz).sum + (m.map RT.sz).sum := by rw [List.map_append, List.sum_append]
theorem sum_filter (p : RT → Bool) (l : List RT) : ((l.filter p).map RT.sz).sum ≤ (l.map RT.sz).sum := by
  induction l with
  | nil => simp
  | cons a l ih =>
    rw [List.filter_cons]
    split
    · simp only [List.map_cons, List.sum_cons]; omega
    · simp only [List.map_cons, List.sum_cons]; omega
theorem sum_flat (k : Int) (l : List RT) : ((flatM k l).map RT.sz).sum ≤ (l.map RT.sz).sum := by
  induction l with
  | nil => simp [flatM]
  | cons a l ih =>
    have e : flatM k (a :: l) = (if a.kind = k then a.kids else [a]) ++ flatM k l := by simp [flatM]
    rw [e, sum_append]
    simp only [List.map_cons, List.sum_cons]
    split
    · obtain ⟨k', s, kids⟩ := a
      rw [sz_mk]
      show (kids.map RT.sz).sum + _ ≤ _
      omega
    · simp only [List.map_cons, List.map_nil, List.sum_cons, List.sum_nil]; omega
theorem sum_putL (r : RT) : ∀ (p : Bool) (l : List RT), ((putL txt r p l).map RT.sz).sum ≤ (l.map RT.sz).sum + r.sz
  | true, [] => by simp [putL]
  | false, [] => by simp [putL]
  | p, a :: l => by
    have i1 := sum_putL r true l
    have i2 := sum_putL r p l
    have e : putL txt r true l = l := putL_true r l
    rw [putL]
    split
    · simp only [List.map_cons, List.sum_cons]; omega
    · split
      · rw [e]; simp only [List.map_cons, List.sum_cons]; omega
      · simp only [List.map_cons, List.sum_cons]; omega
theorem sum_puts (L : List RT) : ((putsM L).map RT.sz).sum ≤ (L.map RT.sz).sum := by
  have h : ∀ (L o : List RT), ((L.foldl (fun o r => putL txt r false o) o).map RT.sz).sum ≤ (o.map RT.sz).sum + (L.map RT.sz).sum := by
    intro L
    induction L with
    | nil => intro o; simp
    | cons a L ih =>
      intro o
      have h1 := ih (putL txt a false o)
      have h2 := sum_putL a false o
      simp only [List.foldl_cons, List.map_cons, List.sum_cons]
      omega
  have := h L []
  simpa [putsM] using this
theorem sz_some (k e : Int) (l : List RT) : (someM k e l).sz ≤ 1 + (l.map RT.sz).sum := by
  match l with
  | [] => rw [someM, sz_mk]; simp
  | [x] => simp only [someM, List.map_cons, List.map_nil, List.sum_cons, List.sum_nil]; omega
  | x :: y :: l => rw [someM, sz_mk]; exact Nat.le_refl _
theorem sz_cat (l : List RT) : (catM l).sz ≤ 1 + (l.map RT.sz).sum := by
  unfold catM
  split
  · unfold noneM; rw [sz_mk]; simp
  · have h1 := sz_some 3 1 ((flatM 3 l).filter fun r => !(r.kind == 1))
    have h2 := sum_filter (fun r => !(r.kind == 1)) (flatM 3 l)
    have h3 := sum_flat 3 l
    omega
theorem sz_either (l : List RT) : (eitherM l).sz ≤ 2 + (l.map RT.sz).sum := by
  unfold eitherM
  have h1 := sz_some 4 0 (putsM (byteM (flatM 4 l) ++ othersM (flatM 4 l)))
  have h2 := sum_puts (byteM (flatM 4 l) ++ othersM (flatM 4 l))
  rw [sum_append] at h2
  have h3 : ((othersM (flatM 4 l)).map RT.sz).sum ≤ ((flatM 4 l).map RT.sz).sum := sum_filter _ _
  have h4 := sum_flat 4 l
  have h5 : ((byteM (flatM 4 l)).map RT.sz).sum ≤ 1 := by
    unfold byteM
    split
    · simp
    · simp [sz_mk]
  omega
theorem sz_star (t : RT) : (starM t).sz ≤ 1 + t.sz := by
  unfold starM
  split
  · unfold emptyM; rw [sz_mk]; simp
  · split
    · omega
    · rw [sz_mk]; simp
theorem kid_dep {y x : RT} (h : x ∈ y.kids) : x.dep < y.dep := by
  obtain ⟨k, s, kids⟩ := y
  have h1 : (RT.mk k s kids).dep = ((RT.mk k s kids).dep - 1) + 1 := by have := dep_pos (RT.mk k s kids); omega
  have := dep_mk.1 (Nat.le_of_eq h1) x h
  have := dep_pos (RT.mk k s kids)
  omega
theorem dep_leaf (k : Int) (s : W4) : (RT.mk k s []).dep = 1 := by rw [RT.dep]; rfl
theorem dep_some {k e : Int} {l : List RT} {n : Nat} (h : ∀ t ∈ l, t.dep ≤ n) : (someM k e l).dep ≤ n + 1 := by
  match l with
  | [] => rw [someM, dep_leaf]; omega
  | [x] => have := h x (by simp); show x.dep ≤ _; omega
  | x :: y :: l => exact dep_mk.2 h
theorem dep_flat {k : Int} {l : List RT} {n : Nat} (h : ∀ t ∈ l, t.dep ≤ n) : ∀ t ∈ flatM k l, t.dep ≤ n := by
  intro t ht
  rcases flat_mem ht with ⟨h1, _⟩ | ⟨y, hy, _, hx⟩
  · exact h t h1
  · have := kid_dep hx
    have := h y hy
    omega
theorem dep_cat {l : List RT} {n : Nat} (h : ∀ t ∈ l, t.dep ≤ n) : (catM l).dep ≤ n + 1 := by
  unfold catM
  split
  · unfold noneM; rw [dep_leaf]; omega
  · exact dep_some fun t ht => dep_flat h t (List.mem_filter.1 ht).1
theorem dep_either {l : List RT} {n : Nat} (hn : 1 ≤ n) (h : ∀ t ∈ l, t.dep ≤ n) : (eitherM l).dep ≤ n + 1 := by
  unfold eitherM
  refine dep_some fun t ht => ?_
  rcases List.mem_append.1 ((puts_asc _).2 t ht) with h1 | h1
  · unfold byteM at h1
    split at h1
    · simp at h1
    · simp at h1; subst h1; rw [dep_leaf]; exact hn
  · exact dep_flat h t (List.mem_filter.1 h1).1
theorem dep_star {t : RT} {n : Nat} (h : t.dep ≤ n) : (starM t).dep ≤ n + 1 := by
  unfold starM
  split
  · unfold emptyM; rw [dep_leaf]; omega
  · split
    · omega
    · exact dep_mk.2 (by simpa using h)

/-! ### right ones -/
def good (t : RT) : Prop := formA t ∧ ascM t
theorem good_mk {k : Int} {s : W4} {kids : List RT} : good (.mk k s kids) ↔ formP (.mk k s kids) ∧ (k = 4 → Asc txt kids) ∧ ∀ t ∈ kids, good t := by
  unfold good
  rw [form_mk, asc_mk]
  constructor
  · rintro ⟨⟨h1, h2⟩, h3, h4⟩
    exact ⟨h1, h3, fun t ht => ⟨h2 t ht, h4 t ht⟩⟩
  · rintro ⟨h1, h2, h3⟩
    exact ⟨⟨h1, fun t ht => (h3 t ht).1⟩, h2, fun t ht => (h3 t ht).2⟩
theorem good_kid {y x : RT} (h : good y) (hx : x ∈ y.kids) : good x := by
  obtain ⟨k, s, kids⟩ := y
  exact (good_mk.1 h).2.2 x hx
theorem good_none : good noneM := good_mk.2 ⟨⟨⟨fun _ => by decide, fun _ => rfl⟩, .inl ⟨.inl rfl, rfl⟩⟩, fun h => absurd h (by decide), fun t ht => by simp at ht⟩
theorem good_empty : good emptyM := good_mk.2 ⟨⟨⟨fun _ => by decide, fun _ => rfl⟩, .inl ⟨.inr (.inl rfl), rfl⟩⟩, fun h => absurd h (by decide), fun t ht => by simp at ht⟩
theorem good_byte {s : W4} (h : s ≠ W4.zero) : good (.mk 2 s []) := good_mk.2 ⟨⟨⟨fun e => absurd e h, fun e => absurd rfl e⟩, .inl ⟨.inr (.inr rfl), rfl⟩⟩, fun h => absurd h (by decide), fun t ht => by simp at ht⟩
theorem good_flat {k : Int} {l : List RT} (h : ∀ t ∈ l, good t) : ∀ t ∈ flatM k l, good t := by
  intro t ht
  rcases flat_mem ht with ⟨h1, _⟩ | ⟨y, hy, _, hx⟩
  · exact h t h1
  · exact good_kid (h y hy) hx
/-- Of what is of the kind the kids are of another one. -/
theorem flat_kinds {k : Int} {l : List RT} (hk : k = 3 ∨ k = 4) (h : ∀ t ∈ l, good t) : ∀ t ∈ flatM k l, t.kind ≠ k := by
  intro t ht
  rcases flat_mem ht with ⟨_, h1⟩ | ⟨y, hy, hky, hx⟩
  · exact h1
  · have hg := h y hy
    obtain ⟨k', s, kids⟩ := y
    simp only [RT.kind] at hky
    subst hky
    obtain ⟨⟨_, hf⟩, _⟩ := good_mk.1 hg
    rcases hf with ⟨e, _⟩ | ⟨e, _⟩ | ⟨e, _, h3⟩ | ⟨e, _, h3, _⟩
    · omega
    · omega
    · rw [e]; exact (h3 t hx).2.2
    · rw [e]; exact (h3 t hx).2
theorem good_cat {l : List RT} (h : ∀ t ∈ l, good t) : good (catM l) := by
  unfold catM
  split
  · exact good_none
  · rename_i hn
    have hg : ∀ t ∈ (flatM 3 l).filter (fun r => !(r.kind == 1)), good t := fun t ht => good_flat h t (List.mem_filter.1 ht).1
    have h3 : ∀ t ∈ (flatM 3 l).filter (fun r => !(r.kind == 1)), t.kind ≠ 3 := fun t ht => flat_kinds (.inl rfl) h t (List.mem_filter.1 ht).1
    have h1 : ∀ t ∈ (flatM 3 l).filter (fun r => !(r.kind == 1)), t.kind ≠ 1 := fun t ht => by simpa using (List.mem_filter.1 ht).2
    have h0 : ∀ t ∈ (flatM 3 l).filter (fun r => !(r.kind == 1)), t.kind ≠ 0 := fun t ht e => hn (List.any_eq_true.2 ⟨t, (List.mem_filter.1 ht).1, by simp [e]⟩)
    generalize (flatM 3 l).filter (fun r => !(r.kind == 1)) = L at hg h3 h1 h0
    match L with
    | [] => exact good_empty
    | [x] => exact hg x (by simp)
    | x :: y :: L => exact good_mk.2 ⟨⟨⟨fun _ => by decide, fun _ => rfl⟩, .inr (.inr (.inl ⟨rfl, by simp, fun t ht => ⟨h0 t ht, h1 t ht, h3 t ht⟩⟩))⟩, fun e => absurd e (by decide), hg⟩
theorem good_either {l : List RT} (h : ∀ t ∈ l, good t) : good (eitherM l) := by
  unfold eitherM
  obtain ⟨p1, p2⟩ := puts_asc (byteM (flatM 4 l) ++ othersM (flatM 4 l))
  have hb : ∀ t ∈ byteM (flatM 4 l), t = .mk 2 (unionM (flatM 4 l)) [] ∧ unionM (flatM 4 l) ≠ W4.zero := fun t ht => by
    unfold byteM at ht
    split at ht
    · simp at ht
    · simp at ht; exact ⟨ht, by assumption⟩
  have hg : ∀ t ∈ putsM (byteM (flatM 4 l) ++ othersM (flatM 4 l)), good t ∧ t.kind ≠ 0 ∧ t.kind ≠ 4 ∧ (t.kind = 2 → t = .mk 2 (unionM (flatM 4 l)) []) := fun t ht => by
    rcases List.mem_append.1 (p2 t ht) with h1 | h1
    · obtain ⟨e, hz⟩ := hb t h1
      subst e
      exact ⟨good_byte hz, by show (2 : Int) ≠ 0; decide, by show (2 : Int) ≠ 4; decide, fun _ => rfl⟩
    · obtain ⟨h2, h3⟩ := List.mem_filter.1 h1
      simp at h3
      exact ⟨good_flat h t h2, h3.1, flat_kinds (.inr rfl) h t h2, fun e => absurd e h3.2⟩
  generalize putsM (byteM (flatM 4 l) ++ othersM (flatM 4 l)) = L at p1 hg
  match L with
  | [] => exact good_none
  | [x] => exact (hg x (by simp)).1
  | x :: y :: L =>
    refine good_mk.2 ⟨⟨⟨fun _ => by decide, fun _ => rfl⟩, .inr (.inr (.inr ⟨rfl, by simp, fun t ht => ⟨(hg t ht).2.1, (hg t ht).2.2.1⟩, ?_⟩))⟩, fun _ => p1, fun t ht => (hg t ht).1⟩
    refine p1.imp_of_mem fun {a b} ha hb hab => fun ⟨k1, k2⟩ => ?_
    rw [(hg a ha).2.2.2 k1, (hg b hb).2.2.2 k2] at hab
    exact tlt_irrefl _ hab
theorem good_star {t : RT} (h : good t) : good (starM t) := by
  unfold starM
  split
  · exact good_empty
  · rename_i h1
    split
    · exact h
    · rename_i h2
      exact good_mk.2 ⟨⟨⟨fun _ => by decide, fun _ => rfl⟩, .inr (.inl ⟨rfl, rfl, fun u hu => by
        simp at hu; subst hu
        exact ⟨fun e => h1 (.inl e), fun e => h1 (.inr e), h2⟩⟩)⟩, fun e => absurd e (by decide), fun u hu => by simp at hu; subst hu; exact h⟩
theorem good_of (s : W4) : good (ofM s) := by
  unfold ofM
  split
  · exact good_none
  · exact good_byte (by assumption)
theorem good_right {t : RT} (h : good t) (ho : t.ok) : rightM t := form_right t ho h.1 h.2

/-! ### expressions by numbers -/
def letF (lo hi : Int) (b : Nat) : Bool := decide (lo ≤ (b : Int) ∧ (b : Int) ≤ hi)
def letM (lo hi : Int) : RT := .mk 2 (W4.of (letF lo hi)) []
theorem good_let {lo hi : Int} (h0 : 0 ≤ lo) (h1 : lo ≤ hi) (h2 : lo < 256) : good (letM lo hi) := by
  refine good_byte fun e => ?_
  have := (of_zero _).1 e lo.toNat (by omega)
  unfold letF at this
  have h3 : ((lo.toNat : Nat) : Int) = lo := by omega
  rw [h3] at this
  simp at this
  omega
def leafM (zs : List Int) (k a : Nat) : RT × Nat :=
  if k < 4 then (letM (97 + (pickF zs a 3 : Int)) (97 + (pickF zs a 3 : Int) + (pickF zs (a + 1) 4 : Int) / 3), a + 2) else (.mk ((pickF zs a 4 : Int) / 3) W4.zero [], a + 1)
def listR (f : Nat → RT × Nat) : Nat → Nat → List RT × Nat
  | 0, a => ([], a)
  | n + 1, a => ((listR f n a).1 ++ [(f (listR f n a).2).1], (f (listR f n a).2).2)
noncomputable def reM (zs : List Int) : Nat → Nat → RT × Nat
  | 0, a => leafM zs (pickF zs a 11 % 5) (a + 1)
  | d + 1, a =>
    if pickF zs a 11 < 5 then leafM zs (pickF zs a 11) (a + 1)
    else if pickF zs a 11 < 7 then (starM (reM zs d (a + 1)).1, (reM zs d (a + 1)).2)
    else if pickF zs a 11 < 9 then (catM (listR (reM zs d) (1 + pickF zs (a + 1) 3) (a + 2)).1, (listR (reM zs d) (1 + pickF zs (a + 1) 3) (a + 2)).2)
    else (eitherM (listR (reM zs d) (1 + pickF zs (a + 1) 3) (a + 2)).1, (listR (reM zs d) (1 + pickF zs (a + 1) 3) (a + 2)).2)
noncomputable def fewM (zs : List Int) : List RT := (listR (reM zs 3) (pickF zs 0 5) 1).1
/-- What holds of each that is made so. -/
theorem listR_all {Q : RT → Prop} {f : Nat → RT × Nat} (h : ∀ a, Q (f a).1) : ∀ n a, ∀ t ∈ (listR f n a).1, Q t
  | 0, a, t, ht => by simp [listR] at ht
  | n + 1, a, t, ht => by
    rw [listR] at ht
    rcases List.mem_append.1 ht with h1 | h1
    · exact listR_all h n a t h1
    · simp at h1; subst h1; exact h _
theorem listR_len (f : Nat → RT × Nat) : ∀ n a, (listR f n a).1.length = n
  | 0, a => rfl
  | n + 1, a => by rw [listR, List.length_append, listR_len f n a]; rfl
theorem listR_sum {f : Nat → RT × Nat} {B : Nat} (h : ∀ a, (f a).1.sz ≤ B) : ∀ n a, ((listR f n a).1.map RT.sz).sum ≤ n * B
  | 0, a => by simp [listR]
  | n + 1, a => by
    have h1 := listR_sum h n a
    have h2 := h (listR f n a).2
    rw [listR, sum_append, Nat.add_mul]
    simp only [List.map_cons, List.map_nil, List.sum_cons, List.sum_nil]
    omega
theorem listR_num {f : Nat → RT × Nat} {B : Nat} (h : ∀ a, a ≤ (f a).2 ∧ (f a).2 ≤ a + B) : ∀ n a, a ≤ (listR f n a).2 ∧ (listR f n a).2 ≤ a + n * B
  | 0, a => by simp [listR]
  | n + 1, a => by
    have h1 := listR_num h n a
    have h2 := h (listR f n a).2
    rw [listR, Nat.add_mul]
    constructor
    · show a ≤ (f (listR f n a).2).2
      omega
    · show (f (listR f n a).2).2 ≤ _
      omega
theorem pick3 (zs : List Int) (a : Nat) : pickF zs a 3 ≤ 2 := by have := pickF_lt zs a (n := 3) (by decide); omega
theorem pick4 (zs : List Int) (a : Nat) : pickF zs a 4 ≤ 3 := by have := pickF_lt zs a (n := 4) (by decide); omega
theorem leaf_facts (zs : List Int) (k a : Nat) : good (leafM zs k a).1 ∧ (leafM zs k a).1.sz = 1 ∧ (leafM zs k a).1.dep = 1 ∧ a ≤ (leafM zs k a).2 ∧ (leafM zs k a).2 ≤ a + 2 := by
  have h3 := pick3 zs a
  have h4 := pick4 zs a
  have h5 := pick4 zs (a + 1)
  unfold leafM
  split
  · refine ⟨good_let (by omega) (by omega) (by omega), ?_, dep_leaf _ _, by simp, by simp⟩
    unfold letM
    rw [sz_mk]
    rfl
  · refine ⟨?_, by rw [sz_mk]; rfl, dep_leaf _ _, by simp, by simp⟩
    have : (pickF zs a 4 : Int) / 3 = 0 ∨ (pickF zs a 4 : Int) / 3 = 1 := by omega
    rcases this with e | e
    · rw [e]; exact good_none
    · rw [e]; exact good_empty
theorem re_facts (zs : List Int) : ∀ d a, good (reM zs d a).1 ∧ (reM zs d a).1.sz ≤ 8 ^ d ∧ (reM zs d a).1.dep ≤ d + 1 ∧ a ≤ (reM zs d a).2 ∧ (reM zs d a).2 ≤ a + 8 ^ (d + 1)
  | 0, a => by
    obtain ⟨h1, h2, h3, h4, h5⟩ := leaf_facts zs (pickF zs a 11 % 5) (a + 1)
    rw [reM]
    exact ⟨h1, by omega, by omega, by omega, by omega⟩
  | d + 1, a => by
    have ih := re_facts zs d
    have hp : 1 ≤ 8 ^ d := Nat.pow_pos (by decide)
    have e1 : 8 ^ (d + 1) = 8 * 8 ^ d := by rw [Nat.pow_succ, Nat.mul_comm]
    have e2 : 8 ^ (d + 1 + 1) = 64 * 8 ^ d := by rw [Nat.pow_succ, e1]; omega
    rw [reM]
    split
    · obtain ⟨h1, h2, h3, h4, h5⟩ := leaf_facts zs (pickF zs a 11) (a + 1)
      exact ⟨h1, by omega, by omega, by omega, by omega⟩
    · split
      · obtain ⟨h1, h2, h3, h4, h5⟩ := ih (a + 1)
        have := sz_star (reM zs d (a + 1)).1
        refine ⟨good_star h1, ?_, dep_star h3, ?_, ?_⟩
        · show (starM _).sz ≤ _; omega
        · show a ≤ (reM zs d (a + 1)).2; omega
        · show (reM zs d (a + 1)).2 ≤ _; omega
      · have h3 := pick3 zs (a + 1)
        have hn := listR_num (f := reM zs d) (B := 8 ^ (d + 1)) (fun a => ⟨(ih a).2.2.2.1, (ih a).2.2.2.2⟩) (1 + pickF zs (a + 1) 3) (a + 2)
        have hs := listR_sum (f := reM zs d) (B := 8 ^ d) (fun a => (ih a).2.1) (1 + pickF zs (a + 1) 3) (a + 2)
        have hg := listR_all (Q := good) (f := reM zs d) (fun a => (ih a).1) (1 + pickF zs (a + 1) 3) (a + 2)
        have hd := listR_all (Q := fun t => t.dep ≤ d + 1) (f := reM zs d) (fun a => (ih a).2.2.1) (1 + pickF zs (a + 1) 3) (a + 2)
        have hs' : ((listR (reM zs d) (1 + pickF zs (a + 1) 3) (a + 2)).1.map RT.sz).sum ≤ 3 * 8 ^ d := Nat.le_trans hs (Nat.mul_le_mul_right _ (by omega))
        have hn' : (listR (reM zs d) (1 + pickF zs (a + 1) 3) (a + 2)).2 ≤ a + 2 + 3 * 8 ^ (d + 1) := Nat.le_trans hn.2 (Nat.add_le_add_left (Nat.mul_le_mul_right _ (by omega)) _)
        have hn1 := hn.1
        have c1 := sz_cat (listR (reM zs d) (1 + pickF zs (a + 1) 3) (a + 2)).1
        have c2 := sz_either (listR (reM zs d) (1 + pickF zs (a + 1) 3) (a + 2)).1
        split
        · refine ⟨good_cat hg, ?_, dep_cat hd, ?_, ?_⟩
          · show (catM _).sz ≤ _; omega
          · show a ≤ (listR _ _ _).2; omega
          · show (listR _ _ _).2 ≤ _; omega
        · refine ⟨good_either hg, ?_, dep_either (by omega) hd, ?_, ?_⟩
          · show (eitherM _).sz ≤ _; omega
          · show a ≤ (listR _ _ _).2; omega
          · show (listR _ _ _).2 ≤ _; omega
theorem few_facts (zs : List Int) : (fewM zs).length ≤ 4 ∧ (∀ t ∈ fewM zs, good t ∧ t.sz ≤ 512 ∧ t.dep ≤ 4) ∧ ((fewM zs).map RT.sz).sum ≤ 2048 := by
  have h5 : pickF zs 0 5 ≤ 4 := by have := pickF_lt zs 0 (n := 5) (by decide); omega
  have ih := re_facts zs 3
  refine ⟨by unfold fewM; rw [listR_len]; exact h5, fun t ht => ?_, ?_⟩
  · unfold fewM at ht
    exact listR_all (Q := fun t => good t ∧ t.sz ≤ 512 ∧ t.dep ≤ 4) (fun a => ⟨(ih a).1, (ih a).2.1, (ih a).2.2.1⟩) _ _ t ht
  · have hs := listR_sum (f := reM zs 3) (B := 512) (fun a => (ih a).2.1) (pickF zs 0 5) 1
    unfold fewM
    exact Nat.le_trans hs (Nat.le_trans (Nat.mul_le_mul_right _ h5) (by decide))

end Go.Proofs.YtclnadjgbpihcaaGreatDoor

/-! The derivative of an expression by a byte; whether one derives the empty text; how big what is left of one becomes, byte by byte. No condition. -/
namespace Go.Proofs.YtclnadjgbpihcaaGreatDoor
open Go.Lib
set_option linter.unusedVariables false
set_option linter.unusedSimpArgs false

def nullM : RT → Bool
  | .mk k _ kids => if k = 1 ∨ k = 5 then true else if k = 3 then (kids.map nullM).all id else if k = 4 then (kids.map nullM).any id else false
theorem null_mk (k : Int) (s : W4) (kids : List RT) : nullM (.mk k s kids) = if k = 1 ∨ k = 5 then true else if k = 3 then kids.all nullM else if k = 4 then kids.any nullM else false := by
  rw [nullM, List.all_map, List.any_map]
  rfl
/-- The kids of a Cat with what is left of each: what is left of the Cat, up to the first that does not derive the empty text. -/
def catsM : List (RT × RT) → List RT
  | [] => []
  | (k, d) :: l => catM (d :: l.map Prod.fst) :: (if nullM k then catsM l else [])
noncomputable def derivM (b : Nat) : RT → RT
  | .mk k s kids => if k = 2 then (if s.mem b then emptyM else noneM) else if k = 3 then eitherM (catsM (kids.map fun x => (x, derivM b x)))
    else if k = 4 then eitherM (kids.map (derivM b)) else if k = 5 then (match kids.map (derivM b) with | [d] => catM [d, .mk k s kids] | _ => noneM) else noneM
theorem deriv_mk (b : Nat) (k : Int) (s : W4) (kids : List RT) : derivM b (.mk k s kids) = if k = 2 then (if s.mem b then emptyM else noneM) else if k = 3 then eitherM (catsM (kids.map fun x => (x, derivM b x)))
    else if k = 4 then eitherM (kids.map (derivM b)) else if k = 5 then (match kids.map (derivM b) with | [d] => catM [d, .mk k s kids] | _ => noneM) else noneM := by rw [derivM]
/-- What is left behind several bytes. -/
noncomputable def dersM (r : RT) (l : List Nat) : RT := l.foldl (fun r b => derivM b r) r

theorem cats_all {Q : RT → Prop} (hc : ∀ l, (∀ t ∈ l, Q t) → Q (catM l)) : ∀ l : List (RT × RT), (∀ p ∈ l, Q p.1 ∧ Q p.2) → ∀ t ∈ catsM l, Q t
  | [], _, t, ht => by simp [catsM] at ht
  | (k, d) :: l, h, t, ht => by
    rw [catsM] at ht
    rcases List.mem_cons.1 ht with rfl | ht
    · refine hc _ fun u hu => ?_
      rcases List.mem_cons.1 hu with rfl | hu
      · exact (h (k, u) (by simp)).2
      · obtain ⟨p, hp, rfl⟩ := List.mem_map.1 hu
        exact (h p (by simp [hp])).1
    · split at ht
      · exact cats_all hc l (fun p hp => h p (by simp [hp])) t ht
      · simp at ht
theorem good_deriv (b : Nat) (t : RT) : good t → good (derivM b t) := by
  induction t using RT.ind with
  | h k s kids ih =>
    intro h
    have hk : ∀ t ∈ kids, good t := fun t ht => good_kid h ht
    rw [deriv_mk]
    split
    · split
      · exact good_empty
      · exact good_none
    · split
      · refine good_either (cats_all (Q := good) (fun l hl => good_cat hl) _ fun p hp => ?_)
        obtain ⟨x, hx, rfl⟩ := List.mem_map.1 hp
        exact ⟨hk x hx, ih x hx (hk x hx)⟩
      · split
        · refine good_either fun u hu => ?_
          obtain ⟨x, hx, rfl⟩ := List.mem_map.1 hu
          exact ih x hx (hk x hx)
        · split
          · split
            · rename_i d e
              have hd : d ∈ kids.map (derivM b) := by rw [e]; simp
              obtain ⟨x, hx, rfl⟩ := List.mem_map.1 hd
              refine good_cat fun u hu => ?_
              rcases List.mem_cons.1 hu with rfl | hu
              · exact ih x hx (hk x hx)
              · simp at hu
                subst hu
                exact h
            · exact good_none
          · exact good_none
theorem good_ders {r : RT} (h : good r) : ∀ l, good (dersM r l) := by
  intro l
  induction l generalizing r with
  | nil => exact h
  | cons b l ih => exact ih (good_deriv b r h)
theorem good_kinds {k : Int} {s : W4} {kids : List RT} (h : good (.mk k s kids)) : (k = 3 → ∀ t ∈ kids, t.kind ≠ 0 ∧ t.kind ≠ 1 ∧ t.kind ≠ 3) ∧ (k = 5 → ∃ x, kids = [x]) := by
  obtain ⟨⟨_, h2⟩, _⟩ := good_mk.1 h
  refine ⟨fun e => ?_, fun e => ?_⟩
  · rcases h2 with ⟨q, _⟩ | ⟨q, _⟩ | ⟨_, _, q⟩ | ⟨q, _⟩
    · omega
    · omega
    · exact q
    · omega
  · rcases h2 with ⟨q, _⟩ | ⟨_, q, _⟩ | ⟨q, _⟩ | ⟨q, _⟩
    · omega
    · exact List.length_eq_one_iff.1 q
    · omega
    · omega

/-! ### how big what is left of one becomes -/
def dlsM : List (RT × List (List RT)) → List (List RT)
  | [] => []
  | (k, d) :: l => d.map (· ++ l.map Prod.fst) ++ (if nullM k then dlsM l else [])
/-- What may stand behind a byte of one, one behind the other. -/
def dl : RT → List (List RT)
  | .mk k s kids => if k = 2 then [[]] else if k = 3 then dlsM (kids.map fun x => (x, dl x)) else if k = 4 then (kids.map dl).flatten else if k = 5 then (kids.map dl).flatten.map (· ++ [.mk k s kids]) else []
theorem dl_mk (k : Int) (s : W4) (kids : List RT) : dl (.mk k s kids) = if k = 2 then [[]] else if k = 3 then dlsM (kids.map fun x => (x, dl x)) else if k = 4 then (kids.map dl).flatten else if k = 5 then (kids.map dl).flatten.map (· ++ [.mk k s kids]) else [] := by rw [dl]
def dls (q : List RT) : List (List RT) := dlsM (q.map fun x => (x, dl x))
theorem dls_nil : dls [] = [] := rfl
theorem dls_cons (t : RT) (l : List RT) : dls (t :: l) = (dl t).map (· ++ l) ++ (if nullM t then dls l else []) := by
  have e : (l.map fun x => (x, dl x)).map Prod.fst = l := by rw [List.map_map]; exact List.map_id' l
  unfold dls
  rw [List.map_cons, dlsM, e]
theorem dls_append (a b : List RT) : dls (a ++ b) = (dls a).map (· ++ b) ++ (if a.all nullM then dls b else []) := by
  induction a with
  | nil => simp [dls_nil]
  | cons t a ih =>
    rw [List.cons_append, dls_cons, dls_cons, ih]
    by_cases h : nullM t = true
    · simp [h, Function.comp_def]
    · simp [h, Function.comp_def]
def T : Nat → List RT → Nat
  | 0, q => (q.map RT.sz).sum
  | k + 1, q => ((dls q).map fun s => 3 + T k s).sum
def Dm (j : Nat) (t : RT) (R : List RT) : Nat := ((dl t).map fun s => 3 + T j (s ++ R)).sum
def seqOf (t : RT) : List RT := if t.kind = 3 then t.kids else if t.kind = 1 then [] else [t]
theorem dls_seq (t : RT) : dls (seqOf t) = dl t := by
  obtain ⟨k, s, kids⟩ := t
  unfold seqOf
  show dls (if k = 3 then kids else if k = 1 then [] else [.mk k s kids]) = _
  by_cases h3 : k = 3
  · rw [if_pos h3, dl_mk, if_neg (by omega), if_pos h3]
    rfl
  · by_cases h1 : k = 1
    · rw [if_neg h3, if_pos h1, dl_mk, if_neg (by omega), if_neg (by omega), if_neg (by omega), if_neg (by omega)]
      rfl
    · rw [if_neg h3, if_neg h1, dls_cons, dls_nil]
      simp
theorem null_seq (t : RT) : (seqOf t).all nullM = nullM t := by
  obtain ⟨k, s, kids⟩ := t
  unfold seqOf
  show (if k = 3 then kids else if k = 1 then [] else [.mk k s kids]).all nullM = _
  by_cases h3 : k = 3
  · rw [if_pos h3, null_mk, if_neg (by omega), if_pos h3]
  · by_cases h1 : k = 1
    · rw [if_neg h3, if_pos h1, null_mk, if_pos (.inl h1)]
      rfl
    · rw [if_neg h3, if_neg h1]
      simp
theorem T_seq (j : Nat) (t : RT) (R : List RT) : T (j + 1) (seqOf t ++ R) = Dm j t R + (if nullM t then T (j + 1) R else 0) := by
  have e : T (j + 1) (seqOf t ++ R) = ((dls (seqOf t ++ R)).map fun s => 3 + T j s).sum := rfl
  rw [e, dls_append, dls_seq, null_seq, List.map_append, List.sum_append, List.map_map]
  unfold Dm
  congr 1
  split
  · rfl
  · rfl
theorem T_cons (j : Nat) (t : RT) (R : List RT) : T (j + 1) (t :: R) = Dm j t R + (if nullM t then T (j + 1) R else 0) := by
  have e : T (j + 1) (t :: R) = ((dls (t :: R)).map fun s => 3 + T j s).sum := rfl
  rw [e, dls_cons, List.map_append, List.sum_append, List.map_map]
  unfold Dm
  congr 1
  split
  · rfl
  · rfl
theorem T0_append (a b : List RT) : T 0 (a ++ b) = T 0 a + T 0 b := by
  show ((a ++ b).map RT.sz).sum = _
  rw [sum_append]
  rfl
theorem seq_sz {t : RT} (hg : good t) : T 0 (seqOf t) ≤ t.sz ∧ t.sz ≤ T 0 (seqOf t) + 1 ∧ (t.kind ≠ 1 → t.kind ≠ 3 → T 0 (seqOf t) = t.sz) := by
  obtain ⟨k, s, kids⟩ := t
  have e : T 0 (seqOf (.mk k s kids)) = ((if k = 3 then kids else if k = 1 then [] else [RT.mk k s kids]).map RT.sz).sum := rfl
  rw [e, sz_mk]
  show _ ∧ _ ∧ (k ≠ 1 → k ≠ 3 → _)
  by_cases h3 : k = 3
  · rw [if_pos h3]
    exact ⟨by omega, by omega, fun _ h => absurd h3 h⟩
  · rw [if_neg h3]
    by_cases h1 : k = 1
    · rw [if_pos h1]
      have hk : kids = [] := by
        obtain ⟨⟨_, h2⟩, _⟩ := good_mk.1 hg
        rcases h2 with ⟨_, q⟩ | ⟨q, _⟩ | ⟨q, _⟩ | ⟨q, _⟩
        · exact q
        · omega
        · omega
        · omega
      subst hk
      exact ⟨by simp, by simp, fun h => absurd h1 h⟩
    · rw [if_neg h1]
      simp only [List.map_cons, List.map_nil, List.sum_cons, List.sum_nil, sz_mk]
      exact ⟨by omega, by omega, fun _ _ => by omega⟩
/-- What one costs ahead of others; None costs nothing. -/
def cost (k : Nat) (R : List RT) (x : RT) : Nat := if x.kind = 0 then 0 else T k (seqOf x ++ R) + 3

/-! ### sums -/
theorem sumg_putL (g : RT → Nat) (r : RT) : ∀ (p : Bool) (l : List RT), ((putL txt r p l).map g).sum ≤ (l.map g).sum + g r
  | true, [] => by simp [putL]
  | false, [] => by simp [putL]
  | p, a :: l => by
    have i2 := sumg_putL g r p l
    have e : putL txt r true l = l := putL_true r l
    rw [putL]
    split
    · rw [e]; simp only [List.map_cons, List.sum_cons]; omega
    · split
      · rw [e]; simp only [List.map_cons, List.sum_cons]; omega
      · simp only [List.map_cons, List.sum_cons]; omega
theorem sumg_puts (g : RT → Nat) (L : List RT) : ((putsM L).map g).sum ≤ (L.map g).sum := by
  have h : ∀ (L o : List RT), ((L.foldl (fun o r => putL txt r false o) o).map g).sum ≤ (o.map g).sum + (L.map g).sum := by
    intro L
    induction L with
    | nil => intro o; simp
    | cons a L ih =>
      intro o
      have h1 := ih (putL txt a false o)
      have h2 := sumg_putL g a false o
      simp only [List.foldl_cons, List.map_cons, List.sum_cons]
      omega
  have := h L []
  simpa [putsM] using this
theorem sum_mono {g h : RT → Nat} {l : List RT} (H : ∀ x ∈ l, g x ≤ h x) : (l.map g).sum ≤ (l.map h).sum := by
  induction l with
  | nil => simp
  | cons a l ih =>
    have h1 := H a (by simp)
    have h2 := ih fun x hx => H x (by simp [hx])
    simp only [List.map_cons, List.sum_cons]
    omega
theorem sum_more {g h : RT → Nat} {l : List RT} {c : Nat} (H : ∀ x ∈ l, g x ≤ h x) {y : RT} (hy : y ∈ l) (hc : g y + c ≤ h y) : (l.map g).sum + c ≤ (l.map h).sum := by
  induction l with
  | nil => simp at hy
  | cons a l ih =>
    have h1 := H a (by simp)
    have h2 := sum_mono (l := l) fun x hx => H x (by simp [hx])
    simp only [List.map_cons, List.sum_cons]
    rcases List.mem_cons.1 hy with rfl | hy
    · omega
    · have := ih (fun x hx => H x (by simp [hx])) hy
      omega
theorem sum_ge {g : RT → Nat} {l : List RT} {y : RT} (hy : y ∈ l) : g y ≤ (l.map g).sum := by
  induction l with
  | nil => simp at hy
  | cons a l ih =>
    simp only [List.map_cons, List.sum_cons]
    rcases List.mem_cons.1 hy with rfl | hy
    · omega
    · have := ih hy
      omega
def nz (g : RT → Nat) (x : RT) : Nat := if x.kind = 0 then 0 else g x
/-- The one Byte and the others cost no more than what they are made of. -/
theorem sum_parts {g : RT → Nat} {F : List RT} (hb : ∀ x ∈ F, x.kind = 2 → ∀ u, g (.mk 2 u []) ≤ g x) : ((byteM F ++ othersM F).map g).sum ≤ (F.map (nz g)).sum := by
  have h1 : ((othersM F).map g).sum + (F.map fun x => if x.kind = 2 then g x else 0).sum = (F.map (nz g)).sum := by
    clear hb
    induction F with
    | nil => rfl
    | cons a F ih =>
      have e : othersM (a :: F) = if (!(a.kind == 0) && !(a.kind == 2)) = true then a :: othersM F else othersM F := by unfold othersM; rw [List.filter_cons]
      rw [e]
      simp only [List.map_cons, List.sum_cons]
      by_cases a0 : a.kind = 0
      · simp [a0, nz]
        omega
      · by_cases a2 : a.kind = 2
        · simp [a2, nz]
          omega
        · simp [a0, a2, nz]
          omega
  rw [List.map_append, List.sum_append]
  have h2 : ((byteM F).map g).sum ≤ (F.map fun x => if x.kind = 2 then g x else 0).sum := by
    unfold byteM
    split
    · simp
    · rename_i hz
      have : ∃ x ∈ F, x.kind = 2 := by
        refine Classical.byContradiction fun hn => hz (union_none fun t ht hk => hn ⟨t, ht, hk⟩)
      obtain ⟨x, hx, hk⟩ := this
      have h3 := hb x hx hk (unionM F)
      have h4 := sum_ge (g := fun x => if x.kind = 2 then g x else 0) hx
      simp only [hk, if_true] at h4
      simp only [List.map_cons, List.map_nil, List.sum_cons, List.sum_nil]
      omega
  omega
theorem sum_opened {g h : RT → Nat} (k : Int) {l : List RT} (H : ∀ x ∈ l, x.kind = k → (x.kids.map g).sum ≤ h x) (H2 : ∀ x ∈ l, x.kind ≠ k → g x ≤ h x) : ((flatM k l).map g).sum ≤ (l.map h).sum := by
  induction l with
  | nil => simp [flatM]
  | cons a l ih =>
    have e : flatM k (a :: l) = (if a.kind = k then a.kids else [a]) ++ flatM k l := by simp [flatM]
    have i := ih (fun x hx => H x (by simp [hx])) (fun x hx => H2 x (by simp [hx]))
    rw [e, List.map_append, List.sum_append]
    simp only [List.map_cons, List.sum_cons]
    by_cases c : a.kind = k
    · rw [if_pos c]
      have := H a (by simp) c
      omega
    · rw [if_neg c]
      have := H2 a (by simp) c
      simp only [List.map_cons, List.map_nil, List.sum_cons, List.sum_nil]
      omega

/-! ### an Either costs no more than what it is made of -/
theorem Dm_byte (j : Nat) (R : List RT) (u : W4) (kids : List RT) : Dm j (.mk 2 u kids) R = 3 + T j R := by
  unfold Dm
  rw [dl_mk, if_pos rfl]
  simp
theorem Dm_byte' (j : Nat) (R : List RT) {x : RT} (h : x.kind = 2) : Dm j x R = 3 + T j R := by
  obtain ⟨k, s, kids⟩ := x
  simp only [RT.kind] at h
  subst h
  exact Dm_byte j R s kids
theorem flat_sum (j : Nat) (R : List RT) (l : List RT) : ((l.map dl).flatten.map fun s => 3 + T j (s ++ R)).sum = (l.map fun x => Dm j x R).sum := by
  induction l with
  | nil => rfl
  | cons a l ih =>
    rw [List.map_cons, List.flatten_cons, List.map_append, List.sum_append, ih]
    rfl
theorem Dm_either (j : Nat) (R : List RT) (s : W4) (kids : List RT) : Dm j (.mk 4 s kids) R = (kids.map fun x => Dm j x R).sum := by
  rw [← flat_sum]
  unfold Dm
  rw [dl_mk, if_neg (by decide), if_neg (by decide), if_pos rfl]
theorem Dm_either' (j : Nat) (R : List RT) {x : RT} (h : x.kind = 4) : Dm j x R = (x.kids.map fun x => Dm j x R).sum := by
  obtain ⟨k, s, kids⟩ := x
  simp only [RT.kind] at h
  subst h
  exact Dm_either j R s kids
theorem Dm_none (j : Nat) (R : List RT) {x : RT} (h : x.kind = 0) : Dm j x R = 0 := by
  obtain ⟨k, s, kids⟩ := x
  simp only [RT.kind] at h
  subst h
  unfold Dm
  rw [dl_mk]
  simp
theorem null_none {x : RT} (h : x.kind = 0) : nullM x = false := by
  obtain ⟨k, s, kids⟩ := x
  simp only [RT.kind] at h
  subst h
  rw [null_mk]
  simp
noncomputable def partsM (l : List RT) : List RT := putsM (byteM (flatM 4 l) ++ othersM (flatM 4 l))
theorem parts_mem {l : List RT} {p : RT} (h : p ∈ partsM l) : p.kind ≠ 0 ∧ ((p = .mk 2 (unionM (flatM 4 l)) [] ∧ ∃ x ∈ flatM 4 l, x.kind = 2) ∨ p ∈ flatM 4 l) := by
  have h1 := (puts_asc (byteM (flatM 4 l) ++ othersM (flatM 4 l))).2 p h
  rcases List.mem_append.1 h1 with h2 | h2
  · unfold byteM at h2
    split at h2
    · simp at h2
    · rename_i hz
      simp at h2
      subst h2
      refine ⟨by simp [RT.kind], .inl ⟨rfl, ?_⟩⟩
      refine Classical.byContradiction fun hn => hz (union_none fun t ht hk => hn ⟨t, ht, hk⟩)
  · have h3 := List.mem_filter.1 h2
    have h4 := h3.2
    simp at h4
    exact ⟨h4.1, .inr h3.1⟩
theorem Dm_parts (j : Nat) (R : List RT) (l : List RT) : ((partsM l).map fun x => Dm j x R).sum ≤ (l.map fun x => Dm j x R).sum := by
  have h1 := sumg_puts (fun x => Dm j x R) (byteM (flatM 4 l) ++ othersM (flatM 4 l))
  have h2 := sum_parts (g := fun x => Dm j x R) (F := flatM 4 l) fun x _ hk u => by rw [Dm_byte, Dm_byte' j R hk]; exact Nat.le_refl _
  have h3 := sum_opened (g := nz fun x => Dm j x R) (h := fun x => Dm j x R) 4 (l := l) (fun x _ hk => by
      rw [Dm_either' j R hk]
      refine sum_mono fun y _ => ?_
      unfold nz
      split <;> simp) (fun x _ _ => by unfold nz; split <;> simp)
  exact Nat.le_trans h1 (Nat.le_trans h2 h3)
/-- One of which a part derives the empty text does, too. -/
theorem parts_null {l : List RT} {p : RT} (h : p ∈ partsM l) (hn : nullM p = true) : ∃ x ∈ l, nullM x = true := by
  rcases (parts_mem h).2 with ⟨rfl, _⟩ | h2
  · rw [null_mk] at hn
    simp at hn
  · rcases flat_mem h2 with ⟨h3, _⟩ | ⟨y, hy, hk, hx⟩
    · exact ⟨p, h3, hn⟩
    · refine ⟨y, hy, ?_⟩
      obtain ⟨k, s, kids⟩ := y
      simp only [RT.kind] at hk
      subst hk
      rw [null_mk, if_neg (by decide), if_neg (by decide), if_pos rfl]
      exact List.any_eq_true.2 ⟨p, hx, hn⟩
theorem parts_some {l : List RT} {p : RT} (h : p ∈ partsM l) : ∃ x ∈ l, x.kind ≠ 0 := by
  obtain ⟨h0, h1⟩ := parts_mem h
  have key : ∀ q, q ∈ flatM 4 l → q.kind ≠ 0 → ∃ x ∈ l, x.kind ≠ 0 := fun q hq h0 => by
    rcases flat_mem hq with ⟨h3, _⟩ | ⟨y, hy, hk, hx⟩
    · exact ⟨q, h3, h0⟩
    · exact ⟨y, hy, by rw [hk]; decide⟩
  rcases h1 with ⟨_, x, hx, hk⟩ | h2
  · exact key x hx (by rw [hk]; decide)
  · exact key p h2 h0
/-- From the first byte on. -/
theorem cost_either_succ (j : Nat) (R : List RT) (l : List RT) : cost (j + 1) R (eitherM l) ≤ (l.map (cost (j + 1) R)).sum := by
  have hE : eitherM l = someM 4 0 (partsM l) := rfl
  rw [hE]
  have hD := Dm_parts j R l
  have hm := fun p (h : p ∈ partsM l) => (parts_mem h).1
  have hn := fun p (h : p ∈ partsM l) => parts_null (l := l) h
  have hs := fun p (h : p ∈ partsM l) => parts_some (l := l) h
  have hcost : ∀ x : RT, x.kind ≠ 0 → cost (j + 1) R x = Dm j x R + (if nullM x then T (j + 1) R else 0) + 3 := fun x h => by
    unfold cost
    rw [if_neg h, T_seq]
  have hle : ∀ x ∈ l, Dm j x R ≤ cost (j + 1) R x := fun x _ => by
    by_cases h : x.kind = 0
    · rw [Dm_none j R h]; omega
    · rw [hcost x h]; omega
  revert hD hm hn hs
  match partsM l with
  | [] => intros; simp [someM, cost, RT.kind]
  | [p] =>
    intro hD hm hn hs
    show cost (j + 1) R p ≤ _
    rw [hcost p (hm p (by simp))]
    simp only [List.map_cons, List.map_nil, List.sum_cons, List.sum_nil] at hD
    by_cases hp : nullM p = true
    · obtain ⟨x, hx, hxn⟩ := hn p (by simp) hp
      have hx0 : x.kind ≠ 0 := fun e => by rw [null_none e] at hxn; cases hxn
      have := sum_more (c := T (j + 1) R + 3) hle hx (by rw [hcost x hx0, if_pos hxn]; omega)
      rw [if_pos hp]
      omega
    · obtain ⟨x, hx, hx0⟩ := hs p (by simp)
      have := sum_more (c := 3) hle hx (by rw [hcost x hx0]; omega)
      rw [if_neg hp]
      omega
  | p :: q :: P =>
    intro hD hm hn hs
    show cost (j + 1) R (.mk 4 W4.zero (p :: q :: P)) ≤ _
    rw [hcost _ (by simp [RT.kind]), Dm_either, show nullM (.mk 4 W4.zero (p :: q :: P)) = (p :: q :: P).any nullM by rw [null_mk]; rfl]
    by_cases hp : (p :: q :: P).any nullM = true
    · obtain ⟨y, hy, hyn⟩ := List.any_eq_true.1 hp
      obtain ⟨x, hx, hxn⟩ := hn y hy hyn
      have hx0 : x.kind ≠ 0 := fun e => by rw [null_none e] at hxn; cases hxn
      have := sum_more (c := T (j + 1) R + 3) hle hx (by rw [hcost x hx0, if_pos hxn]; omega)
      rw [if_pos hp]
      omega
    · obtain ⟨x, hx, hx0⟩ := hs p (by simp)
      have := sum_more (c := 3) hle hx (by rw [hcost x hx0]; omega)
      rw [if_neg hp]
      omega
def cz (x : RT) : Nat := if x.kind = 0 then 0 else if x.kind = 4 then x.sz - 1 else x.sz
theorem cost_either_zero (R : List RT) (l : List RT) (hg : ∀ t ∈ l, good t) : cost 0 R (eitherM l) ≤ (l.map (cost 0 R)).sum := by
  have hE : eitherM l = someM 4 0 (partsM l) := rfl
  rw [hE]
  have hcost : ∀ x : RT, x.kind ≠ 0 → cost 0 R x = T 0 (seqOf x) + T 0 R + 3 := fun x h => by
    unfold cost
    rw [if_neg h, T0_append]
  have hsz : ((partsM l).map RT.sz).sum ≤ (l.map cz).sum := by
    have h1 := sumg_puts RT.sz (byteM (flatM 4 l) ++ othersM (flatM 4 l))
    have h2 := sum_parts (g := RT.sz) (F := flatM 4 l) fun x _ hk u => by have := sz_pos x; rw [sz_mk]; simp; omega
    have h3 := sum_opened (g := nz RT.sz) (h := cz) 4 (l := l) (fun x _ hk => by
        obtain ⟨k, s, kids⟩ := x
        simp only [RT.kind] at hk
        subst hk
        have : (kids.map (nz RT.sz)).sum ≤ (kids.map RT.sz).sum := sum_mono fun y _ => by unfold nz; split <;> omega
        show (kids.map (nz RT.sz)).sum ≤ cz (.mk 4 s kids)
        unfold cz
        simp only [RT.kind, sz_mk]
        simp
        omega) (fun x _ hk => by unfold nz cz; split <;> simp_all)
    exact Nat.le_trans h1 (Nat.le_trans h2 h3)
  have hle : ∀ x ∈ l, cz x ≤ cost 0 R x := fun x hx => by
    obtain ⟨q1, q2, q3⟩ := seq_sz (hg x hx)
    unfold cz
    split
    · omega
    · rename_i h0
      rw [hcost x h0]
      split <;> omega
  have h4 : ∀ x ∈ l, x.kind = 4 → cz x + (T 0 R + 4) ≤ cost 0 R x := fun x hx hk => by
    obtain ⟨q1, q2, q3⟩ := seq_sz (hg x hx)
    have := q3 (by omega) (by omega)
    have := sz_pos x
    unfold cz
    rw [hcost x (by omega), if_neg (by omega), if_pos hk]
    omega
  have hlen : (∀ x ∈ l, x.kind ≠ 4) → (partsM l).length ≤ (l.map (nz fun _ => 1)).sum := fun hno => by
    have h1 := sumg_puts (fun _ => 1) (byteM (flatM 4 l) ++ othersM (flatM 4 l))
    have h2 := sum_parts (g := fun _ => 1) (F := flatM 4 l) fun x _ hk u => Nat.le_refl _
    have e1 : ((partsM l).map fun _ => 1).sum = (partsM l).length := by
      generalize partsM l = L
      induction L with
      | nil => rfl
      | cons a L ih => simp only [List.map_cons, List.sum_cons, List.length_cons, ih]; omega
    rw [flat_same hno] at h2 h1
    have e2 : putsM (byteM l ++ othersM l) = partsM l := by unfold partsM; rw [flat_same hno]
    rw [e2, e1] at h1
    exact Nat.le_trans h1 h2
  have h2z : (l.map cz).sum + (T 0 R + 2) * (l.map (nz fun _ => 1)).sum ≤ (l.map (cost 0 R)).sum := by
    have hall : ∀ x ∈ l, cz x + (T 0 R + 2) * nz (fun _ => 1) x ≤ cost 0 R x := fun x hx => by
      obtain ⟨q1, q2, q3⟩ := seq_sz (hg x hx)
      unfold cz nz
      split
      · simp
      · rename_i h0
        rw [hcost x h0]
        simp only [Nat.mul_one]
        split <;> omega
    clear hsz hle h4 hlen hg hE
    induction l with
    | nil => simp
    | cons a l ih =>
      have i1 := ih fun x hx => hall x (by simp [hx])
      have i2 := hall a (by simp)
      simp only [List.map_cons, List.sum_cons, Nat.mul_add]
      omega
  have hone := fun p (h : p ∈ partsM l) => parts_mem (l := l) h
  have hpg : ∀ p ∈ flatM 4 l, good p := good_flat hg
  revert hsz hlen hone
  match partsM l with
  | [] => intros; simp [someM, cost, RT.kind]
  | [p] =>
    intro hsz hlen hone
    show cost 0 R p ≤ _
    obtain ⟨h0, h1⟩ := hone p (by simp)
    rw [hcost p h0]
    have key : ∀ q, q ∈ flatM 4 l → q.kind ≠ 0 → ∃ x ∈ l, x.kind ≠ 0 ∧ T 0 (seqOf q) ≤ T 0 (seqOf x) := fun q hq h0 => by
      rcases flat_mem hq with ⟨h3, _⟩ | ⟨y, hy, hk, hx⟩
      · exact ⟨q, h3, h0, Nat.le_refl _⟩
      · refine ⟨y, hy, by omega, ?_⟩
        have q1 := (seq_sz (hpg q hq)).1
        have q2 := (seq_sz (hg y hy)).2.2 (by omega) (by omega)
        have := kids_sz hx
        omega
    rcases h1 with ⟨rfl, x, hx, hk⟩ | h2
    · obtain ⟨y, hy, hy0, hyt⟩ := key x hx (by omega)
      have h3 := (seq_sz (hpg x hx)).2.2 (by omega) (by omega)
      have h4 := sz_pos x
      have h5 : T 0 (seqOf (.mk 2 (unionM (flatM 4 l)) [])) = 1 := by
        have : seqOf (.mk 2 (unionM (flatM 4 l)) []) = [.mk 2 (unionM (flatM 4 l)) []] := rfl
        rw [this]
        show ([RT.mk 2 (unionM (flatM 4 l)) []].map RT.sz).sum = 1
        simp [sz_mk]
      have h6 := sum_ge (g := cost 0 R) hy
      rw [hcost y hy0] at h6
      omega
    · obtain ⟨y, hy, hy0, hyt⟩ := key p h2 h0
      have h6 := sum_ge (g := cost 0 R) hy
      rw [hcost y hy0] at h6
      omega
  | p :: q :: P =>
    intro hsz hlen hone
    show cost 0 R (.mk 4 W4.zero (p :: q :: P)) ≤ _
    rw [hcost _ (by simp [RT.kind])]
    have e : T 0 (seqOf (.mk 4 W4.zero (p :: q :: P))) = 1 + ((p :: q :: P).map RT.sz).sum := by
      have : seqOf (.mk 4 W4.zero (p :: q :: P)) = [.mk 4 W4.zero (p :: q :: P)] := rfl
      rw [this]
      show ([RT.mk 4 W4.zero (p :: q :: P)].map RT.sz).sum = _
      rw [List.map_cons, List.map_nil, List.sum_cons, List.sum_nil, sz_mk]
      omega
    rw [e]
    by_cases h : ∃ x ∈ l, x.kind = 4
    · obtain ⟨x, hx, hk⟩ := h
      have := sum_more (c := T 0 R + 4) hle hx (h4 x hx hk)
      omega
    · have hl := hlen fun x hx hk => h ⟨x, hx, hk⟩
      simp only [List.length_cons] at hl
      have : (T 0 R + 2) * 2 ≤ (T 0 R + 2) * (l.map (nz fun _ => 1)).sum := Nat.mul_le_mul_left _ (by omega)
      omega
theorem cost_either (k : Nat) (R : List RT) (l : List RT) (hg : ∀ t ∈ l, good t) : cost k R (eitherM l) ≤ (l.map (cost k R)).sum := by
  cases k with
  | zero => exact cost_either_zero R l hg
  | succ k => exact cost_either_succ k R l

/-! ### a Cat -/
theorem cost_cat (k : Nat) (R : List RT) (x : RT) (Q : List RT) (hx : good x) (hQ : ∀ t ∈ Q, t.kind ≠ 0 ∧ t.kind ≠ 1 ∧ t.kind ≠ 3) : cost k R (catM (x :: Q)) = cost k (Q ++ R) x := by
  have hK : ∀ t ∈ seqOf x ++ Q, t.kind = 0 ∨ (t.kind ≠ 0 ∧ t.kind ≠ 1 ∧ t.kind ≠ 3) := by
    intro t ht
    rcases List.mem_append.1 ht with h | h
    · unfold seqOf at h
      split at h
      · obtain ⟨k', s, kids⟩ := x
        exact .inr ((good_kinds hx).1 (by assumption) t h)
      · split at h
        · simp at h
        · simp at h
          subst h
          omega
    · exact .inr (hQ t h)
  have hfl : flatM 3 (x :: Q) = (if x.kind = 3 then x.kids else [x]) ++ Q := by
    have e : flatM 3 (x :: Q) = (if x.kind = 3 then x.kids else [x]) ++ flatM 3 Q := by simp [flatM]
    rw [e, flat_same fun t ht => (hQ t ht).2.2]
  have hfil : ((flatM 3 (x :: Q)).filter fun r => !(r.kind == 1)) = seqOf x ++ Q := by
    rw [hfl, List.filter_append, show Q.filter (fun r => !(r.kind == 1)) = Q from List.filter_eq_self.2 fun t ht => by have := (hQ t ht).2.1; simpa using this]
    congr 1
    unfold seqOf
    split
    · rw [List.filter_eq_self]
      intro t ht
      obtain ⟨k', s, kids⟩ := x
      have := ((good_kinds hx).1 (by assumption) t ht).2.1
      simpa using this
    · split
      · simp_all
      · simp_all
  by_cases h0 : x.kind = 0
  · have : catM (x :: Q) = noneM := by
      unfold catM
      rw [if_pos]
      rw [hfl, List.any_append, if_neg (by omega)]
      simp [h0]
    rw [this]
    unfold cost
    rw [if_pos h0, if_pos (show noneM.kind = 0 from rfl)]
  · have hno : ∀ t ∈ seqOf x ++ Q, t.kind ≠ 0 := by
      intro t ht
      rcases hK t ht with h | h
      · rcases List.mem_append.1 ht with h1 | h1
        · unfold seqOf at h1
          split at h1
          · obtain ⟨k', s, kids⟩ := x
            exact ((good_kinds hx).1 (by assumption) t h1).1
          · split at h1
            · simp at h1
            · simp at h1; subst h1; exact h0
        · exact (hQ t h1).1
      · exact h.1
    have hany : ¬ ((flatM 3 (x :: Q)).any (fun r => r.kind == 0)) = true := by
      intro h
      obtain ⟨t, ht, hk⟩ := List.any_eq_true.1 h
      have hk' : t.kind = 0 := by simpa using hk
      refine hno t ?_ hk'
      rw [← hfil]
      exact List.mem_filter.2 ⟨ht, by simp [hk']⟩
    have e : catM (x :: Q) = someM 3 1 (seqOf x ++ Q) := by
      unfold catM
      rw [if_neg hany, hfil]
    rw [e]
    have e2 : cost k (Q ++ R) x = T k ((seqOf x ++ Q) ++ R) + 3 := by
      unfold cost
      rw [if_neg h0, List.append_assoc]
    rw [e2]
    revert hK hno
    match seqOf x ++ Q with
    | [] => intros; rfl
    | [y] =>
      intro hK hno
      show cost k R y = _
      have h1 := (hK y (by simp)).resolve_left (hno y (by simp))
      unfold cost seqOf
      rw [if_neg h1.1, if_neg h1.2.2, if_neg h1.2.1]
    | y :: z :: L => intros; rfl
theorem cost_star (k : Nat) (R : List RT) (d r : RT) (hd : good d) (hr : r.kind = 5) : cost k R (catM [d, r]) = cost k (r :: R) d := cost_cat k R d [r] hd fun t ht => by simp at ht; subst ht; omega

/-- What is left of one behind a byte costs no more than what may stand behind it. -/
theorem cost_deriv (b k : Nat) (r : RT) : good r → ∀ R, cost k R (derivM b r) ≤ Dm k r R := by
  induction r using RT.ind with
  | h kd s kids ih =>
    intro hg R
    have hk : ∀ t ∈ kids, good t := fun t ht => good_kid hg ht
    have hkinds := good_kinds hg
    rw [deriv_mk]
    by_cases h2 : kd = 2
    · subst h2
      rw [if_pos rfl, Dm_byte]
      split
      · have : cost k R emptyM = T k R + 3 := rfl
        omega
      · have : cost k R noneM = 0 := rfl
        omega
    rw [if_neg h2]
    by_cases h3 : kd = 3
    · subst h3
      have hq := hkinds.1 rfl
      rw [if_pos rfl]
      have hgc : ∀ t ∈ catsM (kids.map fun x => (x, derivM b x)), good t := cats_all (Q := good) (fun l hl => good_cat hl) _ fun p hp => by
        obtain ⟨x, hx, rfl⟩ := List.mem_map.1 hp
        exact ⟨hk x hx, good_deriv b x (hk x hx)⟩
      refine Nat.le_trans (cost_either k R _ hgc) ?_
      have e : Dm k (.mk 3 s kids) R = ((dls kids).map fun s => 3 + T k (s ++ R)).sum := by
        unfold Dm
        rw [dl_mk, if_neg (by decide), if_pos rfl]
        rfl
      rw [e]
      clear e hgc hg hkinds
      induction kids with
      | nil => simp [catsM]
      | cons a l ihl =>
        rw [dls_cons, List.map_append, List.sum_append, List.map_map, List.map_cons, catsM, List.map_cons, List.sum_cons]
        have e1 : (l.map fun x => (x, derivM b x)).map Prod.fst = l := by rw [List.map_map]; exact List.map_id' l
        rw [e1, cost_cat k R _ l (good_deriv b a (hk a (by simp))) fun t ht => hq t (by simp [ht])]
        have h1 := ih a (by simp) (hk a (by simp)) (l ++ R)
        have h2 : ((dl a).map ((fun s => 3 + T k (s ++ R)) ∘ fun x => x ++ l)).sum = Dm k a (l ++ R) := by
          unfold Dm
          congr 1
          refine List.map_congr_left fun s _ => ?_
          simp [List.append_assoc]
        rw [h2]
        have h3 := ihl (fun t ht => ih t (by simp [ht])) (fun t ht => hk t (by simp [ht])) (fun t ht => hq t (by simp [ht]))
        by_cases hn : nullM a = true
        · rw [if_pos hn, if_pos hn]
          omega
        · rw [if_neg hn, if_neg hn]
          simp
          exact h1
    rw [if_neg h3]
    by_cases h4 : kd = 4
    · subst h4
      rw [if_pos rfl, Dm_either]
      refine Nat.le_trans (cost_either k R _ fun u hu => ?_) ?_
      · obtain ⟨x, hx, rfl⟩ := List.mem_map.1 hu
        exact good_deriv b x (hk x hx)
      · rw [List.map_map]
        exact sum_mono fun x hx => ih x hx (hk x hx) R
    rw [if_neg h4]
    by_cases h5 : kd = 5
    · subst h5
      obtain ⟨x, rfl⟩ := hkinds.2 rfl
      rw [if_pos rfl]
      show cost k R (catM [derivM b x, .mk 5 s [x]]) ≤ _
      rw [cost_star k R _ _ (good_deriv b x (hk x (by simp))) rfl]
      refine Nat.le_trans (ih x (by simp) (hk x (by simp)) _) (Nat.le_of_eq ?_)
      unfold Dm
      rw [dl_mk, if_neg (by decide), if_neg (by decide), if_neg (by decide), if_pos rfl]
      simp [Function.comp_def]
    · rw [if_neg h5]
      exact Nat.zero_le _
/-- So each step takes one off. -/
theorem T_deriv (b k : Nat) {r : RT} (hg : good r) : T k (seqOf (derivM b r)) ≤ T (k + 1) (seqOf r) + 1 := by
  have h1 := cost_deriv b k r hg []
  have h2 := T_seq k r []
  rw [List.append_nil] at h2
  by_cases h0 : (derivM b r).kind = 0
  · have hgd := good_deriv b r hg
    have : (derivM b r).sz = 1 := by
      revert h0 hgd
      generalize derivM b r = d
      intro h0 hgd
      obtain ⟨k', s, kids⟩ := d
      simp only [RT.kind] at h0
      subst h0
      obtain ⟨⟨_, q⟩, _⟩ := good_mk.1 hgd
      rcases q with ⟨_, q⟩ | ⟨q, _⟩ | ⟨q, _⟩ | ⟨q, _⟩
      · subst q; rw [sz_mk]; rfl
      · omega
      · omega
      · omega
    cases k with
    | zero => have := (seq_sz hgd).1; omega
    | succ k =>
      have h3 := T_seq k (derivM b r) []
      rw [List.append_nil, Dm_none k [] h0, null_none h0] at h3
      rw [h3]
      simp
  · unfold cost at h1
    rw [if_neg h0, List.append_nil] at h1
    omega
theorem dep_cats {n : Nat} : ∀ l : List (RT × RT), (∀ p ∈ l, p.1.dep ≤ n ∧ p.2.dep ≤ n) → ∀ t ∈ catsM l, t.dep ≤ n + 1
  | [], _, t, ht => by simp [catsM] at ht
  | (k, d) :: l, h, t, ht => by
    rw [catsM] at ht
    rcases List.mem_cons.1 ht with rfl | ht
    · refine dep_cat fun u hu => ?_
      rcases List.mem_cons.1 hu with rfl | hu
      · exact (h (k, u) (by simp)).2
      · obtain ⟨p, hp, rfl⟩ := List.mem_map.1 hu
        exact (h p (by simp [hp])).1
    · split at ht
      · exact dep_cats l (fun p hp => h p (by simp [hp])) t ht
      · simp at ht
theorem dep_deriv (b : Nat) (r : RT) : (derivM b r).dep ≤ 2 * r.dep := by
  induction r using RT.ind with
  | h k s kids ih =>
    obtain ⟨n, hn⟩ : ∃ n, (RT.mk k s kids).dep = n + 1 := ⟨(RT.mk k s kids).dep - 1, by have := dep_pos (RT.mk k s kids); omega⟩
    have hk := dep_mk.1 (Nat.le_of_eq hn)
    have hd : ∀ t ∈ kids, (derivM b t).dep ≤ 2 * n := fun t ht => Nat.le_trans (ih t ht) (Nat.mul_le_mul_left _ (hk t ht))
    rw [hn, deriv_mk]
    split
    · split
      · rw [show emptyM.dep = 1 from dep_leaf _ _]; omega
      · rw [show noneM.dep = 1 from dep_leaf _ _]; omega
    · split
      · refine Nat.le_trans (dep_either (n := 2 * n + 1) (by omega) (dep_cats _ fun p hp => ?_)) (by omega)
        obtain ⟨x, hx, rfl⟩ := List.mem_map.1 hp
        exact ⟨by have := hk x hx; show x.dep ≤ _; omega, hd x hx⟩
      · split
        · refine Nat.le_trans (dep_either (n := 2 * n + 1) (by omega) fun u hu => ?_) (by omega)
          obtain ⟨x, hx, rfl⟩ := List.mem_map.1 hu
          have := hd x hx
          omega
        · split
          · split
            · rename_i d e
              have hdm : d ∈ kids.map (derivM b) := by rw [e]; simp
              obtain ⟨x, hx, rfl⟩ := List.mem_map.1 hdm
              refine Nat.le_trans (dep_cat (n := 2 * n + 1) fun u hu => ?_) (by omega)
              rcases List.mem_cons.1 hu with rfl | hu
              · have := hd x hx; omega
              · simp at hu
                subst hu
                rw [hn]
                have := dep_pos x
                have := hk x hx
                omega
            · rw [show noneM.dep = 1 from dep_leaf _ _]; omega
          · rw [show noneM.dep = 1 from dep_leaf _ _]; omega

end Go.Proofs.YtclnadjgbpihcaaGreatDoor

/-! What is left of a Byte, of an Either, of a Star. No condition but the library's table and size. -/
namespace Go.Proofs.YtclnadjgbpihcaaGreatDoor
open Go.RowKit Go.Lib
set_option linter.unusedVariables false
set_option linter.unusedSimpArgs false

/-- Facts in a row, with what they are of. -/
structure FactsR (W : World) (P : Nat → Prop) (p : Option Addr) (n cap : Nat) (us : List FV) (l : List (RT × Bool)) : Prop where
  rowf : RowF W (fun _ => True) p n cap us
  num : n = l.length
  each : ∀ (i : Nat) (y : FV) (r : RT × Bool), us[i]? = some y → l[i]? = some r → RAt W P y.re r.1 ∧ y.nul = r.2
theorem FactsR.under {W W' : World} {P : Nat → Prop} {p : Option Addr} {n cap : Nat} {us : List FV} {l : List (RT × Bool)} (h : FactsR W P p n cap us l) (hb : Below W.heap.size W W') : FactsR W' P p n cap us l :=
  ⟨h.rowf.under hb, h.num, fun i y r hy hr => ⟨(h.each i y r hy hr).1.under hb, (h.each i y r hy hr).2⟩⟩
theorem FactsR.weak {W : World} {P P' : Nat → Prop} {p : Option Addr} {n cap : Nat} {us : List FV} {l : List (RT × Bool)} (h : FactsR W P p n cap us l) (hk : ∀ g, P g → g < W.heap.size → P' g) : FactsR W P' p n cap us l :=
  ⟨h.rowf, h.num, fun i y r hy hr => ⟨(h.each i y r hy hr).1.weak hk, (h.each i y r hy hr).2⟩⟩
theorem FactsR.len {W : World} {P : Nat → Prop} {p : Option Addr} {n cap : Nat} {us : List FV} {l : List (RT × Bool)} (h : FactsR W P p n cap us l) : us.length = l.length := h.rowf.num.symm.trans h.num
abbrev zRe : Array Value := #[.int .i64 0, .int .u64 0, .int .u64 0, .int .u64 0, .int .u64 0, .slice none 0 0]
theorem own_new {W : World} {base : Nat} {x : ReV} {D : Nat} (hD : base ≤ D) (hh : W.heap[D]? = some (.cells x.cells.toArray 28 (0, 0))) : W.ownsRow base 28 6 (.slice (some ⟨D, 0, none⟩) 1 1) 1 ([x].flatMap ReV.cells) := by
  refine row_of_block hD hh (by unfold maxLen; omega) rfl

set_option maxRecDepth 100000 in
set_option maxHeartbeats 4000000 in
theorem ofbyte_any {P : Nat → Prop} (w : World) (b o : Nat) (x : ReV) (t : RT) (hp : PlaceR w b o x) (ht : RAt w P x t) (c : Nat) (hc : c < 256) :
    Calls Tryz.prog 43 #[.pointer (some ⟨b, o, none⟩), .int .i64 (c : Int)] w (GivesRe P (if t.set.mem c then emptyM else noneM) w) := by
  obtain ⟨vs0, et, hok, _⟩ := ht.kids
  have hset : t.set = x.w4 := by rw [et]; rfl
  have hw4 := W4.isSet hok
  rw [← hset] at hw4
  obtain ⟨f, hf⟩ : ∃ f, f = t.set.mem := ⟨_, rfl⟩
  rw [← hf] at hw4 ⊢
  obtain ⟨D, hD⟩ : ∃ D, D = w.heap.size := ⟨_, rfl⟩
  obtain ⟨w1, hw1⟩ : ∃ w1 : World, w1 = w.alloc (.cells #[.int .i64 0, .int .u64 0, .int .u64 0, .int .u64 0, .int .u64 0, .slice none 0 0] 28) := ⟨_, rfl⟩
  have hb1 : Below w.heap.size w w1 := by rw [hw1]; exact (Below.refl _ _).alloc (Nat.le_refl _) _
  have hnD : w1.heap[D]? = some (.cells #[.int .i64 0, .int .u64 0, .int .u64 0, .int .u64 0, .int .u64 0, .slice none 0 0] 28 (0, 0)) := by rw [hw1, hD]; exact heap_alloc_new _ _
  obtain ⟨k, a0, a1, a2, a3, q, n, cap⟩ := x
  obtain ⟨p0, p1, p2, p3, p4, p5⟩ := (hp.under hb1).six
  simp only at p0 p1 p2 p3 p4 p5
  have p2' : w1.cell? ⟨b, o + 1 + 1, none⟩ = some (.int .u64 a1) := p2
  have p3' : w1.cell? ⟨b, o + 1 + 2, none⟩ = some (.int .u64 a2) := p3
  have p4' : w1.cell? ⟨b, o + 1 + 3, none⟩ = some (.int .u64 a3) := p4
  have hI : IsSet a0 a1 a2 a3 f := by rw [hset] at hw4; exact hw4
  have c1 := has_any a0 a1 a2 a3 (c : Int) f w1 hI
  rw [hasB_nat f c hc] at c1
  have hDl : D < w1.heap.size := (Array.getElem?_eq_some_iff.1 hnD).1
  subst hw1
  have HDD := Lib.hid hD
  have HB1 := Lib.hid hb1
  have HND := Lib.hid hnD
  obtain ⟨B, hB⟩ : ∃ B, B = f c := ⟨_, rfl⟩
  rw [← hB] at c1 ⊢
  obtain ⟨R, hR⟩ : ∃ R, R = if B = true then emptyM else noneM := ⟨_, rfl⟩
  rw [← hR]
  have HRE := Lib.hid hR
  clear hD hb1 hnD hp ht hI hset hw4 hok et hB hf hR
  go_enter Tryz.func43, Tryz.ntmps43
  go_wp2_with fail
  rw [← HDD.out]
  ((with_reducible refine c1.mono ?_))
  rintro _ w2 ⟨rfl, hw2⟩
  have hb2 : Below w.heap.size w w2 := by rw [hw2]; exact HB1.out.alloc HB1.out.size _
  have h2D : w2.heap[D]? = some (.cells #[.int .i64 0, .int .u64 0, .int .u64 0, .int .u64 0, .int .u64 0, .slice none 0 0] 28 (0, 0)) := by rw [hw2, @heap_alloc_old _ _ _ hDl]; exact HND.out
  have H2D := Lib.hid h2D
  have HB2 := Lib.hid hb2
  have d0 : w2.cell? ⟨D, 0, none⟩ = some (.int .i64 0) := by simp [World.cell?, h2D]
  have d1 : w2.cell? ⟨D, 1, none⟩ = some (.int .u64 0) := by simp [World.cell?, h2D]
  have d2 : w2.cell? ⟨D, 2, none⟩ = some (.int .u64 0) := by simp [World.cell?, h2D]
  have d3 : w2.cell? ⟨D, 3, none⟩ = some (.int .u64 0) := by simp [World.cell?, h2D]
  have d4 : w2.cell? ⟨D, 4, none⟩ = some (.int .u64 0) := by simp [World.cell?, h2D]
  have d5 : w2.cell? ⟨D, 5, none⟩ = some (.slice none 0 0) := by simp [World.cell?, h2D]
  have f0 := frozen_no h2D 0
  have f1 := frozen_no h2D 1
  have f2 := frozen_no h2D 2
  have f3 := frozen_no h2D 3
  have f4 := frozen_no h2D 4
  have f5 := frozen_no h2D 5
  have hDw : w.heap.size ≤ D := by have := HDD.out; omega
  have HDW := Lib.hid hDw
  clear h2D hb2 c1 hw2 p0 p1 p2 p3 p4 p5 p2' p3' p4' hDw
  cases B with
  | true =>
    go_wp2
    refine bodyPost_ret_by (results_cell_row rfl _ _ D 28 #[.int .i64 1, .int .u64 0, .int .u64 0, .int .u64 0, .int .u64 0, .slice none 0 0] (0, 0) _ rfl (set6_heap H2D.out _ _ _ _ _ _) Tryz.underlying28 rfl (by kernel_rfl)) rfl ?_
    exact ⟨⟨1, 0, 0, 0, 0, none, 0, 0⟩, rfl, by have e := HRE.out; simp at e; rw [e]; exact kids_empty.tree 1 W4.zero zero_ok, six_set HB2.out HDW.out _ _ _ _ _ _⟩
  | false =>
    go_wp2
    refine bodyPost_ret_by (results_cell_row rfl _ _ D 28 #[.int .i64 0, .int .u64 0, .int .u64 0, .int .u64 0, .int .u64 0, .slice none 0 0] (0, 0) _ rfl (set6_heap H2D.out _ _ _ _ _ _) Tryz.underlying28 rfl (by kernel_rfl)) rfl ?_
    exact ⟨⟨0, 0, 0, 0, 0, none, 0, 0⟩, rfl, by have e := HRE.out; simp at e; rw [e]; exact kids_empty.tree 0 W4.zero zero_ok, six_set HB2.out HDW.out _ _ _ _ _ _⟩

set_option maxRecDepth 100000 in
set_option maxHeartbeats 8000000 in
theorem ofeither_any {P : Nat → Prop} (w : World) (ptr : Value) {p : Option Addr} {n cap : Nat} {us : List FV} {l : List (RT × Bool)} (h : FactsR w P p n cap us l) (hT : Tab1 w) (hdep : ∀ r ∈ l, r.1.dep < 10000) (hsz : ((l.map Prod.fst).map RT.sz).sum ≤ 9000000000) :
    Calls Tryz.prog 44 #[ptr, .slice p n cap] w (GivesRe (fun g => P g ∨ w.heap.size ≤ g) (eitherM (l.map Prod.fst)) w) := by
  obtain ⟨R, hR⟩ : ∃ R, R = eitherM (l.map Prod.fst) := ⟨_, rfl⟩
  rw [← hR]
  have HRE := Lib.hid hR
  clear hR
  obtain ⟨i0, hi0, hz0, hz1, hz2⟩ := re_parts
  obtain ⟨D, hD⟩ : ∃ D, D = w.heap.size := ⟨_, rfl⟩
  obtain ⟨w1, hw1⟩ : ∃ w1 : World, w1 = w.alloc (.cells #[.int .i64 0, .int .u64 0, .int .u64 0, .int .u64 0, .int .u64 0, .slice none 0 0] 28) := ⟨_, rfl⟩
  have hb1 : Below w.heap.size w w1 := by rw [hw1]; exact (Below.refl _ _).alloc (Nat.le_refl _) _
  have hnD : w1.heap[D]? = some (.cells #[.int .i64 0, .int .u64 0, .int .u64 0, .int .u64 0, .int .u64 0, .slice none 0 0] 28 (0, 0)) := by rw [hw1, hD]; exact heap_alloc_new _ _
  have hs1 : w1.heap.size = D + 1 := by rw [hw1, hD]; simp
  have h0 : FactsR w (fun g => P g ∧ g < w.heap.size) p n cap us l := h.weak fun b hp hl => ⟨hp, hl⟩
  have HF := Lib.hid (h0.under hb1)
  have hnl : n ≤ 9000000000 := by
    have e : ∀ l : List RT, l.length ≤ (l.map RT.sz).sum := by
      intro l
      induction l with
      | nil => simp
      | cons a l ih => have := sz_pos a; simp only [List.length_cons, List.map_cons, List.sum_cons]; omega
    have := e (l.map Prod.fst)
    have := h.num
    simp at *
    omega
  have HNUM := Lib.hid h.num
  have HLEN := Lib.hid h.len
  have HT1 := Lib.hid (hT.stays hb1)
  have HDEP := Lib.hid hdep
  have HSZ := Lib.hid hsz
  have HB1 := Lib.hid hb1
  have HND := Lib.hid hnD
  have HW1 := Lib.hid hw1
  have HDD := Lib.hid hD
  have HS1 := Lib.hid hs1
  clear h h0 hT hdep hsz hb1 hnD hw1 hD hs1
  go_enter Tryz.func44, Tryz.ntmps44
  go_wp2
  rw [← HW1.out, ← HDD.out]
  go_loopg [5, 10] n (fun gk v vi wr => ∃ (i : Nat) (q : Option Addr) (cp : Nat), v = .slice q i cp ∧ vi = .int .i64 (i : Int) ∧ i ≤ n ∧ n - i ≤ gk ∧ Hid (Below w1.heap.size w1 wr) ∧ Hid (OwnRe w1 wr (fun g => P g ∧ g < w.heap.size) (.slice q i cp) ((us.map FV.re).take i) ((l.map Prod.fst).take i)))
  case atStart => exact ⟨0, none, 0, rfl, rfl, by omega, by omega, Below.refl _ _, ⟨World.ownsRow_nil _ _ _ _, rfl, fun i y t hy => by simp at hy⟩⟩
  case round =>
    obtain ⟨i, q, cp, rfl, rfl, hi, hgk, HB, HO⟩ := hrel
    by_cases hlt : i < n
    · have hltz : (i : Int) < (n : Int) := by omega
      obtain ⟨g, off, rfl⟩ := HF.out.rowf.some_of hlt
      have hil : i < l.length := by rw [← HNUM.out]; exact hlt
      obtain ⟨y, hy⟩ : ∃ y, us[i]? = some y := ⟨_, List.getElem?_eq_getElem (by rw [HLEN.out]; exact hil)⟩
      obtain ⟨r, hr⟩ : ∃ r, l[i]? = some r := ⟨_, List.getElem?_eq_getElem hil⟩
      have hra := (HF.out.each i y r hy hr).1
      obtain ⟨p0, p1, p2, p3, p4, p5, p6⟩ := (HF.out.rowf.under HB.out).seven hy
      have hlen : ((l.map Prod.fst).take i).length = i := by simp; omega
      have HRA := Lib.hid hra
      have HY := Lib.hid hy
      have HR := Lib.hid hr
      obtain ⟨⟨k, a, b, c, d, q2, m, cp2⟩, nb⟩ := y
      simp only at p0 p1 p2 p3 p4 p5 p6 HRA
      have HOA : Hid (((wr.alloc (.cells #[.int .i64 k, .int .u64 a, .int .u64 b, .int .u64 c, .int .u64 d, .slice q2 m cp2, .bool nb] 58)).alloc (.cells #[.int .i64 k, .int .u64 a, .int .u64 b, .int .u64 c, .int .u64 d, .slice q2 m cp2] 28)).ownsRow w1.heap.size 28 6 (.slice q i cp) i (((us.map FV.re).take i).flatMap ReV.cells)) := by
        have := (HO.out.own.alloc (.cells #[.int .i64 k, .int .u64 a, .int .u64 b, .int .u64 c, .int .u64 d, .slice q2 m cp2, .bool nb] 58)).alloc (.cells #[.int .i64 k, .int .u64 a, .int .u64 b, .int .u64 c, .int .u64 d, .slice q2 m cp2] 28)
        rw [hlen] at this
        exact this
      have HBA : Hid (Below w1.heap.size w1 ((wr.alloc (.cells #[.int .i64 k, .int .u64 a, .int .u64 b, .int .u64 c, .int .u64 d, .slice q2 m cp2, .bool nb] 58)).alloc (.cells #[.int .i64 k, .int .u64 a, .int .u64 b, .int .u64 c, .int .u64 d, .slice q2 m cp2] 28))) := (HB.out.alloc HB.out.size _).alloc (by have := HB.out.size; simp; omega) _
      have HAB := Lib.hid (own_above HOA.out)
      have hwle : w1.heap.size ≤ wr.heap.size := HB.out.size
      clear hra hy hr hil hlen
      go_wp2_with (at_builtin; go_loud (refine wpList_append_own_at _ rfl _ _ 26 rfl w1.heap.size 28 i0 _ 6 64 Tryz.underlying26 hi0 hz0 hz1 hz2 rfl (by decide) _ _ _ rfl HOA.out ⟨wr.heap.size + 1, 0, none⟩ 1 1 [.int .i64 k, .int .u64 a, .int .u64 b, .int .u64 c, .int .u64 d, .slice q2 m cp2] rfl rfl ?c1 ?c2 ?c3 ?c4 ?c5 ?_))
      case c1 =>
        have h := new3 (wr.alloc (.cells #[.int .i64 k, .int .u64 a, .int .u64 b, .int .u64 c, .int .u64 d, .slice q2 m cp2, .bool nb] 58)) #[.int .i64 k, .int .u64 a, .int .u64 b, .int .u64 c, .int .u64 d, .slice q2 m cp2] 28 [.int .i64 k, .int .u64 a, .int .u64 b, .int .u64 c, .int .u64 d, .slice q2 m cp2] rfl
        rw [show (wr.alloc (.cells #[.int .i64 k, .int .u64 a, .int .u64 b, .int .u64 c, .int .u64 d, .slice q2 m cp2, .bool nb] 58)).heap.size = wr.heap.size + 1 by simp] at h
        exact h
      case c2 => intro x hx; simp at hx; rcases hx with rfl | rfl | rfl | rfl | rfl | rfl <;> rfl
      case c3 => unfold maxLen; omega
      case c4 => omega
      case c5 => simp; omega
      intro v' w4 hown hgrow _ hat
      obtain ⟨g4, cap4, rfl⟩ := (row_forms hown).resolve_left (fun h => by cases h.2)
      have HOWN := Lib.hid hown
      have HGROW := Lib.hid hgrow
      clear hown hgrow hat
      have e1 : (us.map FV.re).take (i + 1) = (us.map FV.re).take i ++ [⟨k, a, b, c, d, q2, m, cp2⟩] := by rw [List.take_add_one, List.getElem?_map, HY.out]; rfl
      have e2 : (l.map Prod.fst).take (i + 1) = (l.map Prod.fst).take i ++ [r.1] := by rw [List.take_add_one, List.getElem?_map, HR.out]; rfl
      have E1 := Lib.hid e1
      have E2 := Lib.hid e2
      clear e1 e2
      go_wp2
      go_roundg (n - (i + 1))
      case measure => omega
      case rel =>
        refine ⟨i + 1, _, _, rfl, by go_num, by omega, Nat.le_refl _, HBA.out.grown HGROW.out (by simp; omega) HAB.out, ?_⟩
        unfold Hid
        rw [E1.out, E2.out]
        refine HO.out.app (us := [⟨k, a, b, c, d, q2, m, cp2⟩]) (m := [r.1]) rfl (fun j y t hy ht => ?_) ?_
        · cases j with
          | zero => simp at hy ht; subst hy ht; exact HRA.out
          | succ j => simp at hy
        · have : ((l.map Prod.fst).take i).length = i := by have := HNUM.out; simp; omega
          rw [this]
          exact HOWN.out
    · have hltz : ¬ (i : Int) < (n : Int) := by omega
      have ei : i = n := by omega
      subst ei
      have e1 : (us.map FV.re).take i = us.map FV.re := List.take_of_length_le (by rw [List.length_map, HLEN.out, ← HNUM.out]; omega)
      have e2 : (l.map Prod.fst).take i = l.map Prod.fst := List.take_of_length_le (by rw [List.length_map, ← HNUM.out]; omega)
      rw [e1, e2] at HO
      obtain ⟨q', cp', hv, hk⟩ := HO.out.slice HB.out
      obtain ⟨rfl, hl, rfl⟩ : q = q' ∧ i = (l.map Prod.fst).length ∧ cp = cp' := by simp at hv; simp; exact hv
      rw [← hl] at hk
      have c6 := either_any wr hk (HT1.out.stays HB.out) (fun t ht => by obtain ⟨r, hr, rfl⟩ := List.mem_map.1 ht; exact HDEP.out r hr) HSZ.out
      have hDl : D < w1.heap.size := by rw [HS1.out]; omega
      have h5D : wr.heap[D]? = some (.cells #[.int .i64 0, .int .u64 0, .int .u64 0, .int .u64 0, .int .u64 0, .slice none 0 0] 28 (0, 0)) := (HB.out.block D hDl).trans HND.out
      have H5D := Lib.hid h5D
      rw [← HRE.out] at c6
      clear hv hk e1 e2 h5D hl
      go_wp2_with fail
      ((with_reducible refine c6.mono ?_))
      rintro _ w6 ⟨x, rfl, hx, hb6⟩
      obtain ⟨k, a, b, c, d, q6, m, cp6⟩ := x
      have h6D : w6.heap[D]? = some (.cells #[.int .i64 0, .int .u64 0, .int .u64 0, .int .u64 0, .int .u64 0, .slice none 0 0] 28 (0, 0)) := (hb6.block D (Nat.lt_of_lt_of_le hDl HB.out.size)).trans H5D.out
      have H6D := Lib.hid h6D
      have d0 : w6.cell? ⟨D, 0, none⟩ = some (.int .i64 0) := by simp [World.cell?, h6D]
      have d1 : w6.cell? ⟨D, 1, none⟩ = some (.int .u64 0) := by simp [World.cell?, h6D]
      have d2 : w6.cell? ⟨D, 2, none⟩ = some (.int .u64 0) := by simp [World.cell?, h6D]
      have d3 : w6.cell? ⟨D, 3, none⟩ = some (.int .u64 0) := by simp [World.cell?, h6D]
      have d4 : w6.cell? ⟨D, 4, none⟩ = some (.int .u64 0) := by simp [World.cell?, h6D]
      have d5 : w6.cell? ⟨D, 5, none⟩ = some (.slice none 0 0) := by simp [World.cell?, h6D]
      have f0 := frozen_no h6D 0
      have f1 := frozen_no h6D 1
      have f2 := frozen_no h6D 2
      have f3 := frozen_no h6D 3
      have f4 := frozen_no h6D 4
      have f5 := frozen_no h6D 5
      have HX := Lib.hid hx
      have HB6 := Lib.hid hb6
      clear hx hb6 h6D c6
      unfold ReV.val
      go_wp2
      refine bodyPost_ret_by (results_cell_row rfl _ _ D 28 #[.int .i64 k, .int .u64 a, .int .u64 b, .int .u64 c, .int .u64 d, .slice q6 m cp6] (0, 0) _ rfl (set6_heap H6D.out _ _ _ _ _ _) Tryz.underlying28 rfl (by kernel_rfl)) rfl ?_
      have hall : Below w.heap.size w w6 := HB1.out.trans ((HB.out.trans (HB6.out.mono HB.out.size)).mono HB1.out.size)
      refine ⟨⟨k, a, b, c, d, q6, m, cp6⟩, rfl, ?_, six_set hall (by have := HDD.out; omega) _ _ _ _ _ _⟩
      refine HX.out.kept (Keeps.of (by simp [World.setCell]) fun b hp hl => ?_)
      have hbD : b ≠ D := by
        have h1 := HDD.out
        have h2 := HS1.out
        have h3 := HB.out.size
        rcases hp with (⟨_, hp⟩ | hp) | hp <;> omega
      refine ⟨six_ne hbD _ _ _ _ _ _, ?_⟩
      have h3 := HB.out.size
      have h4 := HB1.out.size
      rcases hp with (⟨hp, _⟩ | hp) | hp
      · exact .inl hp
      · exact .inr (by omega)
      · exact .inr (by omega)

end Go.Proofs.YtclnadjgbpihcaaGreatDoor
