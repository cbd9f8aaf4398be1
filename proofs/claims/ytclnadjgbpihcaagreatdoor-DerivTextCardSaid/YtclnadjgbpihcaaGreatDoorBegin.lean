/- The text of an expression up to its kids. No condition but the library's table and size. -/
import Derived.Test.YtclnadjgbpihcaaGreatDoorWrR
import Derived.Test.YtclnadjgbpihcaaGreatDoorEvery
namespace Go.Proofs.YtclnadjgbpihcaaGreatDoor
open Go.RowKit Go.Lib
set_option linter.unusedVariables false
set_option linter.unusedSimpArgs false

theorem rgs_lt (f : Nat → Bool) : ∀ k, ∀ r ∈ rgs f k, r.1 < k ∧ r.2 < k
  | 0, r, h => by simp [rgs] at h
  | k + 1, r, h => by
    have ih := rgs_lt f k
    unfold rgs at h
    split at h
    · rcases List.eq_nil_or_concat (rgs f k) with hl | ⟨l', q, hl⟩
      · rw [hl, ext_nil] at h
        simp at h
        subst h
        simp
      · rw [List.concat_eq_append] at hl
        have hq := ih q (by rw [hl]; simp)
        rw [hl] at h
        by_cases c : q.2 + 1 = k
        · rw [ext_yes _ _ _ c] at h
          rcases List.mem_append.1 h with h | h
          · have := ih r (by rw [hl]; simp [h])
            omega
          · simp at h
            subst h
            simp
            omega
        · rw [ext_no _ _ _ c] at h
          rcases List.mem_append.1 h with h | h
          · have := ih r (by rw [hl]; exact h)
            omega
          · simp at h
            subst h
            simp
    · have := ih r h
      omega
theorem partK_kidsB (t : RT) : partK t = kidsB t := rfl
/-- A part: its kids, the next of them, what stands between them and behind them. -/
def partV (p : Option Addr) (n cap : Nat) (i : Nat) (bt en : Tx) : Array Value := #[.slice p n cap, .int .i64 (i : Int), .string ⟨bt.toArray⟩, .string ⟨en.toArray⟩]
theorem set4_heap {W : World} {D : Nat} {x y z u : Value} {t : TypeId} (h : W.heap[D]? = some (.cells #[x, y, z, u] t (0, 0))) (a b c d : Value) :
    ((((W.setCell ⟨D, 0, none⟩ a).setCell ⟨D, 1, none⟩ b).setCell ⟨D, 2, none⟩ c).setCell ⟨D, 3, none⟩ d).heap[D]? = some (.cells #[a, b, c, d] t (0, 0)) := by
  rw [heap_setCell_same _ D 3 _ _ _ (heap_setCell_same _ D 2 _ _ _ (heap_setCell_same _ D 1 _ _ _ (heap_setCell_same W D 0 _ _ a h)))]
  rfl
theorem IsB.other {T e : TypeId} {B b D o : Nat} {bs : List Value} {W : World} {v : Value} {cs : Array Value} {t : TypeId} {z : Nat × Nat} (h : Lib.IsBuilderF T e B b bs W) (hD : W.heap[D]? = some (.cells cs t z)) (ht : t ≠ e) (hb : D ≠ b) : Lib.IsBuilderF T e B b bs (W.setCell ⟨D, o, none⟩ v) := by
  have key : ∀ p, Lib.BuilderAtF T e B b p bs W → Lib.BuilderAtF T e B b p bs (W.setCell ⟨D, o, none⟩ v) := fun p ⟨h1, u, h2, h3, h4⟩ => by
    refine ⟨h1, u, (heap_set_ne _ _ _ (Ne.symm hb)).trans h2, ⟨h3.1, ?_⟩, h4⟩
    rcases h3.2 with q | ⟨g, cap, cur, fz, q1, q2, q3, rest⟩
    · exact .inl q
    · have hg : g ≠ D := fun e1 => by
        subst e1
        rw [hD] at q3
        injection q3 with q3
        injection q3 with _ q3
        exact ht q3
      exact .inr ⟨g, cap, cur, fz, q1, q2, (heap_set_ne _ _ _ hg).trans q3, rest⟩
  exact h.imp (key _) (key _)
theorem Wr.other {wB W : World} {B b D o : Nat} {T : Tx} {v : Value} {cs : Array Value} {t : TypeId} {z : Nat × Nat} (h : Wr wB B b T W) (hD : W.heap[D]? = some (.cells cs t z)) (ht : t ≠ 5) (hb : D ≠ b) (hB : B ≤ D) : Wr wB B b T (W.setCell ⟨D, o, none⟩ v) :=
  ⟨IsB.other h.bld hD ht hb, h.bel.setCell hB v⟩
theorem Kpt.setNew {B b D o : Nat} {w w1 : World} (h : Kpt B b w w1) (hD : w.heap.size ≤ D) (hB : B ≤ D) (v : Value) : Kpt B b w (w1.setCell ⟨D, o, none⟩ v) :=
  ⟨h.bel.setCell hB v, fun k x hk h1 h2 => (heap_set_ne _ _ _ (by have := (Array.getElem?_eq_some_iff.1 hk).1; omega)).trans (h.oth k x hk h1 h2)⟩
theorem Wr.four {wB W : World} {B b D : Nat} {T : Tx} {cs : Array Value} {t : TypeId} (h : Wr wB B b T W) (hD : W.heap[D]? = some (.cells cs t (0, 0))) (ht : t ≠ 5) (hb : D ≠ b) (hB : B ≤ D) (a1 a2 a3 a4 : Value) :
    Wr wB B b T ((((W.setCell ⟨D, 0, none⟩ a1).setCell ⟨D, 1, none⟩ a2).setCell ⟨D, 2, none⟩ a3).setCell ⟨D, 3, none⟩ a4) := by
  have h1 := h.other (o := 0) (v := a1) hD ht hb hB
  have d1 := heap_setCell_same W D 0 _ _ a1 hD
  have h2 := h1.other (o := 1) (v := a2) d1 ht hb hB
  have d2 := heap_setCell_same _ D 1 _ _ a2 d1
  have h3 := h2.other (o := 2) (v := a3) d2 ht hb hB
  have d3 := heap_setCell_same _ D 2 _ _ a3 d2
  exact h3.other (o := 3) (v := a4) d3 ht hb hB
def BeginOf (wB : World) (B b : Nat) (P : Nat → Prop) (T : Tx) (t : RT) (w : World) (e : Ending) (w' : World) : Prop :=
  ∃ pv nv cv vs, e = .returned (.agg (partV pv nv cv 0 (btwT t) (endT t))) ∧ KidsR w P pv nv cv vs (partK t) ∧ Wr wB B b (T ++ headT t) w' ∧ Kpt B b w w'
theorem kids_none (W : World) (P : Nat → Prop) : KidsR W P none 0 0 [] [] := ⟨.inl ⟨rfl, fun _ => rfl⟩, rfl, rfl, fun i y t hy => by simp at hy⟩

set_option maxRecDepth 100000 in
set_option maxHeartbeats 8000000 in
theorem begin_any {wB : World} {B b : Nat} {P : Nat → Prop} (hBB : wB.heap.size ≤ B) (hTB : Tab1 wB) (T : Tx) (hT : T.length ≤ 100000000000000) (w : World) (hw : Wr wB B b T w) (bo oo : Nat) (x : ReV) (t : RT) (hp : PlaceR w bo oo x) (ht : RAt w P x t) (hbo : bo ≠ b) :
    Calls Tryz.prog 89 #[.pointer (some ⟨b, 0, none⟩), .pointer (some ⟨bo, oo, none⟩)] w (BeginOf wB B b P T t w) := by
  obtain ⟨vs, et, hok, hkids⟩ := ht.kids
  have hbl := hw.b_lt
  obtain ⟨k, ka, kb, kc, kd, p, n, cap⟩ := x
  simp only [ReV.w4] at et hok
  have HWA := Lib.hid (hw.under ((Below.refl _ _).alloc (Nat.le_refl _) (.cells #[.slice none 0 0, .int .i64 0, .string ⟨#[]⟩, .string ⟨#[]⟩] 121)))
  have HKA : Hid (Kpt B b w (w.alloc (.cells #[.slice none 0 0, .int .i64 0, .string ⟨#[]⟩, .string ⟨#[]⟩] 121))) := Kpt.of ((Below.refl _ _).alloc (Nat.le_refl _) _) hw.bsize
  have HPA := Lib.hid (hp.under ((Below.refl _ _).alloc (Nat.le_refl _) (.cells #[.slice none 0 0, .int .i64 0, .string ⟨#[]⟩, .string ⟨#[]⟩] 121)))
  obtain ⟨p0, p1, p2, p3, p4, p5⟩ := HPA.out.six
  simp only at p0 p1 p2 p3 p4 p5
  have hn0 := heap_alloc_new w (.cells #[.slice none 0 0, .int .i64 0, .string ⟨#[]⟩, .string ⟨#[]⟩] 121)
  obtain ⟨D, hD⟩ : ∃ D, D = w.heap.size := ⟨_, rfl⟩
  have hDb : D ≠ b := by omega
  have hBD : B ≤ D := by omega
  have HW00 := Lib.hid hw
  have hDo : D ≠ bo := fun e => by have := hp.blk.lt; omega
  obtain ⟨W0, hW0⟩ : ∃ W0 : World, W0 = w.alloc (.cells #[.slice none 0 0, .int .i64 0, .string ⟨#[]⟩, .string ⟨#[]⟩] 121) := ⟨_, rfl⟩
  rw [← hD] at hn0
  rw [← hW0] at HWA HKA HPA hn0
  have HN0 := Lib.hid hn0
  have HT := Lib.hid et
  have HOK := Lib.hid hok
  have HKIDS := Lib.hid hkids
  have HTB := Lib.hid hTB
  have kindE : Hid (t.kind = k) := by rw [et]; rfl
  have setE : Hid (t.set = ⟨ka, kb, kc, kd⟩) := by rw [et]; rfl
  have after : ∀ (X : Tx) (w1 : World), Wr wB B b (T ++ X) w1 → Kpt B b W0 w1 → Hid (w1.heap[D]? = some (.cells #[.slice none 0 0, .int .i64 0, .string ⟨#[]⟩, .string ⟨#[]⟩] 121 (0, 0))) := fun X w1 h1 h2 => h2.block HN0.out hDb (by decide)
  have HAFT := Lib.hid after
  have hW0s : W0.heap.size = w.heap.size + 1 := by rw [hW0]; simp
  have HDD := Lib.hid hD
  clear et hok hkids hn0 hTB ht hp hw after hD
  by_cases k0 : k = 0
  · subst k0
    have hhd : headT t = [48] := by unfold headT; rw [kindE.out]; rfl
    have hbt : btwT t = [] := by unfold btwT; rw [kindE.out]; rfl
    have hen : endT t = [] := by unfold endT; rw [kindE.out]; rfl
    have hpk : partK t = [] := by unfold partK; rw [kindE.out]; rfl
    have HE := Lib.hid (And.intro hhd (And.intro hbt (And.intro hen hpk)))
    clear hhd hbt hen hpk
    have c1 := wstr_any HWA.out (X := [48]) (S := ⟨#[48]⟩) rfl (by simp; omega)
    go_enter Tryz.func89, Tryz.ntmps89
    go_wp2_with fail
    rw [← hW0]
    rw [← HDD.out]
    ((with_reducible refine c1.mono ?_))
    rintro _ w1 ⟨rfl, hw1, hk1⟩
    have hb1 := (HAFT.out _ w1 hw1 hk1).out
    have HW1 := Lib.hid hw1
    have HK1 := Lib.hid hk1
    have q0 : w1.cell? ⟨D, 0, none⟩ = some (.slice none 0 0) := by simp [World.cell?, hb1]
    have q1 : w1.cell? ⟨D, 1, none⟩ = some (.int .i64 0) := by simp [World.cell?, hb1]
    have q2 : w1.cell? ⟨D, 2, none⟩ = some (.string ⟨#[]⟩) := by simp [World.cell?, hb1]
    have q3 : w1.cell? ⟨D, 3, none⟩ = some (.string ⟨#[]⟩) := by simp [World.cell?, hb1]
    have qf : ∀ j, w1.frozen? ⟨D, j, none⟩ = false := fun j => by simp [World.frozen?, hb1]
    have qf0 := qf 0
    have qf1 := qf 1
    have qf2 := qf 2
    have qf3 := qf 3
    have HB1 := Lib.hid hb1
    clear hb1 hw1 hk1 c1 qf
    go_wp2
    obtain ⟨hhd, hbt, hen, hpk⟩ := HE.out
    refine bodyPost_ret_by (results_cell_row rfl _ _ D 121 (partV none 0 0 0 [] []) (0, 0) _ rfl (set4_heap HB1.out _ _ _ _) Tryz.underlying121 rfl (by kernel_rfl)) rfl ?_
    refine ⟨_, _, _, [], by rw [hbt, hen], by rw [hpk]; exact kids_none _ _, ?_, ?_⟩
    · rw [hhd]
      exact HW1.out.four HB1.out (by decide) hDb (by omega) _ _ _ _
    · exact ((((HKA.out.trans HK1.out).setNew (by have := HDD.out; omega) (by omega) _).setNew (by have := HDD.out; omega) (by omega) _).setNew (by have := HDD.out; omega) (by omega) _).setNew (by have := HDD.out; omega) (by omega) _
  by_cases k1 : k = 1
  · subst k1
    have hhd : headT t = [49] := by unfold headT; rw [kindE.out]; rfl
    have hbt : btwT t = [] := by unfold btwT; rw [kindE.out]; rfl
    have hen : endT t = [] := by unfold endT; rw [kindE.out]; rfl
    have hpk : partK t = [] := by unfold partK; rw [kindE.out]; rfl
    have HE := Lib.hid (And.intro hhd (And.intro hbt (And.intro hen hpk)))
    clear hhd hbt hen hpk
    have c1 := wstr_any HWA.out (X := [49]) (S := ⟨#[49]⟩) rfl (by simp; omega)
    go_enter Tryz.func89, Tryz.ntmps89
    go_wp2_with fail
    rw [← hW0]
    rw [← HDD.out]
    ((with_reducible refine c1.mono ?_))
    rintro _ w1 ⟨rfl, hw1, hk1⟩
    have hb1 := (HAFT.out _ w1 hw1 hk1).out
    have HW1 := Lib.hid hw1
    have HK1 := Lib.hid hk1
    have q0 : w1.cell? ⟨D, 0, none⟩ = some (.slice none 0 0) := by simp [World.cell?, hb1]
    have q1 : w1.cell? ⟨D, 1, none⟩ = some (.int .i64 0) := by simp [World.cell?, hb1]
    have q2 : w1.cell? ⟨D, 2, none⟩ = some (.string ⟨#[]⟩) := by simp [World.cell?, hb1]
    have q3 : w1.cell? ⟨D, 3, none⟩ = some (.string ⟨#[]⟩) := by simp [World.cell?, hb1]
    have qf : ∀ j, w1.frozen? ⟨D, j, none⟩ = false := fun j => by simp [World.frozen?, hb1]
    have qf0 := qf 0
    have qf1 := qf 1
    have qf2 := qf 2
    have qf3 := qf 3
    have HB1 := Lib.hid hb1
    clear hb1 hw1 hk1 c1 qf
    go_wp2
    obtain ⟨hhd, hbt, hen, hpk⟩ := HE.out
    refine bodyPost_ret_by (results_cell_row rfl _ _ D 121 (partV none 0 0 0 [] []) (0, 0) _ rfl (set4_heap HB1.out _ _ _ _) Tryz.underlying121 rfl (by kernel_rfl)) rfl ?_
    refine ⟨_, _, _, [], by rw [hbt, hen], by rw [hpk]; exact kids_none _ _, ?_, ?_⟩
    · rw [hhd]
      exact HW1.out.four HB1.out (by decide) hDb (by omega) _ _ _ _
    · exact ((((HKA.out.trans HK1.out).setNew (by have := HDD.out; omega) (by omega) _).setNew (by have := HDD.out; omega) (by omega) _).setNew (by have := HDD.out; omega) (by omega) _).setNew (by have := HDD.out; omega) (by omega) _
  by_cases k2 : k = 2
  · subst k2
    have hhd : headT t = 91 :: (rngT ⟨ka, kb, kc, kd⟩ ++ [93]) := by unfold headT; rw [kindE.out, setE.out]; rfl
    have hbt : btwT t = [] := by unfold btwT; rw [kindE.out]; rfl
    have hen : endT t = [] := by unfold endT; rw [kindE.out]; rfl
    have hpk : partK t = [] := by unfold partK; rw [kindE.out]; rfl
    have HE := Lib.hid (And.intro hhd (And.intro hbt (And.intro hen hpk)))
    clear hhd hbt hen hpk
    have hset := W4.isSet HOK.out
    simp only at hset
    have c1 := fun W (hW : TabD W) => ranges_any ka kb kc kd _ W hset hW
    have HR := Lib.hid (rgs_lt (W4.mem ⟨ka, kb, kc, kd⟩) 256)
    have hrl := rgs_len (W4.mem ⟨ka, kb, kc, kd⟩) 256
    have HRT := Lib.hid (rngT_is ⟨ka, kb, kc, kd⟩)
    obtain ⟨L, hL⟩ : ∃ L, L = rgs (W4.mem ⟨ka, kb, kc, kd⟩) 256 := ⟨_, rfl⟩
    rw [← hL] at HR hrl HRT c1
    clear hset hL
    go_enter Tryz.func89, Tryz.ntmps89
    go_wp2_with fail
    rw [← hW0, ← HDD.out]
    ((with_reducible refine (c1 _ (HTB.out.below HWA.out.bel hBB).bru).mono ?_))
    rintro _ w2 ⟨rv, rfl, hown, hb2⟩
    have HWB := Lib.hid (HWA.out.under hb2)
    have HKB := Lib.hid (HKA.out.under hb2 (by omega))
    have hbD2 : w2.heap[D]? = some (.cells #[.slice none 0 0, .int .i64 0, .string ⟨#[]⟩, .string ⟨#[]⟩] 121 (0, 0)) := (hb2.block D (by have := HDD.out; omega)).trans HN0.out
    have HBD2 := Lib.hid hbD2
    have hne : rv.ownBlock ≠ some b := fun e => by
      rcases row_forms hown with ⟨rfl, _⟩ | ⟨g, cap', rfl⟩
      · cases e
      · have h1 := (row_base hown).1
        simp [Value.ownBlock] at e
        omega
    have c2 := wranges_any hBB HTB.out L (fun r hr => by have := HR.out r hr; omega) hrl T hT w2 HWB.out _ rv hown hne
    clear hown hb2 hbD2 hne c1
    go_wp2_with fail
    ((with_reducible refine c2.mono ?_))
    rintro _ w1 ⟨rfl, hw1, hk1⟩
    have hb1 := hk1.block HBD2.out hDb (by decide)
    have HW1 := Lib.hid hw1
    have HK1 := Lib.hid hk1
    have q0 : w1.cell? ⟨D, 0, none⟩ = some (.slice none 0 0) := by simp [World.cell?, hb1]
    have q1 : w1.cell? ⟨D, 1, none⟩ = some (.int .i64 0) := by simp [World.cell?, hb1]
    have q2 : w1.cell? ⟨D, 2, none⟩ = some (.string ⟨#[]⟩) := by simp [World.cell?, hb1]
    have q3 : w1.cell? ⟨D, 3, none⟩ = some (.string ⟨#[]⟩) := by simp [World.cell?, hb1]
    have qf : ∀ j, w1.frozen? ⟨D, j, none⟩ = false := fun j => by simp [World.frozen?, hb1]
    have qf0 := qf 0
    have qf1 := qf 1
    have qf2 := qf 2
    have qf3 := qf 3
    have HB1 := Lib.hid hb1
    clear hb1 hw1 hk1 c2 qf
    go_wp2
    obtain ⟨hhd, hbt, hen, hpk⟩ := HE.out
    refine bodyPost_ret_by (results_cell_row rfl _ _ D 121 (partV none 0 0 0 [] []) (0, 0) _ rfl (set4_heap HB1.out _ _ _ _) Tryz.underlying121 rfl (by kernel_rfl)) rfl ?_
    refine ⟨_, _, _, [], by rw [hbt, hen], by rw [hpk]; exact kids_none _ _, ?_, ?_⟩
    · rw [hhd, HRT.out]
      exact HW1.out.four HB1.out (by decide) hDb (by omega) _ _ _ _
    · exact ((((HKB.out.trans HK1.out).setNew (by have := HDD.out; omega) (by omega) _).setNew (by have := HDD.out; omega) (by omega) _).setNew (by have := HDD.out; omega) (by omega) _).setNew (by have := HDD.out; omega) (by omega) _
  have q0 : (k == 0) = false := by simpa using k0
  have q1 : (k == 1) = false := by simpa using k1
  have q2 : (k == 2) = false := by simpa using k2
  have hpk0 : Hid (partK t = t.kids) := by unfold Hid partK; rw [kindE.out, if_neg (by simp [k0, k1, k2])]
  have HK0 := Lib.hid (And.intro k0 (And.intro k1 k2))
  by_cases k5 : k = 5
  · subst k5
    clear k0 k1 k2
    have hhd : headT t = [] := by unfold headT; rw [kindE.out]; rfl
    have hbt : btwT t = [] := by unfold btwT; rw [kindE.out]; rfl
    have hen : endT t = [42] := by unfold endT; rw [kindE.out]; rfl
    have hpk : partK t = t.kids := by unfold partK; rw [kindE.out]; rfl
    have HE := Lib.hid (And.intro hhd (And.intro hbt (And.intro hen hpk)))
    clear hhd hbt hen hpk
    go_enter Tryz.func89, Tryz.ntmps89
    go_wp2
    obtain ⟨hhd, hbt, hen, hpk⟩ := HE.out
    refine bodyPost_ret_by (results_cell_row rfl _ _ w.heap.size 121 (partV p n cap 0 [] [42]) (0, 0) _ rfl (heap_alloc_new w _) Tryz.underlying121 rfl (by kernel_rfl)) rfl ?_
    refine ⟨_, _, _, vs, by rw [hbt, hen], by rw [hpk]; exact HKIDS.out, ?_, Kpt.of ((Below.refl _ _).alloc (Nat.le_refl _) _) HW00.out.bsize⟩
    rw [hhd, List.append_nil]
    exact HW00.out.under ((Below.refl _ _).alloc (Nat.le_refl _) _)
  have q5 : (k == 5) = false := by simpa using k5
  by_cases k3 : k = 3
  · subst k3
    clear k0 k1 k2 k5
    have hhd : headT t = [40] := by unfold headT; rw [kindE.out]; rfl
    have hbt : btwT t = [] := by unfold btwT; rw [kindE.out]; rfl
    have hen : endT t = [41] := by unfold endT; rw [kindE.out]; rfl
    have hpk : partK t = t.kids := by exact hpk0.out
    have HE := Lib.hid (And.intro hhd (And.intro hbt (And.intro hen hpk)))
    clear hhd hbt hen hpk
    have c1 := wstr_any HWA.out (X := [40]) (S := ⟨#[40]⟩) rfl (by simp; omega)
    go_enter Tryz.func89, Tryz.ntmps89
    go_wp2_with fail
    rw [← hW0]
    rw [← HDD.out]
    ((with_reducible refine c1.mono ?_))
    rintro _ w1 ⟨rfl, hw1, hk1⟩
    have hb1 := (HAFT.out _ w1 hw1 hk1).out
    have HW1 := Lib.hid hw1
    have HK1 := Lib.hid hk1
    have q0 : w1.cell? ⟨D, 0, none⟩ = some (.slice none 0 0) := by simp [World.cell?, hb1]
    have q1 : w1.cell? ⟨D, 1, none⟩ = some (.int .i64 0) := by simp [World.cell?, hb1]
    have q2 : w1.cell? ⟨D, 2, none⟩ = some (.string ⟨#[]⟩) := by simp [World.cell?, hb1]
    have q3 : w1.cell? ⟨D, 3, none⟩ = some (.string ⟨#[]⟩) := by simp [World.cell?, hb1]
    have qf : ∀ j, w1.frozen? ⟨D, j, none⟩ = false := fun j => by simp [World.frozen?, hb1]
    have qf0 := qf 0
    have qf1 := qf 1
    have qf2 := qf 2
    have qf3 := qf 3
    obtain ⟨_, _, _, _, _, g5⟩ := (HPA.out.kept HK1.out.keeps hbo).six
    simp only at g5
    have HB1 := Lib.hid hb1
    clear hb1 hw1 hk1 c1 qf
    go_wp2
    obtain ⟨hhd, hbt, hen, hpk⟩ := HE.out
    refine bodyPost_ret_by (results_cell_row rfl _ _ D 121 (partV p n cap 0 [] [41]) (0, 0) _ rfl (set4_heap HB1.out _ _ _ _) Tryz.underlying121 rfl (by kernel_rfl)) rfl ?_
    refine ⟨_, _, _, vs, by rw [hbt, hen], by rw [hpk]; exact HKIDS.out, ?_, ?_⟩
    · rw [hhd]
      exact HW1.out.four HB1.out (by decide) hDb (by omega) _ _ _ _
    · exact ((((HKA.out.trans HK1.out).setNew (by have := HDD.out; omega) (by omega) _).setNew (by have := HDD.out; omega) (by omega) _).setNew (by have := HDD.out; omega) (by omega) _).setNew (by have := HDD.out; omega) (by omega) _
  · have q3 : (k == 3) = false := by simpa using k3
    have e1 : ¬ (k = 0 ∨ k = 1 ∨ k = 2 ∨ k = 3 ∨ k = 5) := by omega
    have e2 : ¬ (k = 0 ∨ k = 1 ∨ k = 2) := by omega
    have hhd : headT t = [123] := by unfold headT; rw [kindE.out]; rw [if_neg k0, if_neg k1, if_neg k2, if_neg k5, if_neg k3]
    have hbt : btwT t = [124] := by unfold btwT; rw [kindE.out]; rw [if_neg e1]
    have hen : endT t = [125] := by unfold endT; rw [kindE.out]; rw [if_neg e2, if_neg k5, if_neg k3]
    have hpk : partK t = t.kids := by exact hpk0.out
    have HE := Lib.hid (And.intro hhd (And.intro hbt (And.intro hen hpk)))
    clear hhd hbt hen hpk k0 k1 k2 k3 k5 e1 e2
    have c1 := wstr_any HWA.out (X := [123]) (S := ⟨#[123]⟩) rfl (by simp; omega)
    go_enter Tryz.func89, Tryz.ntmps89
    go_wp2_with fail
    rw [← hW0]
    rw [← HDD.out]
    ((with_reducible refine c1.mono ?_))
    rintro _ w1 ⟨rfl, hw1, hk1⟩
    have hb1 := (HAFT.out _ w1 hw1 hk1).out
    have HW1 := Lib.hid hw1
    have HK1 := Lib.hid hk1
    have q0 : w1.cell? ⟨D, 0, none⟩ = some (.slice none 0 0) := by simp [World.cell?, hb1]
    have q1 : w1.cell? ⟨D, 1, none⟩ = some (.int .i64 0) := by simp [World.cell?, hb1]
    have q2 : w1.cell? ⟨D, 2, none⟩ = some (.string ⟨#[]⟩) := by simp [World.cell?, hb1]
    have q3 : w1.cell? ⟨D, 3, none⟩ = some (.string ⟨#[]⟩) := by simp [World.cell?, hb1]
    have qf : ∀ j, w1.frozen? ⟨D, j, none⟩ = false := fun j => by simp [World.frozen?, hb1]
    have qf0 := qf 0
    have qf1 := qf 1
    have qf2 := qf 2
    have qf3 := qf 3
    obtain ⟨_, _, _, _, _, g5⟩ := (HPA.out.kept HK1.out.keeps hbo).six
    simp only at g5
    have HB1 := Lib.hid hb1
    clear hb1 hw1 hk1 c1 qf
    go_wp2
    obtain ⟨hhd, hbt, hen, hpk⟩ := HE.out
    refine bodyPost_ret_by (results_cell_row rfl _ _ D 121 (partV p n cap 0 [124] [125]) (0, 0) _ rfl (set4_heap HB1.out _ _ _ _) Tryz.underlying121 rfl (by kernel_rfl)) rfl ?_
    refine ⟨_, _, _, vs, by rw [hbt, hen], by rw [hpk]; exact HKIDS.out, ?_, ?_⟩
    · rw [hhd]
      exact HW1.out.four HB1.out (by decide) hDb (by omega) _ _ _ _
    · exact ((((HKA.out.trans HK1.out).setNew (by have := HDD.out; omega) (by omega) _).setNew (by have := HDD.out; omega) (by omega) _).setNew (by have := HDD.out; omega) (by omega) _).setNew (by have := HDD.out; omega) (by omega) _

end Go.Proofs.YtclnadjgbpihcaaGreatDoor

