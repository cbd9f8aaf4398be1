/- The law's expressions by numbers, as deep as they may be. No condition. -/
import Derived.Test.YtddbaacibdmnaaaGreatDoorTMk
namespace Go.Proofs.YtddbaacibdmnaaaGreatDoor
open Go.RowKit
set_option linter.unusedVariables false
set_option linter.unusedSimpArgs false

set_option maxRecDepth 100000 in
set_option maxHeartbeats 8000000 in
theorem expr_succ {d : Nat} (hd : d ≤ 10) (ih : AskX d) : AskX (d + 1) := by
  intro R a v zs w D hD h hc
  have hR := h.lt
  have HIH : Hid (AskX d) := @ih
  have HZ : Hid (ZeroAt (w.alloc (.cells #[.int .i64 0, .string ⟨#[]⟩, .slice none 0 0, .int .i64 0, .int .i64 0, .slice none 0 0] 36)) w.heap.size) := heap_alloc_new w _
  have HP := Lib.hid (h.alloc (.cells #[.int .i64 0, .string ⟨#[]⟩, .slice none 0 0, .int .i64 0, .int .i64 0, .slice none 0 0] 36))
  have HG := Lib.hid (World.grownBy_alloc w (.cells #[.int .i64 0, .string ⟨#[]⟩, .slice none 0 0, .int .i64 0, .int .i64 0, .slice none 0 0] 36) (some R))
  have hk := pickF_lt zs a (n := 12) (by omega)
  obtain ⟨k, hk0⟩ : ∃ k, k = pickF zs a 12 := ⟨_, rfl⟩
  rw [← hk0] at hk
  have HK := Lib.hid hk0
  have hcr : 5 + 3 * mkCost d ≤ mkCost (d + 1) := Nat.le_refl _
  have hc0 : 4 ≤ mkCost d := by
    cases d with
    | zero => decide
    | succ d => simp only [mkCost]; omega
  have hD1 : decide (D < 1) = false := decide_eq_false (by omega)
  have hDw : wrap64 (D - 1) = D - 1 := Go.IntWalk.wrap64_in _ (by omega)
  have hDi : IntKind.i64.wrap (D - 1) = D - 1 := wrap_in _ (by omega)
  have HD := Lib.hid hD
  clear h hk0 ih hD
  obtain g | g | g | g | g | g : k < 2 ∨ k = 2 ∨ k = 3 ∨ k = 4 ∨ (k = 5 ∨ k = 6) ∨ 7 ≤ k := by omega
  · have q2 : decide ((k : Int) < 2) = true := decide_eq_true (by omega)
    obtain ⟨x, hx, hcell⟩ := word_at (pickF zs (a + 1) 5) (by have := pickF_lt zs (a + 1) (n := 5) (by omega); omega)
    have HX := Lib.hid hx
    clear hx
    go_enter Tryz.func12, Tryz.ntmps12
    go_wp2_with fail
    refine (pick_any (n := 12) HP.out (by omega) (by omega)).mono ?_
    rintro e w1 ⟨rfl, hp, hg⟩
    rw [← HK.out]
    have HP1 := Lib.hid hp
    have hz1 : w.heap.size + 1 ≤ w1.heap.size := by have := hg.size; simp at this; omega
    have HG1 := Lib.hid (HG.out.trans hg)
    have HZ1 := Lib.hid (HZ.out.grown hg (by omega))
    clear hp hg HP HG HZ
    have HPC := Lib.hid (pick_cell w1 #[.string ⟨#[97]⟩, .string ⟨#[98]⟩, .string ⟨#[99]⟩, .string ⟨#[119, 111, 114, 100]⟩, .string ⟨#[120, 45, 49]⟩] 9 _ hcell)
    have hj := pickF_lt zs (a + 1) (n := 5) (by omega)
    go_wp2_with fail
    refine (pick_any (n := 5) (HP1.out.alloc _) (by omega) (by omega)).mono ?_
    rintro e w2 ⟨rfl, hp, hg⟩
    have hc2 := cell_grown HPC.out hg (by simp) (by omega)
    obtain ⟨j, hj0⟩ : ∃ j, j = pickF zs (a + 1) 5 := ⟨_, rfl⟩
    rw [← hj0] at hc2 hj ⊢
    have HP2 := Lib.hid hp
    have HG2 := Lib.hid ((grown_alloc HG1.out _).trans hg)
    have HR2 := Lib.hid ((HZ1.out.alloc _).grown hg (by omega)).res
    obtain ⟨s, hs⟩ : ∃ s, s = strOf x := ⟨_, rfl⟩
    rw [← hs] at hc2
    have HEND : Hid (MakesX R v zs a (mkCost (d + 1)) (d + 1) w (.returned (XV.val ⟨4, s, .slice none 0 0, 0, 0, .slice none 0 0⟩)) (w2.setRow w.heap.size (XV.arr ⟨4, s, .slice none 0 0, 0, 0, .slice none 0 0⟩))) := by
      rw [hs]
      exact makes_end (TopAt.leaf _ _ _ _ _ _) (.ref HX.out) (a' := a + 1 + 1) (by omega) HP2.out HG2.out hR
    clear hp hg HP1 HG1 HZ1 HPC hcell hj0 hs
    go_wp2_with (refine store_res rfl _ _ rfl w.heap.size ⟨4, s, .slice none 0 0, 0, 0, .slice none 0 0⟩ rfl rfl HR2.out rfl rfl ?_)
    exact bodyPost_ret_by (run_res rfl _ _ w.heap.size ⟨4, s, .slice none 0 0, 0, 0, .slice none 0 0⟩ rfl HR2.out) rfl HEND.out
  · subst g
    obtain ⟨x, hx, hcell⟩ := fold_at (pickF zs (a + 1) 5) (by have := pickF_lt zs (a + 1) (n := 5) (by omega); omega)
    have HX := Lib.hid hx
    clear hx
    go_enter Tryz.func12, Tryz.ntmps12
    go_wp2_with fail
    refine (pick_any (n := 12) HP.out (by omega) (by omega)).mono ?_
    rintro e w1 ⟨rfl, hp, hg⟩
    rw [← HK.out]
    have HP1 := Lib.hid hp
    have hz1 : w.heap.size + 1 ≤ w1.heap.size := by have := hg.size; simp at this; omega
    have HG1 := Lib.hid (HG.out.trans hg)
    have HZ1 := Lib.hid (HZ.out.grown hg (by omega))
    clear hp hg HP HG HZ
    have HPC := Lib.hid (pick_cell w1 #[.string ⟨#[]⟩, .string ⟨#[97]⟩, .string ⟨#[98, 32, 99]⟩, .string ⟨#[120, 59]⟩, .string ⟨#[105, 102]⟩] 9 _ hcell)
    have hj := pickF_lt zs (a + 1) (n := 5) (by omega)
    go_wp2_with fail
    refine (pick_any (n := 5) (HP1.out.alloc _) (by omega) (by omega)).mono ?_
    rintro e w2 ⟨rfl, hp, hg⟩
    have hc2 := cell_grown HPC.out hg (by simp) (by omega)
    obtain ⟨j, hj0⟩ : ∃ j, j = pickF zs (a + 1) 5 := ⟨_, rfl⟩
    rw [← hj0] at hc2 hj ⊢
    have HP2 := Lib.hid hp
    have HG2 := Lib.hid ((grown_alloc HG1.out _).trans hg)
    have HR2 := Lib.hid ((HZ1.out.alloc _).grown hg (by omega)).res
    obtain ⟨s, hs⟩ : ∃ s, s = strOf x := ⟨_, rfl⟩
    rw [← hs] at hc2
    have HEND : Hid (MakesX R v zs a (mkCost (d + 1)) (d + 1) w (.returned (XV.val ⟨5, s, .slice none 0 0, 0, 0, .slice none 0 0⟩)) (w2.setRow w.heap.size (XV.arr ⟨5, s, .slice none 0 0, 0, 0, .slice none 0 0⟩))) := by
      rw [hs]
      exact makes_end (TopAt.leaf _ _ _ _ _ _) (.fold HX.out) (a' := a + 1 + 1) (by omega) HP2.out HG2.out hR
    clear hp hg HP1 HG1 HZ1 HPC hcell hj0 hs
    go_wp2_with (refine store_res rfl _ _ rfl w.heap.size ⟨5, s, .slice none 0 0, 0, 0, .slice none 0 0⟩ rfl rfl HR2.out rfl rfl ?_)
    exact bodyPost_ret_by (run_res rfl _ _ w.heap.size ⟨5, s, .slice none 0 0, 0, 0, .slice none 0 0⟩ rfl HR2.out) rfl HEND.out
  · subst g
    obtain ⟨n, hn, hcell⟩ := num_at (pickF zs (a + 1) 5) (by have := pickF_lt zs (a + 1) (n := 5) (by omega); omega)
    have HN := Lib.hid hn
    clear hn
    have hj := pickF_lt zs (a + 1) (n := 5) (by omega)
    have hm1 := pickF_lt zs (a + 1 + 1) (n := 4) (by omega)
    have hm2 := pickF_lt zs (a + 1 + 1 + 1) (n := 2) (by omega)
    go_enter Tryz.func12, Tryz.ntmps12
    go_wp2_with fail
    refine (pick_any (n := 12) HP.out (by omega) (by omega)).mono ?_
    rintro e w1 ⟨rfl, hp, hg⟩
    rw [← HK.out]
    have HP1 := Lib.hid hp
    have hz1 : w.heap.size + 1 ≤ w1.heap.size := by have := hg.size; simp at this; omega
    have HG1 := Lib.hid (HG.out.trans hg)
    have HZ1 := Lib.hid (HZ.out.grown hg (by omega))
    clear hp hg HP HG HZ
    have HCW := Lib.hid (fun W => pick_cell W #[.int .i64 0, .int .i64 65, .int .i64 10, .int .i64 255, .int .i64 1114111] 3 _ hcell)
    clear hcell
    obtain ⟨j, hj0⟩ : ∃ j, j = pickF zs (a + 1) 5 := ⟨_, rfl⟩
    obtain ⟨m1, hm10⟩ : ∃ j, j = pickF zs (a + 1 + 1) 4 := ⟨_, rfl⟩
    obtain ⟨m2, hm20⟩ : ∃ j, j = pickF zs (a + 1 + 1 + 1) 2 := ⟨_, rfl⟩
    rw [← hj0] at hj HCW
    rw [← hm10] at hm1
    rw [← hm20] at hm2
    have hwr1 : IntKind.i64.wrap (97 + (m1 : Int)) = 97 + (m1 : Int) := wrap_in _ (by omega)
    have hs1 : 0 ≤ 1 + (m2 : Int) := by omega
    have hs2 : 1 + (m2 : Int) ≤ 2 := by omega
    have hs3 : (1 + (m2 : Int)).toNat = m2 + 1 := by omega
    have hwr2 : IntKind.i64.wrap (1 + (m2 : Int)) = 1 + (m2 : Int) := wrap_in _ (by omega)
    have HJ0 := Lib.hid hj0
    have HM1 := Lib.hid hm10
    have HM2 := Lib.hid hm20
    clear hj0 hm10 hm20
    go_wp2_with fail
    go_cut [] from 37 to 51 (fun W => ∃ (X : XV) (W0 : World), ZeroAt W0 w.heap.size ∧ W = W0.setRow w.heap.size X.arr ∧ MakesX R v zs a (mkCost (d + 1)) (d + 1) w (.returned X.val) W)
    case rest =>
      obtain ⟨X, W0, hz, rfl, hM⟩ := hcut
      go_wp2_with fail
      exact bodyPost_ret_by (run_res rfl _ _ w.heap.size X rfl hz.res) rfl hM
    go_region_law (first
      | (go_simp; go_at_call 11; (with_reducible (refine (pick_any (W := w1.drew) (n := 5) (PickAt.drew HP1.out) (by omega) (by omega)).mono ?_)); rintro e w2 ⟨rfl, hp, hg⟩; have hz2 : w1.heap.size + 0 ≤ w2.heap.size := (by have hs := hg.size; (try simp at hs); omega); rw [← HJ0.out]; have HP2 := Lib.hid hp; have HG2 := Lib.hid (grownBy_step hg (grown_drew1 HG1.out)); have F2 := HCW.out w2; have HZ2 := Lib.hid (ZeroAt.grown (W := w1.drew) HZ1.out hg (by omega)); clear hp hg)
      | (go_simp; go_at_call 11; (with_reducible (refine (pick_any (W := (w1.alloc (.cells #[.int .i64 0, .int .i64 65, .int .i64 10, .int .i64 255, .int .i64 1114111] 3)).drew) (n := 5) (PickAt.drew (PickAt.alloc HP1.out _)) (by omega) (by omega)).mono ?_)); rintro e w2 ⟨rfl, hp, hg⟩; have hz2 : w1.heap.size + 1 ≤ w2.heap.size := (by have hs := hg.size; (try simp at hs); omega); rw [← HJ0.out]; have HP2 := Lib.hid hp; have HG2 := Lib.hid (grownBy_step hg (grown_drew1 (grown_alloc HG1.out _))); have F1 : w2.cell? ⟨w1.heap.size, j, none⟩ = some (.int .i64 n) := cell_grown (W := (w1.alloc (.cells #[.int .i64 0, .int .i64 65, .int .i64 10, .int .i64 255, .int .i64 1114111] 3)).drew) (HCW.out w1) hg (by simp) (by omega); have HZ2 := Lib.hid (ZeroAt.grown (W := (w1.alloc (.cells #[.int .i64 0, .int .i64 65, .int .i64 10, .int .i64 255, .int .i64 1114111] 3)).drew) (HZ1.out.alloc _) hg (by omega)); clear hp hg)
      | (go_simp; go_at_call 11; (with_reducible (refine (pick_any (W := w2) (n := 4) HP2.out (by omega) (by omega)).mono ?_)); rintro e w3 ⟨rfl, hp, hg⟩; have hz3 : w2.heap.size + 0 ≤ w3.heap.size := (by have hs := hg.size; (try simp at hs); omega); rw [← HM1.out]; have HP3 := Lib.hid hp; have HG3 := Lib.hid (grownBy_step hg HG2.out); have F3 := HCW.out w3; (try (have F4 := cell_grown F1 hg (by omega) (by omega))); have HZ3 := Lib.hid (ZeroAt.grown HZ2.out hg (by omega)); clear hp hg)
      | (go_simp; go_at_call 11; (with_reducible (refine (pick_any (W := w2.alloc (.cells #[.int .i64 0, .int .i64 65, .int .i64 10, .int .i64 255, .int .i64 1114111] 3)) (n := 4) (PickAt.alloc HP2.out _) (by omega) (by omega)).mono ?_)); rintro e w3 ⟨rfl, hp, hg⟩; have hz3 : w2.heap.size + 1 ≤ w3.heap.size := (by have hs := hg.size; (try simp at hs); omega); rw [← HM1.out]; have HP3 := Lib.hid hp; have HG3 := Lib.hid (grownBy_step hg (grown_alloc HG2.out _)); have F4 := cell_grown F2 hg (by simp) (by omega); have HZ3 := Lib.hid (ZeroAt.grown (HZ2.out.alloc _) hg (by omega)); clear hp hg)
      | (go_simp; go_at_call 11; (with_reducible (refine (pick_any (W := w3) (n := 2) HP3.out (by omega) (by omega)).mono ?_)); rintro e w4 ⟨rfl, hp, hg⟩; have hz4 : w3.heap.size + 0 ≤ w4.heap.size := (by have hs := hg.size; (try simp at hs); omega); rw [← HM2.out]; have HP4 := Lib.hid hp; have HG4 := Lib.hid (grownBy_step hg HG3.out); have F5 := HCW.out w4; (try (have F6 := cell_grown F4 hg (by omega) (by omega))); have HZ4 := Lib.hid (ZeroAt.grown HZ3.out hg (by omega)); obtain ⟨z0, z1, z2, z3, z4, z5, y0, y1, y2, y3, y4, y5⟩ := HZ4.out.cells; obtain ⟨t0, t1, t2, t3, t4, t5, x0, x1, x2, x3, x4, x5⟩ := (HZ4.out.alloc (.cells #[.int .i64 n, .int .i64 (97 + (m1 : Int))] 3)).cells; obtain ⟨p0, p1, p2, p3, p4, p5, r0, r1, r2, r3, r4, r5⟩ := ((HZ4.out.alloc (.cells #[.int .i64 0, .int .i64 65, .int .i64 10, .int .i64 255, .int .i64 1114111] 3)).alloc (.cells #[.int .i64 n, .int .i64 (97 + (m1 : Int))] 3)).cells; clear hp hg)
      | (go_simp; go_at_call 11; (with_reducible (refine (pick_any (W := w3.alloc (.cells #[.int .i64 0, .int .i64 65, .int .i64 10, .int .i64 255, .int .i64 1114111] 3)) (n := 2) (PickAt.alloc HP3.out _) (by omega) (by omega)).mono ?_)); rintro e w4 ⟨rfl, hp, hg⟩; have hz4 : w3.heap.size + 1 ≤ w4.heap.size := (by have hs := hg.size; (try simp at hs); omega); rw [← HM2.out]; have HP4 := Lib.hid hp; have HG4 := Lib.hid (grownBy_step hg (grown_alloc HG3.out _)); have F6 := cell_grown F3 hg (by simp) (by omega); have HZ4 := Lib.hid (ZeroAt.grown (ZeroAt.alloc HZ3.out _) hg (by omega)); obtain ⟨z0, z1, z2, z3, z4, z5, y0, y1, y2, y3, y4, y5⟩ := HZ4.out.cells; obtain ⟨t0, t1, t2, t3, t4, t5, x0, x1, x2, x3, x4, x5⟩ := (HZ4.out.alloc (.cells #[.int .i64 n, .int .i64 (97 + (m1 : Int))] 3)).cells; clear hp hg)
      | (go_simp; go_at_call 11; (with_reducible (refine (pick_any (W := w3.alloc (.cells #[.int .i64 n, .int .i64 (97 + (m1 : Int))] 3)) (n := 2) (PickAt.alloc HP3.out _) (by omega) (by omega)).mono ?_)); rintro e w4 ⟨rfl, hp, hg⟩; have hz4 : w3.heap.size + 1 ≤ w4.heap.size := (by have hs := hg.size; (try simp at hs); omega); rw [← HM2.out]; have HP4 := Lib.hid hp; have HG4 := Lib.hid (grownBy_step hg (grown_alloc HG3.out _)); have HBB := Lib.hid ((hg.block w3.heap.size (by simp) (fun e => by have := Option.some.inj e; have := HP3.out.lt; omega)).trans (heap_alloc_new w3 _)); have HZ4 := Lib.hid (ZeroAt.grown (ZeroAt.alloc HZ3.out _) hg (by omega)); obtain ⟨z0, z1, z2, z3, z4, z5, y0, y1, y2, y3, y4, y5⟩ := HZ4.out.cells; clear hp hg)
      | (go_simp; go_at_call 11; (with_reducible (refine (pick_any (W := (w3.alloc (.cells #[.int .i64 0, .int .i64 65, .int .i64 10, .int .i64 255, .int .i64 1114111] 3)).alloc (.cells #[.int .i64 n, .int .i64 (97 + (m1 : Int))] 3)) (n := 2) (PickAt.alloc (PickAt.alloc HP3.out _) _) (by omega) (by omega)).mono ?_)); rintro e w4 ⟨rfl, hp, hg⟩; have hz4 : w3.heap.size + 2 ≤ w4.heap.size := (by have hs := hg.size; (try simp at hs); omega); rw [← HM2.out]; have HP4 := Lib.hid hp; have HG4 := Lib.hid (grownBy_step hg (grown_alloc (grown_alloc HG3.out _) _)); have HBB := Lib.hid ((hg.block (w3.heap.size + 1) (by simp) (fun e => by have := Option.some.inj e; have := HP3.out.lt; omega)).trans (heap_top _ _ _ (by simp))); have HZ4 := Lib.hid (ZeroAt.grown (ZeroAt.alloc (ZeroAt.alloc HZ3.out _) _) hg (by omega)); obtain ⟨z0, z1, z2, z3, z4, z5, y0, y1, y2, y3, y4, y5⟩ := HZ4.out.cells; clear hp hg)
      | fail)
    all_goals first
      | (rw [set_six (W := (w4.alloc (.cells #[.int .i64 0, .int .i64 65, .int .i64 10, .int .i64 255, .int .i64 1114111] 3)).alloc (.cells #[.int .i64 n, .int .i64 (97 + (m1 : Int))] 3)) (ZeroAt.alloc (ZeroAt.alloc HZ4.out _) _)]; have HEND := Lib.hid (nums_end (a := a) (c := mkCost (d + 1)) (d := d + 1) (m1 := m1) (m2 := m2) (w := w) (W := (w4.alloc (.cells #[.int .i64 0, .int .i64 65, .int .i64 10, .int .i64 255, .int .i64 1114111] 3)).alloc (.cells #[.int .i64 n, .int .i64 (97 + (m1 : Int))] 3)) (g := w4.heap.size + 1) HN.out (heap_top _ _ _ (by simp)) (by omega) (by omega) (by omega) (by omega) (PickAt.alloc (PickAt.alloc HP4.out _) _) (grown_alloc (grown_alloc HG4.out _) _) hR); (try clear z0 z1 z2 z3 z4 z5 y0 y1 y2 y3 y4 y5); (try clear t0 t1 t2 t3 t4 t5 x0 x1 x2 x3 x4 x5); (try clear p0 p1 p2 p3 p4 p5 r0 r1 r2 r3 r4 r5); (try clear F1); (try clear F2); (try clear F3); (try clear F4); (try clear F5); (try clear F6); go_wp2_with fail; go_meet; exact ⟨⟨6, ⟨#[]⟩, .slice (some ⟨w4.heap.size + 1, 0, none⟩) (m2 + 1) 2, 0, 0, .slice none 0 0⟩, _, (ZeroAt.alloc (ZeroAt.alloc HZ4.out _) _), rfl, HEND.out⟩)
      | (rw [set_six (W := w4.alloc (.cells #[.int .i64 n, .int .i64 (97 + (m1 : Int))] 3)) (ZeroAt.alloc HZ4.out _)]; have HEND := Lib.hid (nums_end (a := a) (c := mkCost (d + 1)) (d := d + 1) (m1 := m1) (m2 := m2) (w := w) (W := w4.alloc (.cells #[.int .i64 n, .int .i64 (97 + (m1 : Int))] 3)) (g := w4.heap.size) HN.out (heap_top _ _ _ rfl) (by omega) (by omega) (by omega) (by omega) (PickAt.alloc HP4.out _) (grown_alloc HG4.out _) hR); (try clear z0 z1 z2 z3 z4 z5 y0 y1 y2 y3 y4 y5); (try clear t0 t1 t2 t3 t4 t5 x0 x1 x2 x3 x4 x5); (try clear p0 p1 p2 p3 p4 p5 r0 r1 r2 r3 r4 r5); (try clear F1); (try clear F2); (try clear F3); (try clear F4); (try clear F5); (try clear F6); go_wp2_with fail; go_meet; exact ⟨⟨6, ⟨#[]⟩, .slice (some ⟨w4.heap.size, 0, none⟩) (m2 + 1) 2, 0, 0, .slice none 0 0⟩, _, (ZeroAt.alloc HZ4.out _), rfl, HEND.out⟩)
      | (rw [set_six (W := w4) HZ4.out]; have HEND := Lib.hid (nums_end (a := a) (c := mkCost (d + 1)) (d := d + 1) (m1 := m1) (m2 := m2) (w := w) (W := w4) (g := w3.heap.size + 1) HN.out HBB.out (by omega) (by omega) (by omega) (by omega) HP4.out HG4.out hR); (try clear z0 z1 z2 z3 z4 z5 y0 y1 y2 y3 y4 y5); (try clear t0 t1 t2 t3 t4 t5 x0 x1 x2 x3 x4 x5); (try clear p0 p1 p2 p3 p4 p5 r0 r1 r2 r3 r4 r5); (try clear F1); (try clear F2); (try clear F3); (try clear F4); (try clear F5); (try clear F6); go_wp2_with fail; go_meet; exact ⟨⟨6, ⟨#[]⟩, .slice (some ⟨w3.heap.size + 1, 0, none⟩) (m2 + 1) 2, 0, 0, .slice none 0 0⟩, _, HZ4.out, rfl, HEND.out⟩)
      | (rw [set_six (W := w4) HZ4.out]; have HEND := Lib.hid (nums_end (a := a) (c := mkCost (d + 1)) (d := d + 1) (m1 := m1) (m2 := m2) (w := w) (W := w4) (g := w3.heap.size) HN.out HBB.out (by omega) (by omega) (by omega) (by omega) HP4.out HG4.out hR); (try clear z0 z1 z2 z3 z4 z5 y0 y1 y2 y3 y4 y5); (try clear t0 t1 t2 t3 t4 t5 x0 x1 x2 x3 x4 x5); (try clear p0 p1 p2 p3 p4 p5 r0 r1 r2 r3 r4 r5); (try clear F1); (try clear F2); (try clear F3); (try clear F4); (try clear F5); (try clear F6); go_wp2_with fail; go_meet; exact ⟨⟨6, ⟨#[]⟩, .slice (some ⟨w3.heap.size, 0, none⟩) (m2 + 1) 2, 0, 0, .slice none 0 0⟩, _, HZ4.out, rfl, HEND.out⟩)
      | fail
  · subst g
    have hn1 := pickF_lt zs (a + 1) (n := 200) (by omega)
    have hn2 := pickF_lt zs (a + 1 + 1) (n := 60) (by omega)
    go_enter Tryz.func12, Tryz.ntmps12
    go_wp2_with fail
    refine (pick_any (n := 12) HP.out (by omega) (by omega)).mono ?_
    rintro e w1 ⟨rfl, hp, hg⟩
    rw [← HK.out]
    have HP1 := Lib.hid hp
    have hz1 : w.heap.size + 1 ≤ w1.heap.size := by have := hg.size; simp at this; omega
    have HG1 := Lib.hid (HG.out.trans hg)
    have HZ1 := Lib.hid (HZ.out.grown hg (by omega))
    clear hp hg HP HG HZ
    obtain ⟨n1, hn10⟩ : ∃ j, j = pickF zs (a + 1) 200 := ⟨_, rfl⟩
    obtain ⟨n2, hn20⟩ : ∃ j, j = pickF zs (a + 1 + 1) 60 := ⟨_, rfl⟩
    rw [← hn10] at hn1
    rw [← hn20] at hn2
    have HN1 := Lib.hid hn10
    have HN2 := Lib.hid hn20
    clear hn10 hn20
    go_wp2_with fail
    refine (pick_any (n := 200) HP1.out (by omega) (by omega)).mono ?_
    rintro e w2 ⟨rfl, hp, hg⟩
    rw [← HN1.out]
    have HP2 := Lib.hid hp
    have HG2 := Lib.hid (HG1.out.trans hg)
    have HZ2 := Lib.hid (HZ1.out.grown hg (by omega))
    have hz2 : w.heap.size + 1 ≤ w2.heap.size := by have := hg.size; omega
    clear hp hg HP1 HG1 HZ1
    go_wp2_with fail
    refine (pick_any (n := 60) HP2.out (by omega) (by omega)).mono ?_
    rintro e w3 ⟨rfl, hp, hg⟩
    rw [← HN2.out]
    have HP3 := Lib.hid (hp.alloc (.cells #[.int .i64 (n1 : Int), .int .i64 ((n1 : Int) + (n2 : Int))] 3))
    have HG3 := Lib.hid (grown_alloc (HG2.out.trans hg) (.cells #[.int .i64 (n1 : Int), .int .i64 ((n1 : Int) + (n2 : Int))] 3))
    have HZ3 := Lib.hid ((HZ2.out.grown hg (by omega)).alloc (.cells #[.int .i64 (n1 : Int), .int .i64 ((n1 : Int) + (n2 : Int))] 3))
    have hz3 : w.heap.size + 1 ≤ w3.heap.size := by have := hg.size; omega
    have HEND : Hid (MakesX R v zs a (mkCost (d + 1)) (d + 1) w (.returned (XV.val ⟨7, ⟨#[]⟩, .slice (some ⟨w3.heap.size, 0, none⟩) 2 2, 0, 0, .slice none 0 0⟩)) ((w3.alloc (.cells #[.int .i64 (n1 : Int), .int .i64 ((n1 : Int) + (n2 : Int))] 3)).setRow w.heap.size (XV.arr ⟨7, ⟨#[]⟩, .slice (some ⟨w3.heap.size, 0, none⟩) 2 2, 0, 0, .slice none 0 0⟩))) :=
      makes_end (TopAt.mk (x := []) (nums := [(n1 : Int), (n1 : Int) + (n2 : Int)]) (kids := []) (row_of_block (n := 2) hz3 (heap_top _ _ _ rfl) (by unfold maxLen; omega) rfl) (KidsAt.nil _ _) (.inr rfl)) (.span (by omega) (by omega) (by omega)) (a' := a + 1 + 1 + 1) (by omega) HP3.out HG3.out hR
    have HRR := Lib.hid HZ3.out.res
    clear hp hg HP2 HG2 HZ2 HP3 HG3 HZ3
    go_wp2_with (refine store_res rfl _ _ rfl w.heap.size ⟨7, ⟨#[]⟩, .slice (some ⟨w3.heap.size, 0, none⟩) 2 2, 0, 0, .slice none 0 0⟩ rfl rfl HRR.out rfl rfl ?_)
    exact bodyPost_ret_by (run_res rfl _ _ w.heap.size ⟨7, ⟨#[]⟩, .slice (some ⟨w3.heap.size, 0, none⟩) 2 2, 0, 0, .slice none 0 0⟩ rfl HRR.out) rfl HEND.out
  · have g1 : decide ((k : Int) < 2) = false := decide_eq_false (by omega)
    have g2 : ((k : Int) == 2) = false := by simp; omega
    have g3 : ((k : Int) == 3) = false := by simp; omega
    have g4 : ((k : Int) == 4) = false := by simp; omega
    have g5 : decide ((k : Int) < 7) = true := decide_eq_true (by omega)
    have hn1 := pickF_lt zs (a + 1) (n := 5) (by omega)
    have hn2 := pickF_lt zs (a + 1 + 1) (n := 3) (by omega)
    go_enter Tryz.func12, Tryz.ntmps12
    go_wp2_with fail
    refine (pick_any (n := 12) HP.out (by omega) (by omega)).mono ?_
    rintro e w1 ⟨rfl, hp, hg⟩
    rw [← HK.out]
    have HP1 := Lib.hid hp
    have hz1 : w.heap.size + 1 ≤ w1.heap.size := by have := hg.size; simp at this; omega
    have HG1 := Lib.hid (HG.out.trans hg)
    have HZ1 := Lib.hid (HZ.out.grown hg (by omega))
    clear hp hg HP HG HZ
    obtain ⟨n1, hn10⟩ : ∃ j, j = pickF zs (a + 1) 5 := ⟨_, rfl⟩
    obtain ⟨n2, hn20⟩ : ∃ j, j = pickF zs (a + 1 + 1) 3 := ⟨_, rfl⟩
    rw [← hn10] at hn1
    rw [← hn20] at hn2
    have HN1 := Lib.hid hn10
    have HN2 := Lib.hid hn20
    clear hn10 hn20
    go_wp2_with fail
    refine (pick_any (n := 5) HP1.out (by omega) (by omega)).mono ?_
    rintro e w2 ⟨rfl, hp, hg⟩
    rw [← HN1.out]
    have HP2 := Lib.hid hp
    have HG2 := Lib.hid (HG1.out.trans hg)
    have HZ2 := Lib.hid (HZ1.out.grown hg (by omega))
    have hz2 : w.heap.size + 1 ≤ w2.heap.size := by have := hg.size; omega
    clear hp hg HP1 HG1 HZ1
    go_wp2_with fail
    refine (pick_any (n := 3) HP2.out (by omega) (by omega)).mono ?_
    rintro e w3 ⟨rfl, hp, hg⟩
    rw [← HN2.out]
    have HP3 := Lib.hid hp
    have HG3 := Lib.hid (HG2.out.trans hg)
    have HZ3 := Lib.hid (HZ2.out.grown hg (by omega))
    have hz3 : w.heap.size + 1 ≤ w3.heap.size := by have := hg.size; omega
    clear hp hg HP2 HG2 HZ2
    obtain ⟨f1, f2⟩ | ⟨f1, f2⟩ | ⟨f1, f2⟩ | ⟨f1, f2⟩ : ((n1 : Int) - 1 < 0 ∧ 0 < n2) ∨ ((n1 : Int) - 1 < 0 ∧ ¬ 0 < n2) ∨ (¬ (n1 : Int) - 1 < 0 ∧ (n1 : Int) - 1 < (n2 : Int)) ∨ (¬ (n1 : Int) - 1 < 0 ∧ ¬ (n1 : Int) - 1 < (n2 : Int)) := by omega
    · go_wp2_with fail
      with_reducible refine (AskX.use HIH.out (D - 1) (by have := HD.out; omega) HP3.out (by omega)).mono ?_
      rintro e w4 ⟨X, t, a', ht, hm, rfl, ha', hp, hg⟩
      have HO := Lib.hid (⟨one_cell_ns ht.tree, one_cell_ks ht.tree⟩ : X.ns.oneCell' = true ∧ X.ks.oneCell' = true)
      have hz4 : w3.heap.size ≤ w4.heap.size := hg.size
      have HRR := Lib.hid ((HZ3.out.grown hg (by omega)).alloc (.cells X.arr 36)).res
      have HEND : Hid (MakesX R v zs a (mkCost (d + 1)) (d + 1) w (.returned (XV.val ⟨3, ⟨#[]⟩, .slice none 0 0, 0, (n1 : Int) - 1, .slice (some ⟨w4.heap.size, 0, none⟩) 1 1⟩)) ((w4.alloc (.cells X.arr 36)).setRow w.heap.size (XV.arr ⟨3, ⟨#[]⟩, .slice none 0 0, 0, (n1 : Int) - 1, .slice (some ⟨w4.heap.size, 0, none⟩) 1 1⟩))) := by
        refine makes_end (TopAt.mk (x := []) (nums := []) (kids := [t]) (owns_nil _ _ _) (KidsAt.one (ht.tree.weak (P' := fun b => w.heap.size + 1 ≤ b) (fun b hb _ => by omega)) (Nat.le_refl _) (by omega) (heap_top _ _ _ rfl) (fun b _ hl => heap_alloc_old _ _ hl) (by simp)) (.inl rfl)) (.rep (by omega) (by omega) (by omega) (by omega) (by omega) hm) (a' := a') (by omega) (hp.alloc _) (grown_alloc (HG3.out.trans hg) _) hR
      clear ht hm hp hg
      go_wp2_with (first
        | (refine build_one rfl _ rfl X rfl HO.out.1 HO.out.2 ?_)
        | (refine store_res rfl _ _ rfl w.heap.size ⟨3, ⟨#[]⟩, .slice none 0 0, 0, (n1 : Int) - 1, .slice (some ⟨w4.heap.size, 0, none⟩) 1 1⟩ rfl rfl HRR.out rfl rfl ?_))
      exact bodyPost_ret_by (run_res rfl _ _ w.heap.size ⟨3, ⟨#[]⟩, .slice none 0 0, 0, (n1 : Int) - 1, .slice (some ⟨w4.heap.size, 0, none⟩) 1 1⟩ rfl HRR.out) rfl HEND.out
    · go_wp2_with fail
      with_reducible refine (AskX.use HIH.out (D - 1) (by have := HD.out; omega) HP3.out (by omega)).mono ?_
      rintro e w4 ⟨X, t, a', ht, hm, rfl, ha', hp, hg⟩
      have HO := Lib.hid (⟨one_cell_ns ht.tree, one_cell_ks ht.tree⟩ : X.ns.oneCell' = true ∧ X.ks.oneCell' = true)
      have hz4 : w3.heap.size ≤ w4.heap.size := hg.size
      have HRR := Lib.hid ((HZ3.out.grown hg (by omega)).alloc (.cells X.arr 36)).res
      have HEND : Hid (MakesX R v zs a (mkCost (d + 1)) (d + 1) w (.returned (XV.val ⟨3, ⟨#[]⟩, .slice none 0 0, (n2 : Int), (n1 : Int) - 1, .slice (some ⟨w4.heap.size, 0, none⟩) 1 1⟩)) ((w4.alloc (.cells X.arr 36)).setRow w.heap.size (XV.arr ⟨3, ⟨#[]⟩, .slice none 0 0, (n2 : Int), (n1 : Int) - 1, .slice (some ⟨w4.heap.size, 0, none⟩) 1 1⟩))) := by
        refine makes_end (TopAt.mk (x := []) (nums := []) (kids := [t]) (owns_nil _ _ _) (KidsAt.one (ht.tree.weak (P' := fun b => w.heap.size + 1 ≤ b) (fun b hb _ => by omega)) (Nat.le_refl _) (by omega) (heap_top _ _ _ rfl) (fun b _ hl => heap_alloc_old _ _ hl) (by simp)) (.inl rfl)) (.rep (by omega) (by omega) (by omega) (by omega) (by omega) hm) (a' := a') (by omega) (hp.alloc _) (grown_alloc (HG3.out.trans hg) _) hR
      clear ht hm hp hg
      go_wp2_with (first
        | (refine build_one rfl _ rfl X rfl HO.out.1 HO.out.2 ?_)
        | (refine store_res rfl _ _ rfl w.heap.size ⟨3, ⟨#[]⟩, .slice none 0 0, (n2 : Int), (n1 : Int) - 1, .slice (some ⟨w4.heap.size, 0, none⟩) 1 1⟩ rfl rfl HRR.out rfl rfl ?_))
      exact bodyPost_ret_by (run_res rfl _ _ w.heap.size ⟨3, ⟨#[]⟩, .slice none 0 0, (n2 : Int), (n1 : Int) - 1, .slice (some ⟨w4.heap.size, 0, none⟩) 1 1⟩ rfl HRR.out) rfl HEND.out
    · go_wp2_with fail
      with_reducible refine (AskX.use HIH.out (D - 1) (by have := HD.out; omega) HP3.out (by omega)).mono ?_
      rintro e w4 ⟨X, t, a', ht, hm, rfl, ha', hp, hg⟩
      have HO := Lib.hid (⟨one_cell_ns ht.tree, one_cell_ks ht.tree⟩ : X.ns.oneCell' = true ∧ X.ks.oneCell' = true)
      have hz4 : w3.heap.size ≤ w4.heap.size := hg.size
      have HRR := Lib.hid ((HZ3.out.grown hg (by omega)).alloc (.cells X.arr 36)).res
      have HEND : Hid (MakesX R v zs a (mkCost (d + 1)) (d + 1) w (.returned (XV.val ⟨3, ⟨#[]⟩, .slice none 0 0, ((n1 : Int) - 1), (n1 : Int) - 1, .slice (some ⟨w4.heap.size, 0, none⟩) 1 1⟩)) ((w4.alloc (.cells X.arr 36)).setRow w.heap.size (XV.arr ⟨3, ⟨#[]⟩, .slice none 0 0, ((n1 : Int) - 1), (n1 : Int) - 1, .slice (some ⟨w4.heap.size, 0, none⟩) 1 1⟩))) := by
        refine makes_end (TopAt.mk (x := []) (nums := []) (kids := [t]) (owns_nil _ _ _) (KidsAt.one (ht.tree.weak (P' := fun b => w.heap.size + 1 ≤ b) (fun b hb _ => by omega)) (Nat.le_refl _) (by omega) (heap_top _ _ _ rfl) (fun b _ hl => heap_alloc_old _ _ hl) (by simp)) (.inl rfl)) (.rep (by omega) (by omega) (by omega) (by omega) (by omega) hm) (a' := a') (by omega) (hp.alloc _) (grown_alloc (HG3.out.trans hg) _) hR
      clear ht hm hp hg
      go_wp2_with (first
        | (refine build_one rfl _ rfl X rfl HO.out.1 HO.out.2 ?_)
        | (refine store_res rfl _ _ rfl w.heap.size ⟨3, ⟨#[]⟩, .slice none 0 0, ((n1 : Int) - 1), (n1 : Int) - 1, .slice (some ⟨w4.heap.size, 0, none⟩) 1 1⟩ rfl rfl HRR.out rfl rfl ?_))
      exact bodyPost_ret_by (run_res rfl _ _ w.heap.size ⟨3, ⟨#[]⟩, .slice none 0 0, ((n1 : Int) - 1), (n1 : Int) - 1, .slice (some ⟨w4.heap.size, 0, none⟩) 1 1⟩ rfl HRR.out) rfl HEND.out
    · go_wp2_with fail
      with_reducible refine (AskX.use HIH.out (D - 1) (by have := HD.out; omega) HP3.out (by omega)).mono ?_
      rintro e w4 ⟨X, t, a', ht, hm, rfl, ha', hp, hg⟩
      have HO := Lib.hid (⟨one_cell_ns ht.tree, one_cell_ks ht.tree⟩ : X.ns.oneCell' = true ∧ X.ks.oneCell' = true)
      have hz4 : w3.heap.size ≤ w4.heap.size := hg.size
      have HRR := Lib.hid ((HZ3.out.grown hg (by omega)).alloc (.cells X.arr 36)).res
      have HEND : Hid (MakesX R v zs a (mkCost (d + 1)) (d + 1) w (.returned (XV.val ⟨3, ⟨#[]⟩, .slice none 0 0, (n2 : Int), (n1 : Int) - 1, .slice (some ⟨w4.heap.size, 0, none⟩) 1 1⟩)) ((w4.alloc (.cells X.arr 36)).setRow w.heap.size (XV.arr ⟨3, ⟨#[]⟩, .slice none 0 0, (n2 : Int), (n1 : Int) - 1, .slice (some ⟨w4.heap.size, 0, none⟩) 1 1⟩))) := by
        refine makes_end (TopAt.mk (x := []) (nums := []) (kids := [t]) (owns_nil _ _ _) (KidsAt.one (ht.tree.weak (P' := fun b => w.heap.size + 1 ≤ b) (fun b hb _ => by omega)) (Nat.le_refl _) (by omega) (heap_top _ _ _ rfl) (fun b _ hl => heap_alloc_old _ _ hl) (by simp)) (.inl rfl)) (.rep (by omega) (by omega) (by omega) (by omega) (by omega) hm) (a' := a') (by omega) (hp.alloc _) (grown_alloc (HG3.out.trans hg) _) hR
      clear ht hm hp hg
      go_wp2_with (first
        | (refine build_one rfl _ rfl X rfl HO.out.1 HO.out.2 ?_)
        | (refine store_res rfl _ _ rfl w.heap.size ⟨3, ⟨#[]⟩, .slice none 0 0, (n2 : Int), (n1 : Int) - 1, .slice (some ⟨w4.heap.size, 0, none⟩) 1 1⟩ rfl rfl HRR.out rfl rfl ?_))
      exact bodyPost_ret_by (run_res rfl _ _ w.heap.size ⟨3, ⟨#[]⟩, .slice none 0 0, (n2 : Int), (n1 : Int) - 1, .slice (some ⟨w4.heap.size, 0, none⟩) 1 1⟩ rfl HRR.out) rfl HEND.out
  · have g1 : decide ((k : Int) < 2) = false := decide_eq_false (by omega)
    have g2 : ((k : Int) == 2) = false := by simp; omega
    have g3 : ((k : Int) == 3) = false := by simp; omega
    have g4 : ((k : Int) == 4) = false := by simp; omega
    have g5 : decide ((k : Int) < 7) = false := decide_eq_false (by omega)
    obtain ⟨c, hkc, hc2⟩ : ∃ c : Nat, (k : Int) % 2 = (c : Int) ∧ c < 2 := ⟨k % 2, by omega, by omega⟩
    have hn1 := pickF_lt zs (a + 1) (n := 2) (by omega)
    go_enter Tryz.func12, Tryz.ntmps12
    go_wp2_with fail
    refine (pick_any (n := 12) HP.out (by omega) (by omega)).mono ?_
    rintro e w1 ⟨rfl, hp, hg⟩
    rw [← HK.out]
    have HP1 := Lib.hid hp
    have hz1 : w.heap.size + 1 ≤ w1.heap.size := by have := hg.size; simp at this; omega
    have HG1 := Lib.hid (HG.out.trans hg)
    have HZ1 := Lib.hid (HZ.out.grown hg (by omega))
    clear hp hg HP HG HZ
    obtain ⟨n1, hn10⟩ : ∃ j, j = pickF zs (a + 1) 2 := ⟨_, rfl⟩
    rw [← hn10] at hn1
    have HN1 := Lib.hid hn10
    clear hn10
    have HRE : Hid (Res0 (w1.alloc (.cells #[.int .i64 0, .string ⟨#[]⟩, .slice none 0 0, .int .i64 0, .int .i64 0, .slice none 0 0] 36)) w1.heap.size) := ⟨_, rfl, heap_alloc_new w1 _⟩
    have HE2 : Hid (EKs ((w1.alloc (.cells #[.int .i64 0, .string ⟨#[]⟩, .slice none 0 0, .int .i64 0, .int .i64 0, .slice none 0 0] 36)).setRow w1.heap.size #[.int .i64 (1 + (c : Int)), .string ⟨#[]⟩, .slice none 0 0, .int .i64 0, .int .i64 0, .slice none 0 0]) w1.heap.size (1 + (c : Int)) (.slice none 0 0)) := setRow_heap _ _ _ _ _ _ (heap_alloc_new w1 _)
    have HP2 : Hid (PickAt ((w1.alloc (.cells #[.int .i64 0, .string ⟨#[]⟩, .slice none 0 0, .int .i64 0, .int .i64 0, .slice none 0 0] 36)).setRow w1.heap.size #[.int .i64 (1 + (c : Int)), .string ⟨#[]⟩, .slice none 0 0, .int .i64 0, .int .i64 0, .slice none 0 0]) R v zs (a + 1)) := (HP1.out.alloc _).set_row (by omega) _
    have HG2 : Hid (w.grownBy ((w1.alloc (.cells #[.int .i64 0, .string ⟨#[]⟩, .slice none 0 0, .int .i64 0, .int .i64 0, .slice none 0 0] 36)).setRow w1.heap.size #[.int .i64 (1 + (c : Int)), .string ⟨#[]⟩, .slice none 0 0, .int .i64 0, .int .i64 0, .slice none 0 0]) (some R)) := grown_row (grown_alloc HG1.out _) (by omega) _
    have HZ2 : Hid (ZeroAt ((w1.alloc (.cells #[.int .i64 0, .string ⟨#[]⟩, .slice none 0 0, .int .i64 0, .int .i64 0, .slice none 0 0] 36)).setRow w1.heap.size #[.int .i64 (1 + (c : Int)), .string ⟨#[]⟩, .slice none 0 0, .int .i64 0, .int .i64 0, .slice none 0 0]) w.heap.size) := (setRow_other _ _ _ _ (by omega)).trans (HZ1.out.alloc _)
    obtain ⟨E, hE⟩ : ∃ E, E = w1.heap.size := ⟨_, rfl⟩
    have hEw : w.heap.size + 1 ≤ E := by omega
    go_wp2_with (refine store_res rfl _ _ rfl w1.heap.size ⟨1 + (c : Int), ⟨#[]⟩, .slice none 0 0, 0, 0, .slice none 0 0⟩ rfl rfl HRE.out rfl rfl ?_)
    simp only [XV.arr]
    obtain ⟨w2, hw2⟩ : ∃ W, W = (w1.alloc (.cells #[.int .i64 0, .string ⟨#[]⟩, .slice none 0 0, .int .i64 0, .int .i64 0, .slice none 0 0] 36)).setRow w1.heap.size #[.int .i64 (1 + (c : Int)), .string ⟨#[]⟩, .slice none 0 0, .int .i64 0, .int .i64 0, .slice none 0 0] := ⟨_, rfl⟩
    rw [← hw2] at HE2 HP2 HG2 HZ2 ⊢
    rw [← hE] at HE2 ⊢
    clear hw2 HRE HP1 HG1 HZ1 hz1 hE
    with_reducible refine (pick_any (n := 2) HP2.out (by omega) (by omega)).mono ?_
    rintro e w3 ⟨rfl, hp, hg⟩
    rw [← HN1.out]
    have hsz := hg.size
    have hEl := HE2.out.lt
    have HM0 : Hid (Many R v zs a w w3 E (1 + (c : Int)) d (2 + n1) (2 + n1) [] (.slice none 0 0) (a + 1 + 1)) :=
      ⟨HE2.out.kept (hg.block E hEl (fun e => by have := Option.some.inj e; omega)), KidsAt.nil _ _, by simp, by simp, hp, by simp, HG2.out.trans hg, HZ2.out.grown hg (by omega), hEw⟩
    clear hp hg HE2 HP2 HG2 HZ2 hsz hEl
    go_wp2_with fail
    go_loopw [9] (fun v9 wr => ∃ (i : Nat) (l : List Tree) (ks : Value) (a' : Nat), v9 = .int .i64 i ∧ Hid (Many R v zs a w wr E (1 + (c : Int)) d (2 + n1) i l ks a')) (fun v9 _ => (intOf v9).toNat)
    case atStart => exact ⟨2 + n1, [], _, _, by go_num, HM0⟩
    case round =>
      clear HM0
      obtain ⟨i, l, ks, a', rfl, HM⟩ := hrel
      have hli := HM.out.2.2.1
      have ha1 := HM.out.2.2.2.2.2.1
      have hlm : l.length * mkCost d ≤ (3 - i) * mkCost d := Nat.mul_le_mul_right _ (by omega)
      by_cases hi : 0 < i
      · obtain ⟨j, hj⟩ : ∃ j, i = j + 1 := ⟨i - 1, by omega⟩
        have HMj : Hid (Many R v zs a w wr E (1 + (c : Int)) d (2 + n1) (j + 1) l ks a') := by rw [← hj]; exact HM.out
        have q1 : decide ((0 : Int) < (i : Int)) = true := decide_eq_true (by omega)
        have HPW := Lib.hid HM.out.2.2.2.2.1
        have HCC : Hid (a' + mkCost d ≤ 1000000) := by
          have h3 : (3 - i) * mkCost d ≤ 2 * mkCost d := Nat.mul_le_mul_right _ (by omega)
          unfold Hid
          omega
        have HDD : Hid (D - 1 = (d : Int)) := by have := HD.out; unfold Hid; omega
        obtain ⟨r0, r1⟩ := HM.out.1.five
        obtain ⟨vs, h1, h2, h3⟩ := HM.out.2.1
        have H1 := Lib.hid h1
        have H2 := Lib.hid h2
        have H3 := Lib.hid h3
        have hll : l.length ≤ 3 := by omega
        have hEl := HM.out.1.lt
        obtain ⟨i0, hi0, hi1⟩ := Option.map_eq_some_iff.1 infoX
        obtain ⟨hy0, hy1, hy2⟩ : i0.zero = some _ ∧ i0.size = 6 ∧ i0.bytes = _ := by simpa using hi1
        have HL1 : Hid (l.length + 1 ≤ maxLen) := by unfold Hid maxLen; omega
        have HL2 : Hid ((l.length + 1) * 88 ≤ 140737488355328) := by unfold Hid; omega
        clear h1 h2 h3 hi1 HM hlm
        go_wp2_with fail
        go_region_law (first
          | (refine step_append_lies _ (by rfl) _ _ _ (by rfl) (E + 1) 36 i0 _ 6 88 Tryz.underlying34 hi0 hy0 hy1 hy2 rfl (by omega) ks l.length (vs.flatMap XV.cells) (by rfl) HOW.out ⟨w5.heap.size, 0, none⟩ 1 1 [.int .i64 kx, .string sx, .slice b1 m1 c1, .int .i64 lx, .int .i64 hx, .slice b2 m2 c2] (by rfl) (by rfl) (World.news_of_block (cs := #[.int .i64 kx, .string sx, .slice b1 m1 c1, .int .i64 lx, .int .i64 hx, .slice b2 m2 c2]) (t := 36) (fr := (0, 0)) (heap_alloc_new w5 _)) (by simp [Value.oneCell']) (by omega) HL1.out HL2.out HL3.out (w5.heap.size + 1) (by simp) ?_; intro gg cap w6 hown hgrow hat hltg; have HPU := Lib.hid (Many.push (X := ⟨kx, sx, .slice b1 m1 c1, lx, hx, .slice b2 m2 c2⟩) HMj.out hR HT.out HMK.out HA.out HPP.out HGG.out H1.out H2.out H3.out hown hgrow (hat.elim (fun h => .inl h.symm) (fun h => .inr ⟨gg, rfl, by rw [h]; simp⟩))); obtain ⟨v0, v1⟩ := HPU.out.1.five; clear hown hgrow hat)
          | (go_simp; go_at_call 12; (with_reducible (refine (AskX.fields (w := wr.drew) HIH.out (D - 1) HDD.out (PickAt.drew HPW.out) HCC.out).mono ?_)); rintro e w5 ⟨kx, lx, hx, sx, b1, b2, m1, c1, m2, c2, t, a'', ht, hm, rfl, ha, hp, hg⟩; have HT := Lib.hid ht; have HMK := Lib.hid hm; have HA := Lib.hid ha; have HPP := Lib.hid hp; have HGG : Hid (wr.grownBy w5 (some R)) := ⟨hg.os, hg.tape, hg.output, hg.size, hg.block⟩; have hzz : wr.heap.size ≤ w5.heap.size := hg.size; obtain ⟨t0, t1⟩ := (HMj.out.1.kept (HGG.out.block E hEl (fun e => by have := Option.some.inj e; omega))).five; obtain ⟨p0, p1⟩ := (HMj.out.1.kept ((Below.heap_alloc w5 (.cells #[.int .i64 kx, .string sx, .slice b1 m1 c1, .int .i64 lx, .int .i64 hx, .slice b2 m2 c2] 36) E (by omega)).trans (HGG.out.block E hEl (fun e => by have := Option.some.inj e; omega)))).five; have HOW : Hid ((w5.alloc (.cells #[.int .i64 kx, .string sx, .slice b1 m1 c1, .int .i64 lx, .int .i64 hx, .slice b2 m2 c2] 36)).ownsRow (E + 1) 36 6 ks l.length (vs.flatMap XV.cells)) := owns_row_kept H2.out (fun b hb hl => by rw [Below.heap_alloc _ _ _ (by omega), HGG.out.block b hl (fun e => by have := Option.some.inj e; omega)]); have HL3 : Hid (E + 1 ≤ (w5.alloc (.cells #[.int .i64 kx, .string sx, .slice b1 m1 c1, .int .i64 lx, .int .i64 hx, .slice b2 m2 c2] 36)).heap.size) := (by unfold Hid; simp; omega); clear ht hm ha hp hg)
          | fail)
        all_goals
          go_wp2_with fail
          go_roundw
          case rel => exact ⟨j, l ++ [t], _, a'', by go_num, HPU.out.2⟩
          case measure => simp [intOf]; omega
      · obtain rfl : i = 0 := by omega
        have HEE := Lib.hid HM.out.1
        have HZZ := Lib.hid HM.out.2.2.2.2.2.2.2.1.res
        have HKK := Lib.hid (one_cell_ks (HM.out.2.1.tree 0 0 0))
        have HEND : Hid (MakesX R v zs a (mkCost (d + 1)) (d + 1) w (.returned (XV.val ⟨1 + (c : Int), ⟨#[]⟩, .slice none 0 0, 0, 0, ks⟩)) (wr.setRow w.heap.size (XV.arr ⟨1 + (c : Int), ⟨#[]⟩, .slice none 0 0, 0, 0, ks⟩))) := by
          obtain ⟨e1, e2, e3, e4, e5, e6, e7, e8, e9⟩ := HM.out
          have h3 : l.length * mkCost d ≤ 3 * mkCost d := Nat.mul_le_mul_right _ (by omega)
          exact makes_end (TopAt.mk (x := []) (nums := []) (kids := l) (owns_nil _ _ _) (e2.lower (by omega)) (.inl rfl)) (.many (by omega) (by omega) (by omega) e4) (a' := a') (by omega) e5 e7 hR
        clear hlm HM
        go_wp2_with (first
          | (refine load_res rfl _ rfl E ⟨1 + (c : Int), ⟨#[]⟩, .slice none 0 0, 0, 0, ks⟩ rfl HEE.out ?_)
          | (refine store_res rfl _ _ rfl w.heap.size ⟨1 + (c : Int), ⟨#[]⟩, .slice none 0 0, 0, 0, ks⟩ rfl rfl HZZ.out rfl HKK.out ?_))
        exact bodyPost_ret_by (run_res rfl _ _ w.heap.size ⟨1 + (c : Int), ⟨#[]⟩, .slice none 0 0, 0, 0, ks⟩ rfl HZZ.out) rfl HEND.out

theorem expr_any : ∀ d : Nat, d ≤ 10 → AskX d
  | 0, _ => expr_zero
  | d + 1, h => expr_succ (by omega) (expr_any d (by omega))

end Go.Proofs.YtddbaacibdmnaaaGreatDoor
