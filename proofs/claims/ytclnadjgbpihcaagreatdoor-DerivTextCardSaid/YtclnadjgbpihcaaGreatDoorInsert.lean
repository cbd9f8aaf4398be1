/- The insertion sort of a range. No condition. -/
import Derived.Test.YtclnadjgbpihcaaGreatDoorMerge
namespace Go.Proofs.YtclnadjgbpihcaaGreatDoor
open Go.RowKit Go.Sort Go.Lib Go.Shelf
set_option linter.unusedVariables false
set_option linter.unusedSimpArgs false

set_option maxHeartbeats 4000000 in
set_option maxRecDepth 100000 in
/-- The insertion sort: a run out of what stands there at first. -/
theorem insert_any {w0 : World} {blk off : Nat} {d0 : Array KE} (R : RowK KE.enc 7 w0 blk off d0) (hsz : d0.size < 4611686018427387904) (cap a b : Nat) (d : Array KE) (w : World) (hS : SW7 w0 blk off d w) (hd : d.size = d0.size)
    (hab : a ≤ b) (hb : b ≤ d.size) (hx : ∀ t, a ≤ t → t < b → KE.ix d[t]! = t) :
    Calls Tryz.prog 90 #[.slice (some ⟨blk, off, none⟩) d.size cap, .int .i64 a, .int .i64 b, .func (.func 71) #[] #[]] w fun e w' =>
      e = .returned (.tuple #[]) ∧ ∃ d', SW7 w0 blk off d' w' ∧ PermIn a b d d' ∧ Run KE.cmp KE.ix a b d' := by
  have HS : Hid (SW7 w0 blk off d w) := hS
  have HR : Hid (RowK KE.enc 7 w0 blk off d0) := R
  have HD : Hid (d.size = d0.size) := hd
  have hz : d.size < 4611686018427387904 := by omega
  have mixed : Tryz.prog.follows .mixedOrders = true := by kernel_rfl
  have HX : Hid (∀ t, a ≤ t → t < b → KE.ix d[t]! = t) := hx
  clear hS R hd hx
  go_enter Tryz.func90, Tryz.ntmps90
  go_wp2
  go_loopg [8] (b - a) (fun g vi wr => ∃ (i : Nat) (dk : Array KE), vi = .int .i64 i ∧ a < i ∧ i ≤ b + 1 ∧ b + 1 - i ≤ g + 1 ∧ Hid (SW7 w0 blk off dk wr) ∧ Hid (PermIn a b d dk) ∧ Hid (dk.size = d.size) ∧ Hid ((∀ t, i ≤ t → dk[t]! = d[t]!) ∧ (i ≤ b → Run KE.cmp KE.ix a i dk) ∧ (b < i → b = a)))
  case atStart =>
    refine ⟨a + 1, d, by go_num, by omega, by omega, by omega, HS, permIn_refl _ _ _, rfl, fun t _ => rfl, fun h => ⟨fun i j h1 h2 h3 => by omega, fun t h1 h2 => ?_⟩, fun h => by omega⟩
    have e : t = a := by omega
    subst e
    have := HX.out t h1 (by omega)
    omega
  case round =>
    obtain ⟨i, dk, rfl, hai, hib, hg, HW, HP, HZ, HI⟩ := hrel
    obtain ⟨wo, hwo⟩ : ∃ x : World, x = wr := ⟨_, rfl⟩
    subst hwo
    by_cases hlt : i < b
    · have hltz : (i : Int) < (b : Int) := by omega
      have HJ : Hid (InsI KE.cmp KE.ix a i i dk) := InsI.start (HI.out.2.1 (by omega)).1 fun s h1 h2 => by
        have e1 := (HI.out.2.1 (by omega)).2 s h1 h2
        have e2 := HX.out i (by omega) hlt
        rw [← HI.out.1 i (Nat.le_refl _)] at e2
        omega
      have HB : Hid (∀ t, a ≤ t → t ≤ i → a ≤ KE.ix dk[t]! ∧ KE.ix dk[t]! < i + 1) := fun t h1 h2 => by
        by_cases e : t = i
        · subst e
          rw [HI.out.1 t (Nat.le_refl _), HX.out t h1 hlt]
          omega
        · have := (HI.out.2.1 (by omega)).2 t h1 (by omega)
          omega
      go_wp2
      go_loopg [9] i (fun g vj wrr => ∃ (j : Nat) (dj : Array KE), vj = .int .i64 j ∧ a ≤ j ∧ j ≤ i ∧ j ≤ g ∧ Hid (SW7 w0 blk off dj wrr) ∧ Hid (PermIn a (i + 1) dk dj) ∧ Hid (dj.size = d.size) ∧ Hid (InsI KE.cmp KE.ix a j i dj))
      case atStart => exact ⟨i, dk, rfl, by omega, Nat.le_refl _, Nat.le_refl _, HW, permIn_refl _ _ _, HZ, HJ⟩
      case round =>
        obtain ⟨j, dj, rfl, haj, hji, hg2, HW2, HP2, HZ2, HJ2⟩ := hrel
        have OUT : Hid ((j = a ∨ ¬ KE.cmp dj[j]! dj[j - 1]! < 0) → (∀ t, i + 1 ≤ t → dj[t]! = d[t]!) ∧ (i + 1 ≤ b → Run KE.cmp KE.ix a (i + 1) dj) ∧ (b < i + 1 → b = a)) := fun hs =>
          ⟨fun t ht => (HP2.out.2.1 t (.inr ht)).trans (HI.out.1 t (by omega)), fun _ => ⟨HJ2.out.stop keycmp_ok haj hji hs, Run.perm (a := a) (b := i + 1) (by rw [HZ.out]; omega) (fun t h1 h2 => HB.out t h1 (by omega)) HP2.out⟩, fun h => by omega⟩
        have HPO : Hid (PermIn a b d dj) := permIn_trans _ _ _ _ _ HP.out (permIn_mono _ _ _ _ _ _ (Nat.le_refl _) (by omega) (by rw [HZ.out]; exact hb) HP2.out)
        by_cases hja : a < j
        · obtain ⟨q, rfl⟩ : ∃ q, j = q + 1 := ⟨j - 1, by omega⟩
          have hjaz : (a : Int) < (q : Int) + 1 := by omega
          have hjab : decide (((q + 1 : Nat) : Int) > (a : Int)) = true := by simp; omega
          have p0 : (0 : Int) ≤ (q : Int) + 1 := by omega
          have e0 : ((q : Int) + 1).toNat = q + 1 := by omega
          have eq1 : IntKind.i64.wrap (q : Int) = (q : Int) := by rw [IntKind.wrap_i64]; omega
          obtain ⟨r, hr⟩ : ∃ r, KE.cmp dj[q + 1]! dj[q]! = r := ⟨_, rfl⟩
          obtain ⟨u0, u1, u2, u3, u4, u5, u6, hu, cu⟩ := cells7 HW2.out HR.out (by rw [HZ2.out]; exact HD.out) (q + 1) (by rw [HZ2.out]; omega)
          obtain ⟨v0, v1, v2, v3, v4, v5, v6, hv, cv⟩ := cells7 HW2.out HR.out (by rw [HZ2.out]; exact HD.out) (q) (by rw [HZ2.out]; omega)
          obtain ⟨ca, hca⟩ : ∃ c, c = (dj[q + 1]!).enc := ⟨_, rfl⟩
          obtain ⟨cb, hcb⟩ : ∃ c, c = (dj[q]!).enc := ⟨_, rfl⟩
          have hs1 : ca.length = 7 := by rw [hca]; rfl
          have hs2 : cb.length = 7 := by rw [hcb]; rfl
          have fu : #[u0, u1, u2, u3, u4, u5, u6] = ca.toArray := by rw [hca, hu]
          have fv : #[v0, v1, v2, v3, v4, v5, v6] = cb.toArray := by rw [hcb, hv]
          have hcg : ∀ n os, Calls Tryz.prog 71 #[.agg ca.toArray, .agg cb.toArray] (grow (wr.drewN n) os) fun e w' => e = .returned (.int .i64 r) ∧ ∃ q os', w' = grow ((grow (wr.drewN n) os).drewN q) os' := fun n os => by
            rw [hca, hcb, ← hr]
            exact keycmp_any _ _ _
          have a0 := fun n os => (cu n os).1
          have a1 := fun n os => (cu n os).2.1
          have a2 := fun n os => (cu n os).2.2.1
          have a3 := fun n os => (cu n os).2.2.2.1
          have a4 := fun n os => (cu n os).2.2.2.2.1
          have a5 := fun n os => (cu n os).2.2.2.2.2.1
          have a6 := fun n os => (cu n os).2.2.2.2.2.2
          have b0 := fun n os => (cv n os).1
          have b1 := fun n os => (cv n os).2.1
          have b2 := fun n os => (cv n os).2.2.1
          have b3 := fun n os => (cv n os).2.2.2.1
          have b4 := fun n os => (cv n os).2.2.2.2.1
          have b5 := fun n os => (cv n os).2.2.2.2.2.1
          have b6 := fun n os => (cv n os).2.2.2.2.2.2
          have zi : (q : Int) + 1 < (d.size : Int) := by omega
          have zj : (q : Int) < (d.size : Int) := by omega
          have LT : Hid (ca = (dj[q + 1]!).enc ∧ cb = (dj[q]!).enc) := ⟨hca, hcb⟩
          clear cu cv hu hv hca hcb
          have HRR : Hid (KE.cmp dj[q + 1]! dj[q]! = r) := hr
          clear hr
          by_cases hr0 : r < 0
          · have hr1 : decide (r < 0) = true := by simpa using hr0
            go_wp2_with fail
            go_quiet_grown (first | (go_at_call 71; refine Calls.grown_of (hcg _ _)))
            have HW3 : Hid (SW7 w0 blk off dj (grow (wr.drewN nq) osq)) := HW2.out.grown nq osq
            clear hcg a0 a1 a2 a3 a4 a5 a6 b0 b1 b2 b3 b4 b5 b6
            generalize grow (wr.drewN nq) osq = wq at HW3 ⊢
            obtain ⟨_, _, _, _, _, _, _, hu, cu⟩ := cells7 HW3.out HR.out (by rw [HZ2.out]; exact HD.out) (q + 1) (by rw [HZ2.out]; omega)
            obtain ⟨_, _, _, _, _, _, _, hv, cv⟩ := cells7 HW3.out HR.out (by rw [HZ2.out]; exact HD.out) q (by rw [HZ2.out]; omega)
            rw [← LT.out.1] at hu
            rw [← LT.out.2] at hv
            have gu := congrArg List.toArray hu
            have gv := congrArg List.toArray hv
            rw [← fu] at gu
            rw [← fv] at gv
            simp only [Array.mk.injEq, List.cons.injEq, and_true] at gu gv
            obtain ⟨rfl, rfl, rfl, rfl, rfl, rfl, rfl⟩ := gu
            obtain ⟨rfl, rfl, rfl, rfl, rfl, rfl, rfl⟩ := gv
            have s1 := HW3.out.st1 HR.out (by rw [HZ2.out]; exact HD.out) Tryz.prog (q + 1) (by rw [HZ2.out]; omega) dj[q]!
            have s2 := HW3.out.st2 HR.out (by rw [HZ2.out]; exact HD.out) Tryz.prog (q + 1) q (by rw [HZ2.out]; omega) (by rw [HZ2.out]; omega) dj[q]! dj[q + 1]!
            rw [← LT.out.2] at s1
            rw [← LT.out.1, ← LT.out.2] at s2
            obtain ⟨a0, a1, a2, a3, a4, a5, a6⟩ := cu 1 #[]
            obtain ⟨b0, b1, b2, b3, b4, b5, b6⟩ := cv 1 #[]
            rw [grow_empty, World.cell?_drewN] at a0 a1 a2 a3 a4 a5 a6 b0 b1 b2 b3 b4 b5 b6
            clear hu hv cu cv
            go_wp2_with fail
            go_big_region_o
            all_goals go_wp2
            all_goals
              go_roundg q
              case measure => omega
              case rel =>
                refine ⟨q, swp dj (q + 1) q, by first | rfl | go_num, by omega, by omega, Nat.le_refl _, (show Hid _ from ?_), (show Hid _ from permIn_trans _ _ _ _ _ HP2.out (swp_permIn _ _ _ _ _ (by omega) (by omega) (by omega) (by omega) (by rw [HZ2.out]; omega))), (show Hid _ from (size_swp _ _ _).trans HZ2.out), (show Hid _ from HJ2.out.step (by rw [HRR.out]; exact hr0) (by omega) hji (by rw [HZ2.out]; omega))⟩
                rw [LT.out.1, LT.out.2]
                exact HW3.out.swapped HR.out (q + 1) q (by rw [HZ2.out]; omega) (by rw [HZ2.out]; omega)
          · have hr1 : decide (r < 0) = false := by simpa using hr0
            go_wp2_with fail
            go_quiet_grown (first | (go_at_call 71; refine Calls.grown_of (hcg _ _)))
            go_wp2
            go_roundg (b - (i + 1))
            case measure => omega
            case rel => exact ⟨i + 1, dj, by go_num, by omega, by omega, by omega, (show Hid _ from HW2.out.grown nq osq), HPO, HZ2, OUT.out (.inr (by rw [Nat.add_sub_cancel, HRR.out]; exact hr0))⟩
        · have hjaz : ¬ (a : Int) < (j : Int) := by omega
          have hjab : decide ((j : Int) > (a : Int)) = false := by simp; omega
          have ej : Hid (j = a) := (by omega : j = a)
          have HW3 : Hid (SW7 w0 blk off dj wr.drew) := HW2.out.drew
          go_wp2_with fail
          go_big_region_o
          all_goals go_wp2
          all_goals
            go_roundg (b - (i + 1))
            case measure => omega
            case rel => exact ⟨i + 1, dj, by go_num, by omega, by omega, by omega, HW3, HPO, HZ2, OUT.out (.inl ej.out)⟩
    · have hltz : ¬ (i : Int) < (b : Int) := by omega
      go_wp2
      go_end0
      refine ⟨rfl, dk, HW.out, HP.out, ?_⟩
      by_cases hi : i = b
      · rw [← hi]
        exact HI.out.2.1 (by omega)
      · have := HI.out.2.2 (by omega)
        exact ⟨fun s t h1 h2 h3 => by omega, fun t h1 h2 => by omega⟩

end Go.Proofs.YtclnadjgbpihcaaGreatDoor

