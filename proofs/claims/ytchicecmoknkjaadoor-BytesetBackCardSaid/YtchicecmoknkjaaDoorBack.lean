/- BytesetBack is true for every input: for every set a, without any condition: the sets of its ranges, joined, are the set; each range rises, with a gap between two. -/
import Derived.Deep.RegionWith
import Derived.Test.YtchicecmoknkjaaDoorFrame
import Derived.Test.YtchicecmoknkjaaDoorBackMath
namespace Go.Proofs.YtchicecmoknkjaaDoor.bytesetBack
open Go.ChangeShapes Go.WideShapes Go.ChangeAt Go.RowKit Go.Proofs.YtchicecmoknkjaaDoor
set_option linter.unusedVariables false

theorem ranges_h (a0 a1 a2 a3 : Int) (f : Nat → Bool) (R : List (Nat × Nat)) (w : World) (ha : IsSet a0 a1 a2 a3 f) (hR : Hid (R = rgs f 256)) (hT : TabD w) :
    Calls Tryd.prog 31 #[.agg #[.int .u64 a0, .int .u64 a1, .int .u64 a2, .int .u64 a3]] w (RetRanges R w) := by
  rw [hR.out]; exact ranges_any a0 a1 a2 a3 f w ha hT

theorem own_set4 {W : World} {base size n g cap : Nat} {e : TypeId} {xs : List Value} (h : W.ownsRow base e size (.slice (some ⟨g, 0, none⟩) n cap) n xs) (B : Nat) (hne : g ≠ B) (v0 v1 v2 v3 : Value) :
    ((((W.setCell ⟨B, 0, none⟩ v0).setCell ⟨B, 1, none⟩ v1).setCell ⟨B, 2, none⟩ v2).setCell ⟨B, 3, none⟩ v3).ownsRow base e size (.slice (some ⟨g, 0, none⟩) n cap) n xs := by
  refine ⟨h.1, ?_⟩
  rcases h.2 with h0 | ⟨g', cap', cur, hv, hg, hh, r⟩
  · exact .inl h0
  · have e0 : g' ≠ B := by simp at hv; omega
    refine .inr ⟨g', cap', cur, hv, hg, ?_, r⟩
    rw [Below.heap_setCell _ _ _ _ e0, Below.heap_setCell _ _ _ _ e0, Below.heap_setCell _ _ _ _ e0, Below.heap_setCell _ _ _ _ e0]
    exact hh

set_option maxRecDepth 100000 in
set_option maxHeartbeats 16000000 in
theorem walk (a0 a1 a2 a3 : Int) (f : Nat → Bool) (ha : IsSet a0 a1 a2 a3 f) (w : World) (hTD : TabD w) :
    Calls Tryd.prog 8 #[.agg #[.int .u64 a0, .int .u64 a1, .int .u64 a2, .int .u64 a3]] w (RetBool true w) := by
  have HT := Lib.hid hTD
  clear hTD
  obtain ⟨R, hR⟩ : ∃ R, R = rgs f 256 := ⟨_, rfl⟩
  have hlen : R.length ≤ 256 := by rw [hR]; exact rgs_len f 256
  have hgood : GoodR 256 R := by rw [hR]; exact rgs_good f 256
  have hin : ∀ b, b < 256 → inR R b = f b := by intro b hb; rw [hR, rgs_in]; simp [hb]
  have HIN := Lib.hid hin
  have HG := Lib.hid hgood
  have HR := Lib.hid hR
  clear hR hin hgood
  have hEq := eql_set
  have hx := Box4.new w a0 a1 a2 a3
  go_enter Tryd.func8, Tryd.ntmps8
  go_wp2_with fail
  refine (awake_any _ (HT.out.stays (by go_grown))).mono ?_
  rintro e w1 ⟨rfl, hb1⟩
  have hx1 := hx.below hb1 hx.lt
  have HW1 : Below w.heap.size w w1 := below_step (by go_grown) hb1
  have d0 := hx1.cell0
  have d1 := hx1.cell1
  have d2 := hx1.cell2
  have d3 := hx1.cell3
  clear hx hb1
  go_wp2_with fail
  refine (ranges_h _ _ _ _ _ _ _ ha HR (HT.out.stays HW1)).mono ?_
  rintro e w2 ⟨v, rfl, hv, hb2⟩
  have hx2 := hx1.below hb2 hx1.lt
  have HW2 := below_step HW1 hb2
  have hlt2 := hx2.lt
  clear hx1 HW1 hb2 d0 d1 d2 d3
  have hv2 := own_alloc hv (.cells #[.int .u64 0, .int .u64 0, .int .u64 0, .int .u64 0] 24)
  have hx3 := hx2.alloc (.cells #[.int .u64 0, .int .u64 0, .int .u64 0, .int .u64 0] 24)
  have hs3 := Box4.new w2 0 0 0 0
  have HW3 := below_alloc HW2 (.cells #[.int .u64 0, .int .u64 0, .int .u64 0, .int .u64 0] 24)
  rcases own_forms hv with ⟨rfl, h0⟩ | ⟨g, cap, rfl⟩
  · have hf0 : ∀ b, b < 256 → (fun _ => false : Nat → Bool) b = f b := by
      intro b hb
      rw [← HIN.out b hb, List.length_eq_zero_iff.1 h0]
      rfl
    obtain ⟨rfl, rfl, rfl, rfl⟩ := IsSet.eq IsSet.empty ha hf0
    clear hf0 h0 hv hv2
    go_wp2
    go_loopw [6] (fun i wr => i = .int .i64 0 ∧ Box4 wr w.heap.size 0 0 0 0 ∧ Box4 wr w2.heap.size 0 0 0 0 ∧ Below w.heap.size w wr) (fun _ _ => 0)
    case atStart => exact ⟨rfl, hx3, hs3, HW3⟩
    case round =>
      obtain ⟨rfl, hxr, hsr, hbel⟩ := hrel
      have d0 := hxr.cell0
      have d1 := hxr.cell1
      have d2 := hxr.cell2
      have d3 := hxr.cell3
      have s0 := hsr.cell0
      have s1 := hsr.cell1
      have s2 := hsr.cell2
      have s3 := hsr.cell3
      go_wp2
      go_ret
      exact ⟨rfl, hbel⟩
  · obtain ⟨hg1, hg2, hg3⟩ := own_base hv
    clear hv
    go_wp2
    go_loopw [6] (fun i wr => ∃ (k : Nat) (c0 c1 c2 c3 : Int), i = .int .i64 k ∧ k ≤ R.length ∧ wr.ownsRow (w1.heap.size) 43 2 (.slice (some ⟨g, 0, none⟩) R.length cap) R.length (rcells R) ∧ Box4 wr w.heap.size a0 a1 a2 a3 ∧ Box4 wr w2.heap.size c0 c1 c2 c3 ∧ IsSet c0 c1 c2 c3 (inR (R.take k)) ∧ Below w.heap.size w wr)
      (fun i _ => R.length - (intOf i).toNat)
    case atStart => exact ⟨0, 0, 0, 0, 0, rfl, by omega, hv2, hx3, hs3, IsSet.empty.congr (fun b _ => rfl), HW3⟩
    case round =>
      obtain ⟨k, c0, c1, c2, c3, rfl, hk, hvr, hxr, hsr, hset, hbel⟩ := hrel
      by_cases ht : k < R.length
      · obtain ⟨⟨lo, hi⟩, hrk⟩ : ∃ r, r = R[k] := ⟨_, rfl⟩
        have hat := good_at HG.out k ht
        have e0 := own_cell hvr (rcells_lo R k ht)
        have e1 := own_cell hvr (rcells_hi R k ht)
        have hst : ∀ b, b < 256 → (inR (R.take k) b || rng (lo : Int) (hi : Int) b) = inR (R.take (k + 1)) b := by
          intro b _
          rw [inR_take R k ht, ← hrk]
          simp [rng]
        rw [← hrk] at hat e0 e1
        simp only at hat e0 e1
        have HST := Lib.hid hst
        have HRK := Lib.hid hrk
        clear hst hrk
        obtain ⟨hat1, hat2⟩ := hat
        have hs0 := hsr.cell0
        have hs1 := hsr.cell1
        have hs2 := hsr.cell2
        have hs3' := hsr.cell3
        have HSET := Lib.hid hset
        clear hset
        have t1 : decide (hi < lo) = false := by simp; omega
        have i0 : (0 : Int) ≤ (k : Int) := by omega
        have i1 : (k : Int) < (R.length : Int) := by omega
        by_cases hpos : k = 0
        · have t2 : decide (0 < k) = false := by simp; omega
          have HP := Lib.hid hpos
          clear hpos
          go_wp2
          go_quiet (fail)
          go_wp2
          go_region_with (first | (go_at_call 28; refine (of_any _ _ _ (by omega) (by omega) (by omega) (by omega)).mono ?_; rintro e w3 ⟨r0, r1, r2, r3, hr, rfl, hb3⟩; have hS3 := Box4.below (Box4.drewN hsr _) hb3 hsr.lt; have hX3 := Box4.below (Box4.drewN hxr _) hb3 hxr.lt; have hV3 := own_below (own_drewN hvr _) hb3; have s0 := hS3.cell0; have s1 := hS3.cell1; have s2 := hS3.cell2; have s3 := hS3.cell3) | (go_at_call 16; refine (join_any _ _ _ _ _ _ _ _ _ _ _ HSET.out hr).mono ?_; rintro e w4 ⟨j0, j1, j2, j3, hj, rfl, hb4⟩; have hS4 := hS3.below hb4 hS3.lt; have hX4 := hX3.below hb4 hX3.lt; have hV4 := own_below hV3 hb4; have q0 := hS4.cell0; have q1 := hS4.cell1; have q2 := hS4.cell2; have q3 := hS4.cell3; have z0 := hS4.frozen 0; have z1 := hS4.frozen 1; have z2 := hS4.frozen 2; have z3 := hS4.frozen 3))
          all_goals
            have hB3 := below_step (below_drewN hbel _) hb3
            have hB4 := below_step hB3 hb4
            clear hB3 hb3 hb4 t1 t2 e0 e1
            go_wp2
            go_roundw
            case rel => exact ⟨k + 1, j0, j1, j2, j3, by go_num, by omega, own_set4 hV4 _ (by omega) _ _ _ _, hX4.keep4 _ (by omega) _ _ _ _, hS4.set4 _ _ _ _, hj.congr HST.out, by go_grown⟩
            case measure => simp [intOf]; omega
        · have t2 : decide (0 < k) = true := by simp; omega
          have hgap := good_gap HG.out (k - 1) (by omega)
          have e2 := own_cell hvr (rcells_hi R (k - 1) (by omega))
          obtain ⟨r', hr'⟩ : ∃ r', r' = R[k - 1] := ⟨_, rfl⟩
          rw [← hr'] at hgap e2
          obtain ⟨pl, ph⟩ := r'
          have hk1 : R[k - 1 + 1]'(by omega) = R[k] := by congr 1; omega
          rw [hk1, ← HRK.out] at hgap
          simp only at hgap e2
          clear hk1 hr'
          have hph : ph < 256 := by omega
          have i2 : (0 : Int) ≤ (k : Int) - 1 := by omega
          have i3 : (k : Int) - 1 < (R.length : Int) := by omega
          have t3 : decide ((lo : Int) ≤ (ph : Int) + 1) = false := by simp; omega
          have t4 : decide (lo ≤ ph + 1) = false := by simp; omega
          have wk : IntKind.i64.wrap ((k : Int) - 1) = (k : Int) - 1 := IntWalk.i64_in _ (by omega)
          have wp : IntKind.i64.wrap ((ph : Int) + 1) = (ph : Int) + 1 := IntWalk.i64_in _ (by omega)
          have tk : ((k : Int) - 1).toNat = k - 1 := by omega
          clear hgap hpos
          go_wp2
          go_quiet (fail)
          clear wk wp tk t3 t4 e2
          go_wp2
          go_region_with (first | (go_at_call 28; refine (of_any _ _ _ (by omega) (by omega) (by omega) (by omega)).mono ?_; rintro e w3 ⟨r0, r1, r2, r3, hr, rfl, hb3⟩; have hS3 := Box4.below (Box4.drewN hsr _) hb3 hsr.lt; have hX3 := Box4.below (Box4.drewN hxr _) hb3 hxr.lt; have hV3 := own_below (own_drewN hvr _) hb3; have s0 := hS3.cell0; have s1 := hS3.cell1; have s2 := hS3.cell2; have s3 := hS3.cell3) | (go_at_call 16; refine (join_any _ _ _ _ _ _ _ _ _ _ _ HSET.out hr).mono ?_; rintro e w4 ⟨j0, j1, j2, j3, hj, rfl, hb4⟩; have hS4 := hS3.below hb4 hS3.lt; have hX4 := hX3.below hb4 hX3.lt; have hV4 := own_below hV3 hb4; have q0 := hS4.cell0; have q1 := hS4.cell1; have q2 := hS4.cell2; have q3 := hS4.cell3; have z0 := hS4.frozen 0; have z1 := hS4.frozen 1; have z2 := hS4.frozen 2; have z3 := hS4.frozen 3))
          all_goals
            have hB3 := below_step (below_drewN hbel _) hb3
            have hB4 := below_step hB3 hb4
            clear hB3 hb3 hb4 t1 t2 e0 e1
            go_wp2
            go_roundw
            case rel => exact ⟨k + 1, j0, j1, j2, j3, by go_num, by omega, own_set4 hV4 _ (by omega) _ _ _ _, hX4.keep4 _ (by omega) _ _ _ _, hS4.set4 _ _ _ _, hj.congr HST.out, by go_grown⟩
            case measure => simp [intOf]; omega
      · obtain rfl : k = R.length := by omega
        have hres : IsSet c0 c1 c2 c3 f := hset.congr (fun b hb => by rw [List.take_length]; exact HIN.out b hb)
        obtain ⟨rfl, rfl, rfl, rfl⟩ := IsSet.eq hres ha (fun b _ => rfl)
        have d0 := hxr.cell0
        have d1 := hxr.cell1
        have d2 := hxr.cell2
        have d3 := hxr.cell3
        have s0 := hsr.cell0
        have s1 := hsr.cell1
        have s2 := hsr.cell2
        have s3 := hsr.cell3
        clear hset
        go_wp2
        go_ret
        exact ⟨rfl, hbel⟩

set_option maxRecDepth 100000 in
set_option maxHeartbeats 1000000 in
theorem lifted (os : Os) (started : os.Started) (H : Type) (enc : TypeId × Value → H) :
    ReturnsInHanded {} Tryd.checked os 8 .any (fun w args => (Rows.bytesetBackSpec.pre enc Tryd.prog Tryd.f8 Rows.bytesetBackRow.domain false w args ∧ laidMetH Tryd.prog Rows.bytesetBackRow.laid w) ∧ sizedMet enc Tryd.prog Tryd.f8 (OpenSpec.ofChange Rows.bytesetBackSpec) false w args)
      (Rows.bytesetBackSpec.post enc Tryd.prog Tryd.f8 false true false false) := by
  refine returnsInHanded_of_change_and (C := Tryd.checked) (X := fun w _ => laidMetH Tryd.prog Rows.bytesetBackRow.laid w) (fun _ _ _ hh h => h.of_heap hh) noKnob started (by kernel_rfl) Tryd.func8
    (ChangeSpec.witness_shaped (enc := enc) (C := Tryd.checked) (os := os) (X := fun w _ => laidMetH Tryd.prog Rows.bytesetBackRow.laid w) false (World.laidAll Tryd.prog os Rows.bytesetBackRow.laid) #[.agg #[.int .u64 0, .int .u64 0, .int .u64 0, .int .u64 0]] 8 (World.laidAll_os _ _ _)
      (World.shaped_of_ZipB (by kernel_rfl) (by kernel_rfl)) (by kernel_rfl) (by kernel_rfl) (by kernel_rfl)
      (by rw [MakeChecks.laidMetH_plain _ _ _ (by kernel_rfl)]; exact laidMet_laidAll _ (by kernel_rfl) (by kernel_rfl))) ?_
  intro W base args ds gs before hval0 hW hcnd _ hL _
  have hval : ∀ (j : Nat) t v, Tryd.f8.params[j]? = some t → args[j]? = some v → Value.okWide Tryd.prog W .any base t v := hval0
  have hW' := hW
  obtain ⟨p, q, hA0, hV, rfl, hfz, hnd⟩ := hW
  have hA : DataW.TrodAll enc Tryd.prog W 0 (fun _ => true) true Tryd.f8.params.toList args.toList ds p := hA0
  rw [Tryd.params8] at hA hval
  obtain ⟨v0, vs0, d0, ds0, p0, q0, hargs, rfl, rfl, h0, r0⟩ := trodAll_cons hA
  obtain ⟨rfl, rfl, rfl⟩ := trodAll_nil r0
  obtain rfl : args = #[v0] := by cases args; simp_all
  obtain ⟨rfl, rfl⟩ := trodVars_none hV
  clear hA0 hval0 hA
  simp only [List.append_nil] at hW'
  have hlt := hW'.lt
  obtain ⟨x00, x01, x02, x03, rfl, rfl, rfl, w0, s0⟩ := open_set (hval 0 24 v0 rfl rfl) h0
  have hTD := tab_of_laid hL (MakeChecks.laidMetH_plain _ _ _ (by kernel_rfl)) (by kernel_rfl)
  refine (walk _ _ _ _ _ s0 W hTD).mono fun e W' ⟨he, hg⟩ => ?_
  subst he
  exact ⟨_, rfl, post_of_old (pv := []) hW' (fun _ _ _ => trodAll_cons_mk (shut_bool Tryd.underlying4 _) trodAll_mk0) (trodAll_cons_mk (Below.trod laidOutP (by kernel_rfl) (of_decide_eq_true (by kernel_rfl)) h0 hg (fun x hx => by simp at hx)) (trodAll_mk0)) (fun _ => rfl) (by simp) hg⟩

theorem over : Rows.bytesetBackRow.holds Tryd.pinned (OpenSpec.ofChange Rows.bytesetBackSpec) :=
  OpenClaim.holds_of_wide 8 Tryd.f8 rfl rfl rfl rfl rfl rfl rfl ⟨rfl, rfl, rfl, rfl, rfl⟩ rfl rfl rfl rfl rfl (by kernel_rfl) Tryd.func8 (by kernel_rfl)
    (of_decide_eq_true (by kernel_rfl)) (by unfold Func.isWrapper; first | (rw [if_pos (by decide +kernel)]; kernel_rfl) | (rw [if_neg (by decide +kernel)]; exact ⟨rfl, rfl⟩))
    (fun os started H enc _ => lifted os started H enc)

/-- No parameter wants a stand-in. -/
theorem plain (f : FuncId) (fn : Func) (hf : Tryd.pinned.checked.prog.funcNamed "reglet/regletlaw01.BytesetBack" = some f) (hfn : Tryd.pinned.checked.prog.funcs[f]? = some fn) :
    false = Tryd.pinned.checked.prog.looks [] ∧ ∀ (j : Nat) t, fn.params[j]? = some t → Tryd.pinned.checked.prog.wantsStandIn t = false := by
  obtain rfl : f = 8 := Option.some.inj ((show Tryd.prog.funcNamed "reglet/regletlaw01.BytesetBack" = some 8 by kernel_rfl).symm.trans hf) |>.symm
  obtain rfl : fn = Tryd.f8 := (Option.some.inj (Tryd.func8.symm.trans hfn)).symm
  refine ⟨by kernel_rfl, fun j t ht => ?_⟩
  rw [Tryd.params8] at ht
  have hm : t ∈ [24] := by simpa using Array.mem_of_getElem? ht
  have hall : ([24].all fun u => !Tryd.prog.wantsStandIn u) = true := by kernel_rfl
  exact (show Tryd.prog.wantsStandIn t = false by simpa using List.all_eq_true.1 hall t hm)

/-- The statement. -/
theorem proved : Rows.BytesetBackCardSaid :=
  Claim7.holds_tied_plain_at .later [] _ _ _ _ over (fun _ h => by cases h) (by kernel_rfl) (fun _ h => by cases h) bytesetBack_row_tie rfl ⟨rfl, rfl⟩ (by kernel_rfl) rfl plain (by kernel_rfl)

#print axioms proved
end Go.Proofs.YtchicecmoknkjaaDoor.bytesetBack
