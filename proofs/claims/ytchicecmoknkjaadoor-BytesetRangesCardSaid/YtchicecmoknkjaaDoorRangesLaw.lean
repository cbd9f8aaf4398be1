/- BytesetRanges is true for every input: for every set a and all numbers lo and hi, without any condition: the set of a range and the ranges of a set are the document's answers. -/
import Derived.Test.YtchicecmoknkjaaDoorFrame
namespace Go.Proofs.YtchicecmoknkjaaDoor.bytesetRanges
open Go.ChangeShapes Go.WideShapes Go.ChangeAt Go.RowKit Go.Proofs.YtchicecmoknkjaaDoor
set_option linter.unusedVariables false

theorem eqK {a0 a1 a2 a3 r0 r1 r2 r3 : Int} {f : Nat → Bool} (ha : IsSet a0 a1 a2 a3 f) (hr : IsSet r0 r1 r2 r3 f) {P : Prop} (k : r0 = a0 → r1 = a1 → r2 = a2 → r3 = a3 → P) : P :=
  have e := IsSet.eq ha hr (fun b _ => rfl)
  k e.1 e.2.1 e.2.2.1 e.2.2.2

theorem ranges_h (a0 a1 a2 a3 : Int) (f : Nat → Bool) (R : List (Nat × Nat)) (w : World) (ha : IsSet a0 a1 a2 a3 f) (hR : Hid (R = rgs f 256)) (hT : TabD w) :
    Calls Tryd.prog 31 #[.agg #[.int .u64 a0, .int .u64 a1, .int .u64 a2, .int .u64 a3]] w (RetRanges R w) := by
  rw [hR.out]; exact ranges_any a0 a1 a2 a3 f w ha hT
theorem refranges_h (a0 a1 a2 a3 : Int) (f : Nat → Bool) (R : List (Nat × Nat)) (w : World) (ha : IsSet a0 a1 a2 a3 f) (hR : Hid (R = rgs f 256)) :
    Calls Tryd.prog 32 #[.agg #[.int .u64 a0, .int .u64 a1, .int .u64 a2, .int .u64 a3]] w (RetRanges R w) := by
  rw [hR.out]; exact refranges_any a0 a1 a2 a3 f w ha

set_option maxRecDepth 100000 in
set_option maxHeartbeats 8000000 in
theorem walk (a0 a1 a2 a3 lo hi : Int) (f : Nat → Bool) (ha : IsSet a0 a1 a2 a3 f) (hl : -9223372036854775808 ≤ lo ∧ lo ≤ 9223372036854775807) (hh : -9223372036854775808 ≤ hi ∧ hi ≤ 9223372036854775807) (w : World) (hTD : TabD w) :
    Calls Tryd.prog 4 #[.agg #[.int .u64 a0, .int .u64 a1, .int .u64 a2, .int .u64 a3], .int .i64 lo, .int .i64 hi] w (RetBool true w) := by
  have HT := Lib.hid hTD
  clear hTD
  obtain ⟨hl1, hl2⟩ := hl
  obtain ⟨hh1, hh2⟩ := hh
  obtain ⟨R, hR⟩ : ∃ R, R = rgs f 256 := ⟨_, rfl⟩
  have hlen : R.length ≤ 256 := by rw [hR]; exact rgs_len f 256
  have HR := Lib.hid hR
  clear hR
  have hEq := eql_set
  have T0 : One w a0 a1 a2 a3 (w.alloc (.cells #[.int .u64 a0, .int .u64 a1, .int .u64 a2, .int .u64 a3] 24)) := One.of (Box4.new _ _ _ _ _) (by go_grown)
  go_enter Tryd.func4, Tryd.ntmps4
  go_wp2_with fail
  go_region_held3 (fun W => (W.cell? ⟨w.heap.size, 0, none⟩ = some (.int .u64 a0) ∧ W.cell? ⟨w.heap.size, 1, none⟩ = some (.int .u64 a1) ∧ W.cell? ⟨w.heap.size, 2, none⟩ = some (.int .u64 a2) ∧ W.cell? ⟨w.heap.size, 3, none⟩ = some (.int .u64 a3)) ∧ Box4 W w.heap.size a0 a1 a2 a3 ∧ Below w.heap.size w W)
    (first | exact One.step (by assumption) (by assumption) | exact One.drew (by assumption))
    (first | (go_at_call 15; refine (awake_any _ (One.tab HT.out (by assumption))).mono ?_; rintro e w' ⟨rfl, hb'⟩) | (go_at_call 28; refine (of_any _ _ _ hl1 hl2 hh1 hh2).mono ?_; rintro e w' ⟨r0, r1, r2, r3, hO, rfl, hb'⟩) | (go_at_call 29; refine (refof_any _ _ _).mono ?_; rintro e w' ⟨r0, r1, r2, r3, hr, rfl, hb'⟩; refine eqK hO hr ?_; rintro rfl rfl rfl rfl) | (go_at_call 31; refine (ranges_h _ _ _ _ _ _ _ ha HR (One.tab HT.out (by assumption))).mono ?_; rintro e w' ⟨v, rfl, hv, hb'⟩) | (go_at_call 32; refine (refranges_h _ _ _ _ _ _ _ ha HR).mono ?_; rintro e w' ⟨v2, rfl, hv2, hb'⟩; have hv3 := own_below hv hb') | (go_at_call 30; refine (same_any _ _ _ _ R hlen _ hv3 hv2).mono ?_; rintro e w' ⟨rfl, hb'⟩))
  rename_i hS
  obtain ⟨_, _, hbel⟩ := hS
  go_wp2
  go_ret
  exact ⟨rfl, hbel⟩

set_option maxRecDepth 100000 in
set_option maxHeartbeats 1000000 in
theorem lifted (os : Os) (started : os.Started) (H : Type) (enc : TypeId × Value → H) :
    ReturnsInHanded {} Tryd.checked os 4 .any (fun w args => (Rows.bytesetRangesSpec.pre enc Tryd.prog Tryd.f4 Rows.bytesetRangesRow.domain false w args ∧ laidMetH Tryd.prog Rows.bytesetRangesRow.laid w) ∧ sizedMet enc Tryd.prog Tryd.f4 (OpenSpec.ofChange Rows.bytesetRangesSpec) false w args)
      (Rows.bytesetRangesSpec.post enc Tryd.prog Tryd.f4 false true false false) := by
  refine returnsInHanded_of_change_and (C := Tryd.checked) (X := fun w _ => laidMetH Tryd.prog Rows.bytesetRangesRow.laid w) (fun _ _ _ hh h => h.of_heap hh) noKnob started (by kernel_rfl) Tryd.func4
    (ChangeSpec.witness_shaped (enc := enc) (C := Tryd.checked) (os := os) (X := fun w _ => laidMetH Tryd.prog Rows.bytesetRangesRow.laid w) false (World.laidAll Tryd.prog os Rows.bytesetRangesRow.laid) #[.agg #[.int .u64 0, .int .u64 0, .int .u64 0, .int .u64 0], .int .i64 0, .int .i64 0] 8 (World.laidAll_os _ _ _)
      (World.shaped_of_ZipB (by kernel_rfl) (by kernel_rfl)) (by kernel_rfl) (by kernel_rfl) (by kernel_rfl)
      (by rw [MakeChecks.laidMetH_plain _ _ _ (by kernel_rfl)]; exact laidMet_laidAll _ (by kernel_rfl) (by kernel_rfl))) ?_
  intro W base args ds gs before hval0 hW hcnd _ hL _
  have hval : ∀ (j : Nat) t v, Tryd.f4.params[j]? = some t → args[j]? = some v → Value.okWide Tryd.prog W .any base t v := hval0
  have hW' := hW
  obtain ⟨p, q, hA0, hV, rfl, hfz, hnd⟩ := hW
  have hA : DataW.TrodAll enc Tryd.prog W 0 (fun _ => true) true Tryd.f4.params.toList args.toList ds p := hA0
  rw [Tryd.params4] at hA hval
  obtain ⟨v0, vs0, d0, ds0, p0, q0, hargs, rfl, rfl, h0, r0⟩ := trodAll_cons hA
  obtain ⟨v1, vs1, d1, ds1, p1, q1, rfl, rfl, rfl, h1, r1⟩ := trodAll_cons r0
  obtain ⟨v2, vs2, d2, ds2, p2, q2, rfl, rfl, rfl, h2, r2⟩ := trodAll_cons r1
  obtain ⟨rfl, rfl, rfl⟩ := trodAll_nil r2
  obtain rfl : args = #[v0, v1, v2] := by cases args; simp_all
  obtain ⟨rfl, rfl⟩ := trodVars_none hV
  clear hA0 hval0 hA
  simp only [List.append_nil] at hW'
  have hlt := hW'.lt
  obtain ⟨x00, x01, x02, x03, rfl, rfl, rfl, w0, s0⟩ := open_set (hval 0 24 v0 rfl rfl) h0
  obtain ⟨x1, rfl, rfl, rfl, w1⟩ := open_int Tryd.underlying3 (hval 1 3 v1 rfl rfl) h1
  have b1 := bounds_i64 w1
  obtain ⟨x2, rfl, rfl, rfl, w2⟩ := open_int Tryd.underlying3 (hval 2 3 v2 rfl rfl) h2
  have b2 := bounds_i64 w2
  have hTD := tab_of_laid hL (MakeChecks.laidMetH_plain _ _ _ (by kernel_rfl)) (by kernel_rfl)
  refine (walk _ _ _ _ x1 x2 _ s0 b1 b2 W hTD).mono fun e W' ⟨he, hg⟩ => ?_
  subst he
  exact ⟨_, rfl, post_of_old (pv := []) hW' (fun _ _ _ => trodAll_cons_mk (shut_bool Tryd.underlying4 _) trodAll_mk0) (trodAll_cons_mk (Below.trod laidOutP (by kernel_rfl) (of_decide_eq_true (by kernel_rfl)) h0 hg (fun x hx => by simp at hx)) (trodAll_cons_mk (Below.trod laidOutP (by kernel_rfl) (of_decide_eq_true (by kernel_rfl)) h1 hg (fun x hx => by simp at hx)) (trodAll_cons_mk (Below.trod laidOutP (by kernel_rfl) (of_decide_eq_true (by kernel_rfl)) h2 hg (fun x hx => by simp at hx)) (trodAll_mk0)))) (fun _ => rfl) (by simp) hg⟩

theorem over : Rows.bytesetRangesRow.holds Tryd.pinned (OpenSpec.ofChange Rows.bytesetRangesSpec) :=
  OpenClaim.holds_of_wide 4 Tryd.f4 rfl rfl rfl rfl rfl rfl rfl ⟨rfl, rfl, rfl, rfl, rfl⟩ rfl rfl rfl rfl rfl (by kernel_rfl) Tryd.func4 (by kernel_rfl)
    (of_decide_eq_true (by kernel_rfl)) (by unfold Func.isWrapper; first | (rw [if_pos (by decide +kernel)]; kernel_rfl) | (rw [if_neg (by decide +kernel)]; exact ⟨rfl, rfl⟩))
    (fun os started H enc _ => lifted os started H enc)

/-- No parameter wants a stand-in. -/
theorem plain (f : FuncId) (fn : Func) (hf : Tryd.pinned.checked.prog.funcNamed "reglet/regletlaw01.BytesetRanges" = some f) (hfn : Tryd.pinned.checked.prog.funcs[f]? = some fn) :
    false = Tryd.pinned.checked.prog.looks [] ∧ ∀ (j : Nat) t, fn.params[j]? = some t → Tryd.pinned.checked.prog.wantsStandIn t = false := by
  obtain rfl : f = 4 := Option.some.inj ((show Tryd.prog.funcNamed "reglet/regletlaw01.BytesetRanges" = some 4 by kernel_rfl).symm.trans hf) |>.symm
  obtain rfl : fn = Tryd.f4 := (Option.some.inj (Tryd.func4.symm.trans hfn)).symm
  refine ⟨by kernel_rfl, fun j t ht => ?_⟩
  rw [Tryd.params4] at ht
  have hm : t ∈ [24, 3, 3] := by simpa using Array.mem_of_getElem? ht
  have hall : ([24, 3, 3].all fun u => !Tryd.prog.wantsStandIn u) = true := by kernel_rfl
  exact (show Tryd.prog.wantsStandIn t = false by simpa using List.all_eq_true.1 hall t hm)

/-- The statement. -/
theorem proved : Rows.BytesetRangesCardSaid :=
  Claim7.holds_tied_plain_at .later [] _ _ _ _ over (fun _ h => by cases h) (by kernel_rfl) (fun _ h => by cases h) bytesetRanges_row_tie rfl ⟨rfl, rfl⟩ (by kernel_rfl) rfl plain (by kernel_rfl)

#print axioms proved
end Go.Proofs.YtchicecmoknkjaaDoor.bytesetRanges
