/- BytesetSets is true for every input: for all sets a and b and every number k, without any condition: joins, meets, what is left without, turned sets, numbers of bytes and what a set has are the document's answers. -/
import Derived.Test.YtchicecmoknkjaaDoorFrame
namespace Go.Proofs.YtchicecmoknkjaaDoor.bytesetSets
open Go.ChangeShapes Go.WideShapes Go.ChangeAt Go.RowKit Go.Proofs.YtchicecmoknkjaaDoor
set_option linter.unusedVariables false

theorem eqJ {a0 a1 a2 a3 r0 r1 r2 r3 : Int} {f g : Nat → Bool} (ha : IsSet a0 a1 a2 a3 (fun j => f j || g j)) (hr : IsSet r0 r1 r2 r3 (fun j => f j || g j)) : r0 = a0 ∧ r1 = a1 ∧ r2 = a2 ∧ r3 = a3 :=
  IsSet.eq ha hr (fun b _ => rfl)
theorem eqM {a0 a1 a2 a3 r0 r1 r2 r3 : Int} {f g : Nat → Bool} (ha : IsSet a0 a1 a2 a3 (fun j => f j && g j)) (hr : IsSet r0 r1 r2 r3 (fun j => f j && g j)) : r0 = a0 ∧ r1 = a1 ∧ r2 = a2 ∧ r3 = a3 :=
  IsSet.eq ha hr (fun b _ => rfl)
theorem eqW {a0 a1 a2 a3 r0 r1 r2 r3 : Int} {f g : Nat → Bool} (ha : IsSet a0 a1 a2 a3 (fun j => f j && !g j)) (hr : IsSet r0 r1 r2 r3 (fun j => f j && !g j)) : r0 = a0 ∧ r1 = a1 ∧ r2 = a2 ∧ r3 = a3 :=
  IsSet.eq ha hr (fun b _ => rfl)
theorem eqT {a0 a1 a2 a3 r0 r1 r2 r3 : Int} {f : Nat → Bool} (ha : IsSet a0 a1 a2 a3 (fun j => !f j)) (hr : IsSet r0 r1 r2 r3 (fun j => !f j)) : r0 = a0 ∧ r1 = a1 ∧ r2 = a2 ∧ r3 = a3 :=
  IsSet.eq ha hr (fun b _ => rfl)

set_option maxRecDepth 100000 in
set_option maxHeartbeats 4000000 in
theorem walk (a0 a1 a2 a3 b0 b1 b2 b3 k : Int) (f g : Nat → Bool) (ha : IsSet a0 a1 a2 a3 f) (hb : IsSet b0 b1 b2 b3 g) (w : World) (hTD : TabD w) :
    Calls Tryd.prog 3 #[.agg #[.int .u64 a0, .int .u64 a1, .int .u64 a2, .int .u64 a3], .agg #[.int .u64 b0, .int .u64 b1, .int .u64 b2, .int .u64 b3], .int .i64 k] w (RetBool true w) := by
  have HT := Lib.hid hTD
  clear hTD
  obtain ⟨N1, h1⟩ : ∃ N, N = cnt f 256 := ⟨_, rfl⟩
  have H1 := Lib.hid h1
  clear h1
  have T0 : Two w a0 a1 a2 a3 b0 b1 b2 b3 ((w.alloc (.cells #[.int .u64 a0, .int .u64 a1, .int .u64 a2, .int .u64 a3] 24)).alloc (.cells #[.int .u64 b0, .int .u64 b1, .int .u64 b2, .int .u64 b3] 24)) :=
    Two.of ((Box4.new _ _ _ _ _).alloc _) (Box4.new' _ _ _ _ _ _ (by simp)) (by go_grown)
  have hEq := eql_set
  go_enter Tryd.func3, Tryd.ntmps3
  go_wp2_with fail
  go_region_held3 (fun W => (W.cell? ⟨w.heap.size, 0, none⟩ = some (.int .u64 a0) ∧ W.cell? ⟨w.heap.size, 1, none⟩ = some (.int .u64 a1) ∧ W.cell? ⟨w.heap.size, 2, none⟩ = some (.int .u64 a2) ∧ W.cell? ⟨w.heap.size, 3, none⟩ = some (.int .u64 a3)) ∧ (W.cell? ⟨w.heap.size + 1, 0, none⟩ = some (.int .u64 b0) ∧ W.cell? ⟨w.heap.size + 1, 1, none⟩ = some (.int .u64 b1) ∧ W.cell? ⟨w.heap.size + 1, 2, none⟩ = some (.int .u64 b2) ∧ W.cell? ⟨w.heap.size + 1, 3, none⟩ = some (.int .u64 b3)) ∧ Box4 W w.heap.size a0 a1 a2 a3 ∧ Box4 W (w.heap.size + 1) b0 b1 b2 b3 ∧ Below w.heap.size w W)
    (first | exact Two.step (by assumption) (by assumption) | exact Two.drew (by assumption))
    (first | (go_at_call 15; refine (awake_any _ (Two.tab HT.out (by assumption))).mono ?_; rintro e w' ⟨rfl, hb'⟩) | (go_at_call 16; refine (join_any _ _ _ _ _ _ _ _ _ _ _ ha hb).mono ?_; rintro e w' ⟨r0, r1, r2, r3, hJ, rfl, hb'⟩) | (go_at_call 17; refine (refjoin_any _ _ _ _ _ _ _ _ _ _ _ ha hb).mono ?_; rintro e w' ⟨r0, r1, r2, r3, hr, rfl, hb'⟩; obtain ⟨rfl, rfl, rfl, rfl⟩ := eqJ hJ hr) | (go_at_call 18; refine (meet_any _ _ _ _ _ _ _ _ _ _ _ ha hb).mono ?_; rintro e w' ⟨r0, r1, r2, r3, hM, rfl, hb'⟩) | (go_at_call 19; refine (refmeet_any _ _ _ _ _ _ _ _ _ _ _ ha hb).mono ?_; rintro e w' ⟨r0, r1, r2, r3, hr, rfl, hb'⟩; obtain ⟨rfl, rfl, rfl, rfl⟩ := eqM hM hr) | (go_at_call 20; refine (without_any _ _ _ _ _ _ _ _ _ _ _ ha hb).mono ?_; rintro e w' ⟨r0, r1, r2, r3, hWO, rfl, hb'⟩) | (go_at_call 21; refine (refwithout_any _ _ _ _ _ _ _ _ _ _ _ ha hb).mono ?_; rintro e w' ⟨r0, r1, r2, r3, hr, rfl, hb'⟩; obtain ⟨rfl, rfl, rfl, rfl⟩ := eqW hWO hr) | (go_at_call 22; refine (turned_any _ _ _ _ _ _ ha).mono ?_; rintro e w' ⟨r0, r1, r2, r3, hT, rfl, hb'⟩) | (go_at_call 23; refine (refturned_any _ _ _ _ _ _ ha).mono ?_; rintro e w' ⟨r0, r1, r2, r3, hr, rfl, hb'⟩; obtain ⟨rfl, rfl, rfl, rfl⟩ := eqT hT hr) | (go_at_call 24; refine (count_h _ _ _ _ _ _ _ ha H1 (Two.tab HT.out (by assumption))).mono ?_; rintro e w' ⟨rfl, hb'⟩) | (go_at_call 25; refine (refcount_h _ _ _ _ _ _ _ ha H1).mono ?_; rintro e w' ⟨rfl, hb'⟩) | (go_at_call 26; refine (has_b _ _ _ _ _ _ _ ha).mono ?_; rintro e w' ⟨rfl, hb'⟩) | (go_at_call 27; refine (refhas_b _ _ _ _ _ _ _ ha).mono ?_; rintro e w' ⟨rfl, hb'⟩))
  rename_i hS
  obtain ⟨_, _, _, _, hbel⟩ := hS
  go_wp2
  go_ret
  exact ⟨rfl, hbel⟩

set_option maxRecDepth 100000 in
set_option maxHeartbeats 1000000 in
theorem lifted (os : Os) (started : os.Started) (H : Type) (enc : TypeId × Value → H) :
    ReturnsInHanded {} Tryd.checked os 3 .any (fun w args => (Rows.bytesetSetsSpec.pre enc Tryd.prog Tryd.f3 Rows.bytesetSetsRow.domain false w args ∧ laidMetH Tryd.prog Rows.bytesetSetsRow.laid w) ∧ sizedMet enc Tryd.prog Tryd.f3 (OpenSpec.ofChange Rows.bytesetSetsSpec) false w args)
      (Rows.bytesetSetsSpec.post enc Tryd.prog Tryd.f3 false true false false) := by
  refine returnsInHanded_of_change_and (C := Tryd.checked) (X := fun w _ => laidMetH Tryd.prog Rows.bytesetSetsRow.laid w) (fun _ _ _ hh h => h.of_heap hh) noKnob started (by kernel_rfl) Tryd.func3
    (ChangeSpec.witness_shaped (enc := enc) (C := Tryd.checked) (os := os) (X := fun w _ => laidMetH Tryd.prog Rows.bytesetSetsRow.laid w) false (World.laidAll Tryd.prog os Rows.bytesetSetsRow.laid) #[.agg #[.int .u64 0, .int .u64 0, .int .u64 0, .int .u64 0], .agg #[.int .u64 0, .int .u64 0, .int .u64 0, .int .u64 0], .int .i64 0] 8 (World.laidAll_os _ _ _)
      (World.shaped_of_ZipB (by kernel_rfl) (by kernel_rfl)) (by kernel_rfl) (by kernel_rfl) (by kernel_rfl)
      (by rw [MakeChecks.laidMetH_plain _ _ _ (by kernel_rfl)]; exact laidMet_laidAll _ (by kernel_rfl) (by kernel_rfl))) ?_
  intro W base args ds gs before hval0 hW hcnd _ hL _
  have hval : ∀ (j : Nat) t v, Tryd.f3.params[j]? = some t → args[j]? = some v → Value.okWide Tryd.prog W .any base t v := hval0
  have hW' := hW
  obtain ⟨p, q, hA0, hV, rfl, hfz, hnd⟩ := hW
  have hA : DataW.TrodAll enc Tryd.prog W 0 (fun _ => true) true Tryd.f3.params.toList args.toList ds p := hA0
  rw [Tryd.params3] at hA hval
  obtain ⟨v0, vs0, d0, ds0, p0, q0, hargs, rfl, rfl, h0, r0⟩ := trodAll_cons hA
  obtain ⟨v1, vs1, d1, ds1, p1, q1, rfl, rfl, rfl, h1, r1⟩ := trodAll_cons r0
  obtain ⟨v2, vs2, d2, ds2, p2, q2, rfl, rfl, rfl, h2, r2⟩ := trodAll_cons r1
  obtain ⟨rfl, rfl, rfl⟩ := trodAll_nil r2
  obtain rfl : args = #[v0, v1, v2] := by cases args; simp_all
  obtain ⟨rfl, rfl⟩ := trodVars_none hV
  clear hA0 hval0 hA
  simp only [List.append_nil] at hW'
  have hlt := hW'.lt
  obtain ⟨x00, x01, x02, x03, rfl, rfl, rfl, w0, s0⟩ := open_set (hval 0 24 v0 rfl rfl) h0
  obtain ⟨x10, x11, x12, x13, rfl, rfl, rfl, w1, s1⟩ := open_set (hval 1 24 v1 rfl rfl) h1
  obtain ⟨x2, rfl, rfl, rfl, w2⟩ := open_int Tryd.underlying3 (hval 2 3 v2 rfl rfl) h2
  have b2 := bounds_i64 w2
  have hTD := tab_of_laid hL (MakeChecks.laidMetH_plain _ _ _ (by kernel_rfl)) (by kernel_rfl)
  refine (walk _ _ _ _ _ _ _ _ x2 _ _ s0 s1 W hTD).mono fun e W' ⟨he, hg⟩ => ?_
  subst he
  exact ⟨_, rfl, post_of_old (pv := []) hW' (fun _ _ _ => trodAll_cons_mk (shut_bool Tryd.underlying4 _) trodAll_mk0) (trodAll_cons_mk (Below.trod laidOutP (by kernel_rfl) (of_decide_eq_true (by kernel_rfl)) h0 hg (fun x hx => by simp at hx)) (trodAll_cons_mk (Below.trod laidOutP (by kernel_rfl) (of_decide_eq_true (by kernel_rfl)) h1 hg (fun x hx => by simp at hx)) (trodAll_cons_mk (Below.trod laidOutP (by kernel_rfl) (of_decide_eq_true (by kernel_rfl)) h2 hg (fun x hx => by simp at hx)) (trodAll_mk0)))) (fun _ => rfl) (by simp) hg⟩

theorem over : Rows.bytesetSetsRow.holds Tryd.pinned (OpenSpec.ofChange Rows.bytesetSetsSpec) :=
  OpenClaim.holds_of_wide 3 Tryd.f3 rfl rfl rfl rfl rfl rfl rfl ⟨rfl, rfl, rfl, rfl, rfl⟩ rfl rfl rfl rfl rfl (by kernel_rfl) Tryd.func3 (by kernel_rfl)
    (of_decide_eq_true (by kernel_rfl)) (by unfold Func.isWrapper; first | (rw [if_pos (by decide +kernel)]; kernel_rfl) | (rw [if_neg (by decide +kernel)]; exact ⟨rfl, rfl⟩))
    (fun os started H enc _ => lifted os started H enc)

/-- No parameter wants a stand-in. -/
theorem plain (f : FuncId) (fn : Func) (hf : Tryd.pinned.checked.prog.funcNamed "reglet/regletlaw01.BytesetSets" = some f) (hfn : Tryd.pinned.checked.prog.funcs[f]? = some fn) :
    false = Tryd.pinned.checked.prog.looks [] ∧ ∀ (j : Nat) t, fn.params[j]? = some t → Tryd.pinned.checked.prog.wantsStandIn t = false := by
  obtain rfl : f = 3 := Option.some.inj ((show Tryd.prog.funcNamed "reglet/regletlaw01.BytesetSets" = some 3 by kernel_rfl).symm.trans hf) |>.symm
  obtain rfl : fn = Tryd.f3 := (Option.some.inj (Tryd.func3.symm.trans hfn)).symm
  refine ⟨by kernel_rfl, fun j t ht => ?_⟩
  rw [Tryd.params3] at ht
  have hm : t ∈ [24, 24, 3] := by simpa using Array.mem_of_getElem? ht
  have hall : ([24, 24, 3].all fun u => !Tryd.prog.wantsStandIn u) = true := by kernel_rfl
  exact (show Tryd.prog.wantsStandIn t = false by simpa using List.all_eq_true.1 hall t hm)

/-- The statement. -/
theorem proved : Rows.BytesetSetsCardSaid :=
  Claim7.holds_tied_plain_at .later [] _ _ _ _ over (fun _ h => by cases h) (by kernel_rfl) (fun _ h => by cases h) bytesetSets_row_tie rfl ⟨rfl, rfl⟩ (by kernel_rfl) rfl plain (by kernel_rfl)

#print axioms proved
end Go.Proofs.YtchicecmoknkjaaDoor.bytesetSets
