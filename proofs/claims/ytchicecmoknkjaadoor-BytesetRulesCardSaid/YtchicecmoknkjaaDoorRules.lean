/- BytesetRules is true for every input: for all sets a, b and c, without any condition: joins and meets part into one another, in any order, and what is taken away is in none. -/
import Derived.Test.YtchicecmoknkjaaDoorFrame
namespace Go.Proofs.YtchicecmoknkjaaDoor.bytesetRules
open Go.ChangeShapes Go.WideShapes Go.ChangeAt Go.RowKit Go.Proofs.YtchicecmoknkjaaDoor
set_option linter.unusedVariables false

theorem eqD1 {a0 a1 a2 a3 r0 r1 r2 r3 : Int} {f g h : Nat → Bool} (ha : IsSet a0 a1 a2 a3 (fun j => f j && (g j || h j))) (hr : IsSet r0 r1 r2 r3 (fun j => (f j && g j) || (f j && h j))) {P : Prop} (k : r0 = a0 → r1 = a1 → r2 = a2 → r3 = a3 → P) : P :=
  have e := IsSet.eq ha hr (fun b _ => by cases f b <;> cases g b <;> cases h b <;> rfl)
  k e.1 e.2.1 e.2.2.1 e.2.2.2
theorem eqD2 {a0 a1 a2 a3 r0 r1 r2 r3 : Int} {f g h : Nat → Bool} (ha : IsSet a0 a1 a2 a3 (fun j => f j || (g j && h j))) (hr : IsSet r0 r1 r2 r3 (fun j => (f j || g j) && (f j || h j))) {P : Prop} (k : r0 = a0 → r1 = a1 → r2 = a2 → r3 = a3 → P) : P :=
  have e := IsSet.eq ha hr (fun b _ => by cases f b <;> cases g b <;> cases h b <;> rfl)
  k e.1 e.2.1 e.2.2.1 e.2.2.2
theorem eqC {a0 a1 a2 a3 r0 r1 r2 r3 : Int} {f g : Nat → Bool} (ha : IsSet a0 a1 a2 a3 (fun j => f j || g j)) (hr : IsSet r0 r1 r2 r3 (fun j => g j || f j)) {P : Prop} (k : r0 = a0 → r1 = a1 → r2 = a2 → r3 = a3 → P) : P :=
  have e := IsSet.eq ha hr (fun b _ => by cases f b <;> cases g b <;> rfl)
  k e.1 e.2.1 e.2.2.1 e.2.2.2
theorem eqA {a0 a1 a2 a3 r0 r1 r2 r3 : Int} {f g : Nat → Bool} (ha : IsSet a0 a1 a2 a3 f) (hr : IsSet r0 r1 r2 r3 (fun j => (f j && !g j) || (f j && g j))) {P : Prop} (k : r0 = a0 → r1 = a1 → r2 = a2 → r3 = a3 → P) : P :=
  have e := IsSet.eq ha hr (fun b _ => by cases f b <;> cases g b <;> rfl)
  k e.1 e.2.1 e.2.2.1 e.2.2.2
theorem cnt_zero {f : Nat → Bool} (h : ∀ j, f j = false) : ∀ n, cnt f n = 0
  | 0 => rfl
  | n + 1 => by unfold cnt; rw [cnt_zero h n, h n]; rfl

theorem nameIt {p q : Prop} (h : p) (k : p → q) : q := k h

set_option maxRecDepth 100000 in
set_option maxHeartbeats 8000000 in
theorem walk (a0 a1 a2 a3 b0 b1 b2 b3 c0 c1 c2 c3 : Int) (f g h : Nat → Bool) (ha : IsSet a0 a1 a2 a3 f) (hb : IsSet b0 b1 b2 b3 g) (hc : IsSet c0 c1 c2 c3 h) (w : World) (hTD : TabD w) :
    Calls Tryd.prog 10 #[.agg #[.int .u64 a0, .int .u64 a1, .int .u64 a2, .int .u64 a3], .agg #[.int .u64 b0, .int .u64 b1, .int .u64 b2, .int .u64 b3], .agg #[.int .u64 c0, .int .u64 c1, .int .u64 c2, .int .u64 c3]] w (RetBool true w) := by
  have HT := Lib.hid hTD
  clear hTD
  have h0 : 0 = cnt (fun j => (f j && !g j) && g j) 256 := (cnt_zero (fun j => by cases f j <;> cases g j <;> rfl) 256).symm
  have H0 := Lib.hid h0
  clear h0
  have T0 : Three w a0 a1 a2 a3 b0 b1 b2 b3 c0 c1 c2 c3 (((w.alloc (.cells #[.int .u64 a0, .int .u64 a1, .int .u64 a2, .int .u64 a3] 24)).alloc (.cells #[.int .u64 b0, .int .u64 b1, .int .u64 b2, .int .u64 b3] 24)).alloc (.cells #[.int .u64 c0, .int .u64 c1, .int .u64 c2, .int .u64 c3] 24)) :=
    Three.of (((Box4.new _ _ _ _ _).alloc _).alloc _) ((Box4.new' _ _ _ _ _ _ (by simp)).alloc _) (Box4.new' _ _ _ _ _ _ (by simp)) (by go_grown)
  have hEq := eql_set
  have hL1 : True := trivial
  have hL2 : True := trivial
  have hL3 : True := trivial
  go_enter Tryd.func10, Tryd.ntmps10
  go_wp2_with (go_at_call 15; refine (awake_any _ (Three.tab HT.out (by assumption))).mono ?_; rintro e w1 ⟨rfl, hb1⟩)
  have T1 := T0.step hb1
  clear T0 hb1
  go_region_held3 (fun W => (W.cell? ⟨w.heap.size, 0, none⟩ = some (.int .u64 a0) ∧ W.cell? ⟨w.heap.size, 1, none⟩ = some (.int .u64 a1) ∧ W.cell? ⟨w.heap.size, 2, none⟩ = some (.int .u64 a2) ∧ W.cell? ⟨w.heap.size, 3, none⟩ = some (.int .u64 a3)) ∧ (W.cell? ⟨w.heap.size + 1, 0, none⟩ = some (.int .u64 b0) ∧ W.cell? ⟨w.heap.size + 1, 1, none⟩ = some (.int .u64 b1) ∧ W.cell? ⟨w.heap.size + 1, 2, none⟩ = some (.int .u64 b2) ∧ W.cell? ⟨w.heap.size + 1, 3, none⟩ = some (.int .u64 b3)) ∧ (W.cell? ⟨w.heap.size + 1 + 1, 0, none⟩ = some (.int .u64 c0) ∧ W.cell? ⟨w.heap.size + 1 + 1, 1, none⟩ = some (.int .u64 c1) ∧ W.cell? ⟨w.heap.size + 1 + 1, 2, none⟩ = some (.int .u64 c2) ∧ W.cell? ⟨w.heap.size + 1 + 1, 3, none⟩ = some (.int .u64 c3)) ∧ Box4 W w.heap.size a0 a1 a2 a3 ∧ Box4 W (w.heap.size + 1) b0 b1 b2 b3 ∧ Box4 W (w.heap.size + 1 + 1) c0 c1 c2 c3 ∧ Below w.heap.size w W)
    (first | exact Three.step (by assumption) (by assumption) | exact Three.drew (by assumption))
    (first | (go_at_call 16; refine (join_any _ _ _ _ _ _ _ _ _ _ _ (by assumption) (by assumption)).mono ?_; rintro e w' ⟨r0, r1, r2, r3, hr, rfl, hb'⟩; refine eqD1 hL1 hr ?_; rintro rfl rfl rfl rfl) | (go_at_call 18; refine (meet_any _ _ _ _ _ _ _ _ _ _ _ (by assumption) (by assumption)).mono ?_; rintro e w' ⟨r0, r1, r2, r3, hr, rfl, hb'⟩; refine nameIt (p := IsSet r0 r1 r2 r3 (fun j => f j && (g j || h j))) hr ?_; intro hL1) | (go_at_call 16; refine (join_any _ _ _ _ _ _ _ _ _ _ _ (by assumption) (by assumption)).mono ?_; rintro e w' ⟨r0, r1, r2, r3, hr, rfl, hb'⟩) | (go_at_call 18; refine (meet_any _ _ _ _ _ _ _ _ _ _ _ (by assumption) (by assumption)).mono ?_; rintro e w' ⟨r0, r1, r2, r3, hr, rfl, hb'⟩))
  rename_i hS
  have T2 : Three w a0 a1 a2 a3 b0 b1 b2 b3 c0 c1 c2 c3 _ := hS
  clear hS T1
  go_wp2
  go_region_held3 (fun W => (W.cell? ⟨w.heap.size, 0, none⟩ = some (.int .u64 a0) ∧ W.cell? ⟨w.heap.size, 1, none⟩ = some (.int .u64 a1) ∧ W.cell? ⟨w.heap.size, 2, none⟩ = some (.int .u64 a2) ∧ W.cell? ⟨w.heap.size, 3, none⟩ = some (.int .u64 a3)) ∧ (W.cell? ⟨w.heap.size + 1, 0, none⟩ = some (.int .u64 b0) ∧ W.cell? ⟨w.heap.size + 1, 1, none⟩ = some (.int .u64 b1) ∧ W.cell? ⟨w.heap.size + 1, 2, none⟩ = some (.int .u64 b2) ∧ W.cell? ⟨w.heap.size + 1, 3, none⟩ = some (.int .u64 b3)) ∧ (W.cell? ⟨w.heap.size + 1 + 1, 0, none⟩ = some (.int .u64 c0) ∧ W.cell? ⟨w.heap.size + 1 + 1, 1, none⟩ = some (.int .u64 c1) ∧ W.cell? ⟨w.heap.size + 1 + 1, 2, none⟩ = some (.int .u64 c2) ∧ W.cell? ⟨w.heap.size + 1 + 1, 3, none⟩ = some (.int .u64 c3)) ∧ Box4 W w.heap.size a0 a1 a2 a3 ∧ Box4 W (w.heap.size + 1) b0 b1 b2 b3 ∧ Box4 W (w.heap.size + 1 + 1) c0 c1 c2 c3 ∧ Below w.heap.size w W)
    (first | exact Three.step (by assumption) (by assumption) | exact Three.drew (by assumption))
    (first | (go_at_call 18; refine (meet_any _ _ _ _ _ _ _ _ _ _ _ (by assumption) (by assumption)).mono ?_; rintro e w' ⟨r0, r1, r2, r3, hr, rfl, hb'⟩; refine eqD2 hL2 hr ?_; rintro rfl rfl rfl rfl) | (go_at_call 16; refine (join_any _ _ _ _ _ _ _ _ _ _ _ (by assumption) (by assumption)).mono ?_; rintro e w' ⟨r0, r1, r2, r3, hr, rfl, hb'⟩; refine nameIt (p := IsSet r0 r1 r2 r3 (fun j => f j || (g j && h j))) hr ?_; intro hL2) | (go_at_call 16; refine (join_any _ _ _ _ _ _ _ _ _ _ _ (by assumption) (by assumption)).mono ?_; rintro e w' ⟨r0, r1, r2, r3, hr, rfl, hb'⟩) | (go_at_call 18; refine (meet_any _ _ _ _ _ _ _ _ _ _ _ (by assumption) (by assumption)).mono ?_; rintro e w' ⟨r0, r1, r2, r3, hr, rfl, hb'⟩))
  rename_i hS
  have T3 : Three w a0 a1 a2 a3 b0 b1 b2 b3 c0 c1 c2 c3 _ := hS
  clear hS T2
  go_wp2
  go_region_held3 (fun W => (W.cell? ⟨w.heap.size, 0, none⟩ = some (.int .u64 a0) ∧ W.cell? ⟨w.heap.size, 1, none⟩ = some (.int .u64 a1) ∧ W.cell? ⟨w.heap.size, 2, none⟩ = some (.int .u64 a2) ∧ W.cell? ⟨w.heap.size, 3, none⟩ = some (.int .u64 a3)) ∧ (W.cell? ⟨w.heap.size + 1, 0, none⟩ = some (.int .u64 b0) ∧ W.cell? ⟨w.heap.size + 1, 1, none⟩ = some (.int .u64 b1) ∧ W.cell? ⟨w.heap.size + 1, 2, none⟩ = some (.int .u64 b2) ∧ W.cell? ⟨w.heap.size + 1, 3, none⟩ = some (.int .u64 b3)) ∧ (W.cell? ⟨w.heap.size + 1 + 1, 0, none⟩ = some (.int .u64 c0) ∧ W.cell? ⟨w.heap.size + 1 + 1, 1, none⟩ = some (.int .u64 c1) ∧ W.cell? ⟨w.heap.size + 1 + 1, 2, none⟩ = some (.int .u64 c2) ∧ W.cell? ⟨w.heap.size + 1 + 1, 3, none⟩ = some (.int .u64 c3)) ∧ Box4 W w.heap.size a0 a1 a2 a3 ∧ Box4 W (w.heap.size + 1) b0 b1 b2 b3 ∧ Box4 W (w.heap.size + 1 + 1) c0 c1 c2 c3 ∧ Below w.heap.size w W)
    (first | exact Three.step (by assumption) (by assumption) | exact Three.drew (by assumption))
    (first | (go_at_call 16; refine (join_any _ _ _ _ _ _ _ _ _ _ _ (by assumption) (by assumption)).mono ?_; rintro e w' ⟨r0, r1, r2, r3, hr, rfl, hb'⟩; refine eqC hL3 hr ?_; rintro rfl rfl rfl rfl) | (go_at_call 16; refine (join_any _ _ _ _ _ _ _ _ _ _ _ (by assumption) (by assumption)).mono ?_; rintro e w' ⟨r0, r1, r2, r3, hr, rfl, hb'⟩; refine eqA ha hr ?_; rintro rfl rfl rfl rfl) | (go_at_call 16; refine (join_any _ _ _ _ _ _ _ _ _ _ _ (by assumption) (by assumption)).mono ?_; rintro e w' ⟨r0, r1, r2, r3, hr, rfl, hb'⟩; refine nameIt (p := IsSet r0 r1 r2 r3 (fun j => f j || g j)) hr ?_; intro hL3) | (go_at_call 18; refine (meet_any _ _ _ _ _ _ _ _ _ _ _ (by assumption) (by assumption)).mono ?_; rintro e w' ⟨r0, r1, r2, r3, hr, rfl, hb'⟩) | (go_at_call 20; refine (without_any _ _ _ _ _ _ _ _ _ _ _ (by assumption) (by assumption)).mono ?_; rintro e w' ⟨r0, r1, r2, r3, hr, rfl, hb'⟩) | (go_at_call 24; refine (count_h _ _ _ _ _ 0 _ (by assumption) H0 (Three.tab HT.out (by assumption))).mono ?_; rintro e w' ⟨rfl, hb'⟩))
  rename_i hS
  obtain ⟨_, _, _, _, _, _, hbel⟩ := hS
  go_wp2
  go_ret
  exact ⟨rfl, hbel⟩

set_option maxRecDepth 100000 in
set_option maxHeartbeats 1000000 in
theorem lifted (os : Os) (started : os.Started) (H : Type) (enc : TypeId × Value → H) :
    ReturnsInHanded {} Tryd.checked os 10 .any (fun w args => (Rows.bytesetRulesSpec.pre enc Tryd.prog Tryd.f10 Rows.bytesetRulesRow.domain false w args ∧ laidMetH Tryd.prog Rows.bytesetRulesRow.laid w) ∧ sizedMet enc Tryd.prog Tryd.f10 (OpenSpec.ofChange Rows.bytesetRulesSpec) false w args)
      (Rows.bytesetRulesSpec.post enc Tryd.prog Tryd.f10 false true false false) := by
  refine returnsInHanded_of_change_and (C := Tryd.checked) (X := fun w _ => laidMetH Tryd.prog Rows.bytesetRulesRow.laid w) (fun _ _ _ hh h => h.of_heap hh) noKnob started (by kernel_rfl) Tryd.func10
    (ChangeSpec.witness_shaped (enc := enc) (C := Tryd.checked) (os := os) (X := fun w _ => laidMetH Tryd.prog Rows.bytesetRulesRow.laid w) false (World.laidAll Tryd.prog os Rows.bytesetRulesRow.laid) #[.agg #[.int .u64 0, .int .u64 0, .int .u64 0, .int .u64 0], .agg #[.int .u64 0, .int .u64 0, .int .u64 0, .int .u64 0], .agg #[.int .u64 0, .int .u64 0, .int .u64 0, .int .u64 0]] 8 (World.laidAll_os _ _ _)
      (World.shaped_of_ZipB (by kernel_rfl) (by kernel_rfl)) (by kernel_rfl) (by kernel_rfl) (by kernel_rfl)
      (by rw [MakeChecks.laidMetH_plain _ _ _ (by kernel_rfl)]; exact laidMet_laidAll _ (by kernel_rfl) (by kernel_rfl))) ?_
  intro W base args ds gs before hval0 hW hcnd _ hL _
  have hval : ∀ (j : Nat) t v, Tryd.f10.params[j]? = some t → args[j]? = some v → Value.okWide Tryd.prog W .any base t v := hval0
  have hW' := hW
  obtain ⟨p, q, hA0, hV, rfl, hfz, hnd⟩ := hW
  have hA : DataW.TrodAll enc Tryd.prog W 0 (fun _ => true) true Tryd.f10.params.toList args.toList ds p := hA0
  rw [Tryd.params10] at hA hval
  obtain ⟨v0, vs0, d0, ds0, p0, q0, hargs, rfl, rfl, h0, r0⟩ := trodAll_cons hA
  obtain ⟨v1, vs1, d1, ds1, p1, q1, rfl, rfl, rfl, h1, r1⟩ := trodAll_cons r0
  obtain ⟨v2, vs2, d2, ds2, p2, q2, rfl, rfl, rfl, h2, r2⟩ := trodAll_cons r1
  obtain ⟨rfl, rfl, rfl⟩ := trodAll_nil r2
  obtain rfl : args = #[v0, v1, v2] := by cases args; simp_all
  obtain ⟨rfl, rfl⟩ := trodVars_none hV
  clear hA0 hval0 hA
  simp only [List.append_nil] at hW'
  have hlt := hW'.lt
  obtain ⟨x00, x01, x02, x03, rfl, rfl, rfl, w0, s0⟩ := open_set (hval 0 24 v0 rfl rfl) h0
  obtain ⟨x10, x11, x12, x13, rfl, rfl, rfl, w1, s1⟩ := open_set (hval 1 24 v1 rfl rfl) h1
  obtain ⟨x20, x21, x22, x23, rfl, rfl, rfl, w2, s2⟩ := open_set (hval 2 24 v2 rfl rfl) h2
  have hTD := tab_of_laid hL (MakeChecks.laidMetH_plain _ _ _ (by kernel_rfl)) (by kernel_rfl)
  refine (walk _ _ _ _ _ _ _ _ _ _ _ _ _ _ _ s0 s1 s2 W hTD).mono fun e W' ⟨he, hg⟩ => ?_
  subst he
  exact ⟨_, rfl, post_of_old (pv := []) hW' (fun _ _ _ => trodAll_cons_mk (shut_bool Tryd.underlying4 _) trodAll_mk0) (trodAll_cons_mk (Below.trod laidOutP (by kernel_rfl) (of_decide_eq_true (by kernel_rfl)) h0 hg (fun x hx => by simp at hx)) (trodAll_cons_mk (Below.trod laidOutP (by kernel_rfl) (of_decide_eq_true (by kernel_rfl)) h1 hg (fun x hx => by simp at hx)) (trodAll_cons_mk (Below.trod laidOutP (by kernel_rfl) (of_decide_eq_true (by kernel_rfl)) h2 hg (fun x hx => by simp at hx)) (trodAll_mk0)))) (fun _ => rfl) (by simp) hg⟩

theorem over : Rows.bytesetRulesRow.holds Tryd.pinned (OpenSpec.ofChange Rows.bytesetRulesSpec) :=
  OpenClaim.holds_of_wide 10 Tryd.f10 rfl rfl rfl rfl rfl rfl rfl ⟨rfl, rfl, rfl, rfl, rfl⟩ rfl rfl rfl rfl rfl (by kernel_rfl) Tryd.func10 (by kernel_rfl)
    (of_decide_eq_true (by kernel_rfl)) (by unfold Func.isWrapper; first | (rw [if_pos (by decide +kernel)]; kernel_rfl) | (rw [if_neg (by decide +kernel)]; exact ⟨rfl, rfl⟩))
    (fun os started H enc _ => lifted os started H enc)

/-- No parameter wants a stand-in. -/
theorem plain (f : FuncId) (fn : Func) (hf : Tryd.pinned.checked.prog.funcNamed "reglet/regletlaw01.BytesetRules" = some f) (hfn : Tryd.pinned.checked.prog.funcs[f]? = some fn) :
    false = Tryd.pinned.checked.prog.looks [] ∧ ∀ (j : Nat) t, fn.params[j]? = some t → Tryd.pinned.checked.prog.wantsStandIn t = false := by
  obtain rfl : f = 10 := Option.some.inj ((show Tryd.prog.funcNamed "reglet/regletlaw01.BytesetRules" = some 10 by kernel_rfl).symm.trans hf) |>.symm
  obtain rfl : fn = Tryd.f10 := (Option.some.inj (Tryd.func10.symm.trans hfn)).symm
  refine ⟨by kernel_rfl, fun j t ht => ?_⟩
  rw [Tryd.params10] at ht
  have hm : t ∈ [24, 24, 24] := by simpa using Array.mem_of_getElem? ht
  have hall : ([24, 24, 24].all fun u => !Tryd.prog.wantsStandIn u) = true := by kernel_rfl
  exact (show Tryd.prog.wantsStandIn t = false by simpa using List.all_eq_true.1 hall t hm)

/-- The statement. -/
theorem proved : Rows.BytesetRulesCardSaid :=
  Claim7.holds_tied_plain_at .later [] _ _ _ _ over (fun _ h => by cases h) (by kernel_rfl) (fun _ h => by cases h) bytesetRules_row_tie rfl ⟨rfl, rfl⟩ (by kernel_rfl) rfl plain (by kernel_rfl)

#print axioms proved
end Go.Proofs.YtchicecmoknkjaaDoor.bytesetRules
