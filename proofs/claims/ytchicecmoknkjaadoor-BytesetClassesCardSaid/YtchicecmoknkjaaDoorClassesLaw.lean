/- BytesetClasses is true for every input: for every list of sets, nil or not, without any condition: the classes by at most 12 sets are the document's. -/
import Derived.Test.YtchicecmoknkjaaDoorListFrame
namespace Go.Proofs.YtchicecmoknkjaaDoor.bytesetClasses
open Go.ChangeShapes Go.WideShapes Go.ChangeAt Go.RowKit Go.Proofs.YtchicecmoknkjaaDoor
set_option linter.unusedVariables false

theorem classes_h (v : Value) (n : Nat) (x0 x1 x2 x3 : Nat → Int) (fs : Nat → Nat → Bool) (C : Array Value) (hS : Hid (∀ i, i < n → IsSet (x0 i) (x1 i) (x2 i) (x3 i) (fs i))) (hn : n ≤ 1000) (w : World) (hv : SetsAt w v n x0 x1 x2 x3) (hC : Hid (C = ccells n fs 256)) :
    Calls Tryd.prog 33 #[v] w (fun e w' => e = .returned (.agg C) ∧ Below w.heap.size w w') := by
  rw [hC.out]; exact classes_any v n x0 x1 x2 x3 fs hS.out hn w hv
theorem refclasses_h (v : Value) (n : Nat) (x0 x1 x2 x3 : Nat → Int) (fs : Nat → Nat → Bool) (C : Array Value) (hS : Hid (∀ i, i < n → IsSet (x0 i) (x1 i) (x2 i) (x3 i) (fs i))) (hn : n ≤ 1000) (w : World) (hv : SetsAt w v n x0 x1 x2 x3) (hC : Hid (C = ccells n fs 256)) :
    Calls Tryd.prog 34 #[v] w (fun e w' => e = .returned (.agg C) ∧ Below w.heap.size w w') := by
  rw [hC.out]; exact refclasses_any v n x0 x1 x2 x3 fs hS.out hn w hv

set_option maxRecDepth 100000 in
set_option maxHeartbeats 4000000 in
theorem walk (a : Option Addr) (n cap : Nat) (x0 x1 x2 x3 : Nat → Int) (fs : Nat → Nat → Bool) (hS : ∀ i, i < n → IsSet (x0 i) (x1 i) (x2 i) (x3 i) (fs i)) (hmax : n ≤ maxLen) (w : World) (hTD : TabD w) (hv : SetsAt w (.slice a n cap) n x0 x1 x2 x3) :
    Calls Tryd.prog 6 #[.slice a n cap] w (RetBool true w) := by
  have HT := Lib.hid hTD
  clear hTD
  obtain ⟨C, hC⟩ : ∃ C, C = ccells n fs 256 := ⟨_, rfl⟩
  have hEq : ∀ w : World, (Op.equalIn 10000 38 (.agg C) (.agg C)).run Tryd.prog w = .ok true w := by
    intro w; rw [hC]; exact eql_row w _ (fun i hi => ccells_int n fs 256 i hi)
  have HC := Lib.hid hC
  have HS := Lib.hid hS
  have HV := Lib.hid hv
  clear hC hS hv
  by_cases hn : n ≤ 12
  · go_enter Tryd.func6, Tryd.ntmps6
    go_wp2_with fail
    refine (awake_any _ HT.out).mono ?_
    rintro e w1 ⟨rfl, hb1⟩
    have hv1 := HV.out.below hb1
    go_wp2_with fail
    refine (classes_h _ n x0 x1 x2 x3 fs C HS (by omega) _ hv1 HC).mono ?_
    rintro e w2 ⟨rfl, hb2⟩
    have hv2 := hv1.below hb2
    go_wp2_with fail
    refine (refclasses_h _ n x0 x1 x2 x3 fs C HS (by omega) _ hv2 HC).mono ?_
    rintro e w3 ⟨rfl, hb3⟩
    go_wp2
    go_ret
    exact ⟨rfl, below_step (below_step hb1 hb2) hb3⟩
  · go_enter Tryd.func6, Tryd.ntmps6
    go_wp2_with fail
    refine (awake_any _ HT.out).mono ?_
    rintro e w1 ⟨rfl, hb1⟩
    have ht : decide ((12 : Int) < (n : Int)) = true := by simp; omega
    go_wp2
    go_ret
    exact ⟨rfl, hb1⟩

set_option maxRecDepth 100000 in
set_option maxHeartbeats 1000000 in
theorem lifted (os : Os) (started : os.Started) (H : Type) (enc : TypeId × Value → H) :
    ReturnsInHanded {} Tryd.checked os 6 .any (fun w args => (Rows.bytesetClassesSpec.pre enc Tryd.prog Tryd.f6 Rows.bytesetClassesRow.domain false w args ∧ laidMetH Tryd.prog Rows.bytesetClassesRow.laid w) ∧ sizedMet enc Tryd.prog Tryd.f6 (OpenSpec.ofChange Rows.bytesetClassesSpec) false w args)
      (Rows.bytesetClassesSpec.post enc Tryd.prog Tryd.f6 false true false false) := by
  refine returnsInHanded_of_change_and (C := Tryd.checked) (X := fun w _ => laidMetH Tryd.prog Rows.bytesetClassesRow.laid w) (fun _ _ _ hh h => h.of_heap hh) noKnob started (by kernel_rfl) Tryd.func6
    (ChangeSpec.witness_shaped (enc := enc) (C := Tryd.checked) (os := os) (X := fun w _ => laidMetH Tryd.prog Rows.bytesetClassesRow.laid w) false (World.laidAll Tryd.prog os Rows.bytesetClassesRow.laid) #[.slice none 0 0] 8 (World.laidAll_os _ _ _)
      (World.shaped_of_ZipB (by kernel_rfl) (by kernel_rfl)) (by kernel_rfl) (by kernel_rfl) (by kernel_rfl)
      (by rw [MakeChecks.laidMetH_plain _ _ _ (by kernel_rfl)]; exact laidMet_laidAll _ (by kernel_rfl) (by kernel_rfl))) ?_
  intro W base args ds gs before hval0 hW hcnd _ hL _
  have hval : ∀ (j : Nat) t v, Tryd.f6.params[j]? = some t → args[j]? = some v → Value.okWide Tryd.prog W .any base t v := hval0
  have hW' := hW
  obtain ⟨p, q, hA0, hV, rfl, hfz, hnd⟩ := hW
  have hA : DataW.TrodAll enc Tryd.prog W 0 (fun _ => true) true Tryd.f6.params.toList args.toList ds p := hA0
  rw [Tryd.params6] at hA hval
  obtain ⟨v0, vs0, d0, ds0, p0, q0, hargs, rfl, rfl, h0, r0⟩ := trodAll_cons hA
  obtain ⟨rfl, rfl, rfl⟩ := trodAll_nil r0
  obtain rfl : args = #[v0] := by cases args; simp_all
  obtain ⟨rfl, rfl⟩ := trodVars_none hV
  clear hA0 hval0 hA
  simp only [List.append_nil] at hW'
  have hlt := hW'.lt
  obtain ⟨a, n, cap, x0, x1, x2, x3, rfl, hmax, hs, hS⟩ := open_sets (hval 0 37 v0 rfl rfl) h0 (fun x hx => by simpa using hlt x (by simp [hx]))
  have hTD := tab_of_laid hL (MakeChecks.laidMetH_plain _ _ _ (by kernel_rfl)) (by kernel_rfl)
  refine (walk a n cap x0 x1 x2 x3 _ hS hmax W hTD hs).mono fun e W' ⟨he, hg⟩ => ?_
  subst he
  exact ⟨_, rfl, post_of_old (pv := []) hW' (fun _ _ _ => trodAll_cons_mk (shut_bool Tryd.underlying4 _) trodAll_mk0) (trodAll_cons_mk (Below.trod laidOutP (by kernel_rfl) (of_decide_eq_true (by kernel_rfl)) h0 hg (fun x hx => by simpa using hlt x (by simp [hx]))) (trodAll_mk0)) (fun _ => rfl) (by simp) hg⟩

theorem over : Rows.bytesetClassesRow.holds Tryd.pinned (OpenSpec.ofChange Rows.bytesetClassesSpec) :=
  OpenClaim.holds_of_wide 6 Tryd.f6 rfl rfl rfl rfl rfl rfl rfl ⟨rfl, rfl, rfl, rfl, rfl⟩ rfl rfl rfl rfl rfl (by kernel_rfl) Tryd.func6 (by kernel_rfl)
    (of_decide_eq_true (by kernel_rfl)) (by unfold Func.isWrapper; first | (rw [if_pos (by decide +kernel)]; kernel_rfl) | (rw [if_neg (by decide +kernel)]; exact ⟨rfl, rfl⟩))
    (fun os started H enc _ => lifted os started H enc)

/-- No parameter wants a stand-in. -/
theorem plain (f : FuncId) (fn : Func) (hf : Tryd.pinned.checked.prog.funcNamed "reglet/regletlaw01.BytesetClasses" = some f) (hfn : Tryd.pinned.checked.prog.funcs[f]? = some fn) :
    false = Tryd.pinned.checked.prog.looks [] ∧ ∀ (j : Nat) t, fn.params[j]? = some t → Tryd.pinned.checked.prog.wantsStandIn t = false := by
  obtain rfl : f = 6 := Option.some.inj ((show Tryd.prog.funcNamed "reglet/regletlaw01.BytesetClasses" = some 6 by kernel_rfl).symm.trans hf) |>.symm
  obtain rfl : fn = Tryd.f6 := (Option.some.inj (Tryd.func6.symm.trans hfn)).symm
  refine ⟨by kernel_rfl, fun j t ht => ?_⟩
  rw [Tryd.params6] at ht
  have hm : t ∈ [37] := by simpa using Array.mem_of_getElem? ht
  have hall : ([37].all fun u => !Tryd.prog.wantsStandIn u) = true := by kernel_rfl
  exact (show Tryd.prog.wantsStandIn t = false by simpa using List.all_eq_true.1 hall t hm)

/-- The statement. -/
theorem proved : Rows.BytesetClassesCardSaid :=
  Claim7.holds_tied_plain_at .later [] _ _ _ _ over (fun _ h => by cases h) (by kernel_rfl) (fun _ h => by cases h) bytesetClasses_row_tie rfl ⟨rfl, rfl⟩ (by kernel_rfl) rfl plain (by kernel_rfl)

#print axioms proved
end Go.Proofs.YtchicecmoknkjaaDoor.bytesetClasses
