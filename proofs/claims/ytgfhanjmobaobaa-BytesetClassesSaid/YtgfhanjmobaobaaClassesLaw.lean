/- BytesetClasses is true for every input: for every list of sets, nil or not, without any condition: the classes by at most 12 sets are the document's. -/
import Derived.Test.YtgfhanjmobaobaaListFrame
namespace Go.Proofs.Ytgfhanjmobaobaa.bytesetClasses
open Go.ChangeShapes Go.WideShapes Go.ChangeAt Go.RowKit Go.Proofs.Ytgfhanjmobaobaa
set_option linter.unusedVariables false

theorem classes_h (v : Value) (n : Nat) (x0 x1 x2 x3 : Nat → Int) (fs : Nat → Nat → Bool) (C : Array Value) (hS : Hid (∀ i, i < n → IsSet (x0 i) (x1 i) (x2 i) (x3 i) (fs i))) (hn : n ≤ 1000) (w : World) (hv : SetsAt w v n x0 x1 x2 x3) (hC : Hid (C = ccells n fs 256)) :
    Calls Try.prog 30 #[v] w (fun e w' => e = .returned (.agg C) ∧ Below w.heap.size w w') := by
  rw [hC.out]; exact classes_any v n x0 x1 x2 x3 fs hS.out hn w hv
theorem refclasses_h (v : Value) (n : Nat) (x0 x1 x2 x3 : Nat → Int) (fs : Nat → Nat → Bool) (C : Array Value) (hS : Hid (∀ i, i < n → IsSet (x0 i) (x1 i) (x2 i) (x3 i) (fs i))) (hn : n ≤ 1000) (w : World) (hv : SetsAt w v n x0 x1 x2 x3) (hC : Hid (C = ccells n fs 256)) :
    Calls Try.prog 31 #[v] w (fun e w' => e = .returned (.agg C) ∧ Below w.heap.size w w') := by
  rw [hC.out]; exact refclasses_any v n x0 x1 x2 x3 fs hS.out hn w hv

set_option maxRecDepth 100000 in
set_option maxHeartbeats 4000000 in
theorem walk (a : Option Addr) (n cap : Nat) (x0 x1 x2 x3 : Nat → Int) (fs : Nat → Nat → Bool) (hS : ∀ i, i < n → IsSet (x0 i) (x1 i) (x2 i) (x3 i) (fs i)) (hmax : n ≤ maxLen) (w : World) (hv : SetsAt w (.slice a n cap) n x0 x1 x2 x3) :
    Calls Try.prog 6 #[.slice a n cap] w (RetBool true w) := by
  obtain ⟨C, hC⟩ : ∃ C, C = ccells n fs 256 := ⟨_, rfl⟩
  have hEq : ∀ w : World, (Op.equalIn 10000 38 (.agg C) (.agg C)).run Try.prog w = .ok true w := by
    intro w; rw [hC]; exact eql_row w _ (fun i hi => ccells_int n fs 256 i hi)
  have HC := Lib.hid hC
  have HS := Lib.hid hS
  have HV := Lib.hid hv
  clear hC hS hv
  by_cases hn : n ≤ 12
  · go_enter Try.func6, Try.ntmps6
    go_wp2_with fail
    refine (awake_any _).mono ?_
    rintro e w1 ⟨rfl, hb1⟩
    have hv1 := HV.out.below hb1
    go_wp2_with fail
    refine (classes_h _ n x0 x1 x2 x3 fs C HS (by omega) _ hv1 HC).mono ?_
    rintro e w2 ⟨rfl, hb2⟩
    have hv2 := hv1.below hb2
    go_wp2_with fail
    refine (refclasses_h _ n x0 x1 x2 x3 fs C HS (by omega) _ hv2 HC).mono ?_
    rintro e w3 ⟨rfl, hb3⟩
    go_wp2
    go_ret
    exact ⟨rfl, below_step (below_step hb1 hb2) hb3⟩
  · go_enter Try.func6, Try.ntmps6
    go_wp2_with fail
    refine (awake_any _).mono ?_
    rintro e w1 ⟨rfl, hb1⟩
    have ht : decide ((12 : Int) < (n : Int)) = true := by simp; omega
    go_wp2
    go_ret
    exact ⟨rfl, hb1⟩

set_option maxRecDepth 100000 in
set_option maxHeartbeats 1000000 in
theorem lifted (os : Os) (started : os.Started) (H : Type) (enc : TypeId × Value → H) :
    ReturnsInHanded {} Try.checked os 6 .any (Rows.bytesetClassesSpec.pre6 enc Try.prog Try.f6 Rows.bytesetClassesRow.domain false) (Rows.bytesetClassesSpec.post enc Try.prog Try.f6 false true false false) := by
  refine returnsInHanded_of_change (C := Try.checked) own started (by kernel_rfl) Try.func6
    (ChangeSpec.witness6 (enc := enc) (C := Try.checked) false ⟨#[], #[.slice none 0 0], []⟩ 8 (by kernel_rfl) (by kernel_rfl) (by kernel_rfl) (by kernel_rfl)) ?_
  intro W base args ds gs before hval0 hW hcnd _
  have hval : ∀ (j : Nat) t v, Try.f6.params[j]? = some t → args[j]? = some v → Value.okWide Try.prog W .any base t v := hval0
  have hW' := hW
  obtain ⟨p, q, hA0, hV, rfl, hfz, hnd⟩ := hW
  have hA : DataW.TrodAll enc Try.prog W 0 (fun _ => true) true Try.f6.params.toList args.toList ds p := hA0
  rw [Try.params6] at hA hval
  obtain ⟨v0, d0, rfl, rfl, h0⟩ := trodAll_one hA
  obtain ⟨rfl, rfl⟩ := trodVars_none hV
  clear hA0 hval0
  simp only [List.append_nil] at hW'
  have hlt : ∀ x ∈ p, x.block < W.heap.size := fun x hx => by simpa using hW'.lt x hx
  obtain ⟨a, n, cap, x0, x1, x2, x3, rfl, hmax, hs, hS⟩ := open_sets (hval 0 37 v0 rfl rfl) h0 hlt
  refine (walk a n cap x0 x1 x2 x3 _ hS hmax W hs).mono fun e W' ⟨he, hg⟩ => ?_
  subst he
  exact ⟨_, rfl, post_of_old (pa := p) (pv := []) hW' (fun _ _ _ => trodAll_cons_mk (shut_bool Try.underlying4 _) trodAll_mk0) (trodAll_mk1 (Below.trod laidOutP (by kernel_rfl) (of_decide_eq_true (by kernel_rfl)) h0 hg hlt)) (fun _ => rfl) (by simp) hg⟩

theorem over : Rows.bytesetClassesRow.holds Try.pinned (OpenSpec.ofChange Rows.bytesetClassesSpec) :=
  OpenClaim.holds_of_wide 6 Try.f6 rfl rfl rfl rfl rfl rfl rfl ⟨rfl, rfl, rfl, rfl, rfl⟩ rfl rfl rfl rfl rfl (by kernel_rfl) Try.func6 (by kernel_rfl)
    (of_decide_eq_true (by kernel_rfl)) (by unfold Func.isWrapper; first | (rw [if_pos (by decide +kernel)]; kernel_rfl) | (rw [if_neg (by decide +kernel)]; exact ⟨rfl, rfl⟩))
    (fun os started H enc _ => lifted os started H enc)

/-- The statement. -/
theorem proved : Rows.BytesetClassesSaid := over

#print axioms proved
end Go.Proofs.Ytgfhanjmobaobaa.bytesetClasses
