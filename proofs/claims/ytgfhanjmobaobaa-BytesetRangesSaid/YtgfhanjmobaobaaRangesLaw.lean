/- BytesetRanges is true for every input: for every set a and all numbers lo and hi, without any condition: the set of a range and the ranges of a set are the document's answers. -/
import Derived.Test.YtgfhanjmobaobaaFrame
namespace Go.Proofs.Ytgfhanjmobaobaa.bytesetRanges
open Go.ChangeShapes Go.WideShapes Go.ChangeAt Go.RowKit Go.Proofs.Ytgfhanjmobaobaa
set_option linter.unusedVariables false

theorem eqK {a0 a1 a2 a3 r0 r1 r2 r3 : Int} {f : Nat → Bool} (ha : IsSet a0 a1 a2 a3 f) (hr : IsSet r0 r1 r2 r3 f) {P : Prop} (k : r0 = a0 → r1 = a1 → r2 = a2 → r3 = a3 → P) : P :=
  have e := IsSet.eq ha hr (fun b _ => rfl)
  k e.1 e.2.1 e.2.2.1 e.2.2.2

theorem ranges_h (a0 a1 a2 a3 : Int) (f : Nat → Bool) (R : List (Nat × Nat)) (w : World) (ha : IsSet a0 a1 a2 a3 f) (hR : Hid (R = rgs f 256)) :
    Calls Try.prog 28 #[.agg #[.int .u64 a0, .int .u64 a1, .int .u64 a2, .int .u64 a3]] w (RetRanges R w) := by
  rw [hR.out]; exact ranges_any a0 a1 a2 a3 f w ha
theorem refranges_h (a0 a1 a2 a3 : Int) (f : Nat → Bool) (R : List (Nat × Nat)) (w : World) (ha : IsSet a0 a1 a2 a3 f) (hR : Hid (R = rgs f 256)) :
    Calls Try.prog 29 #[.agg #[.int .u64 a0, .int .u64 a1, .int .u64 a2, .int .u64 a3]] w (RetRanges R w) := by
  rw [hR.out]; exact refranges_any a0 a1 a2 a3 f w ha

set_option maxRecDepth 100000 in
set_option maxHeartbeats 8000000 in
theorem walk (a0 a1 a2 a3 lo hi : Int) (f : Nat → Bool) (ha : IsSet a0 a1 a2 a3 f) (hl : -9223372036854775808 ≤ lo ∧ lo ≤ 9223372036854775807) (hh : -9223372036854775808 ≤ hi ∧ hi ≤ 9223372036854775807) (w : World) :
    Calls Try.prog 4 #[.agg #[.int .u64 a0, .int .u64 a1, .int .u64 a2, .int .u64 a3], .int .i64 lo, .int .i64 hi] w (RetBool true w) := by
  obtain ⟨hl1, hl2⟩ := hl
  obtain ⟨hh1, hh2⟩ := hh
  obtain ⟨R, hR⟩ : ∃ R, R = rgs f 256 := ⟨_, rfl⟩
  have hlen : R.length ≤ 256 := by rw [hR]; exact rgs_len f 256
  have HR := Lib.hid hR
  clear hR
  have hEq := eql_set
  have T0 : One w a0 a1 a2 a3 (w.alloc (.cells #[.int .u64 a0, .int .u64 a1, .int .u64 a2, .int .u64 a3] 24)) := One.of (Box4.new _ _ _ _ _) (by go_grown)
  go_enter Try.func4, Try.ntmps4
  go_wp2_with fail
  go_region_held3 (fun W => (W.cell? ⟨w.heap.size, 0, none⟩ = some (.int .u64 a0) ∧ W.cell? ⟨w.heap.size, 1, none⟩ = some (.int .u64 a1) ∧ W.cell? ⟨w.heap.size, 2, none⟩ = some (.int .u64 a2) ∧ W.cell? ⟨w.heap.size, 3, none⟩ = some (.int .u64 a3)) ∧ Box4 W w.heap.size a0 a1 a2 a3 ∧ Below w.heap.size w W)
    (first | exact One.step (by assumption) (by assumption) | exact One.drew (by assumption))
    (first | (go_at_call 12; refine (awake_any _).mono ?_; rintro e w' ⟨rfl, hb'⟩) | (go_at_call 25; refine (of_any _ _ _ hl1 hl2 hh1 hh2).mono ?_; rintro e w' ⟨r0, r1, r2, r3, hO, rfl, hb'⟩) | (go_at_call 26; refine (refof_any _ _ _).mono ?_; rintro e w' ⟨r0, r1, r2, r3, hr, rfl, hb'⟩; refine eqK hO hr ?_; rintro rfl rfl rfl rfl) | (go_at_call 28; refine (ranges_h _ _ _ _ _ _ _ ha HR).mono ?_; rintro e w' ⟨v, rfl, hv, hb'⟩) | (go_at_call 29; refine (refranges_h _ _ _ _ _ _ _ ha HR).mono ?_; rintro e w' ⟨v2, rfl, hv2, hb'⟩; have hv3 := own_below hv hb') | (go_at_call 27; refine (same_any _ _ _ _ R hlen _ hv3 hv2).mono ?_; rintro e w' ⟨rfl, hb'⟩))
  rename_i hS
  obtain ⟨_, _, hbel⟩ := hS
  go_wp2
  go_ret
  exact ⟨rfl, hbel⟩

set_option maxRecDepth 100000 in
set_option maxHeartbeats 1000000 in
theorem lifted (os : Os) (started : os.Started) (H : Type) (enc : TypeId × Value → H) :
    ReturnsInHanded {} Try.checked os 4 .any (Rows.bytesetRangesSpec.pre6 enc Try.prog Try.f4 Rows.bytesetRangesRow.domain false) (Rows.bytesetRangesSpec.post enc Try.prog Try.f4 false true false false) := by
  refine returnsInHanded_of_change (C := Try.checked) own started (by kernel_rfl) Try.func4
    (ChangeSpec.witness6 (enc := enc) (C := Try.checked) false ⟨#[], #[.agg #[.int .u64 0, .int .u64 0, .int .u64 0, .int .u64 0], .int .i64 0, .int .i64 0], []⟩ 8 (by kernel_rfl) (by kernel_rfl) (by kernel_rfl) (by kernel_rfl)) ?_
  intro W base args ds gs before hval0 hW hcnd _
  have hval : ∀ (j : Nat) t v, Try.f4.params[j]? = some t → args[j]? = some v → Value.okWide Try.prog W .any base t v := hval0
  have hW' := hW
  obtain ⟨p, q, hA0, hV, rfl, hfz, hnd⟩ := hW
  have hA : DataW.TrodAll enc Try.prog W 0 (fun _ => true) true Try.f4.params.toList args.toList ds p := hA0
  rw [Try.params4] at hA hval
  obtain ⟨v0, vs0, d0, ds0, p0, q0, hargs, rfl, rfl, h0, r0⟩ := trodAll_cons hA
  obtain ⟨v1, vs1, d1, ds1, p1, q1, rfl, rfl, rfl, h1, r1⟩ := trodAll_cons r0
  obtain ⟨v2, vs2, d2, ds2, p2, q2, rfl, rfl, rfl, h2, r2⟩ := trodAll_cons r1
  obtain ⟨rfl, rfl, rfl⟩ := trodAll_nil r2
  obtain rfl : args = #[v0, v1, v2] := by cases args; simp_all
  obtain ⟨rfl, rfl⟩ := trodVars_none hV
  obtain ⟨x00, x01, x02, x03, rfl, rfl, rfl, w0, s0⟩ := open_set (hval 0 24 v0 rfl rfl) h0
  obtain ⟨x1, rfl, rfl, rfl, w1⟩ := open_int Try.underlying3 (hval 1 3 v1 rfl rfl) h1
  have b1 := bounds_i64 w1
  obtain ⟨x2, rfl, rfl, rfl, w2⟩ := open_int Try.underlying3 (hval 2 3 v2 rfl rfl) h2
  have b2 := bounds_i64 w2
  clear hA0 hval0
  simp only [List.append_nil] at hW'
  refine (walk _ _ _ _ x1 x2 _ s0 b1 b2 W).mono fun e W' ⟨he, hg⟩ => ?_
  subst he
  exact ⟨_, rfl, post_of_below (pa := []) (pv := []) hW' (fun _ _ _ => trodAll_cons_mk (shut_bool Try.underlying4 _) trodAll_mk0) (fun sp => trodAll_cons_mk (shut_set w0) (trodAll_cons_mk (shut_int Try.underlying3 w1) (trodAll_cons_mk (shut_int Try.underlying3 w2) (trodAll_mk0)))) (fun _ => rfl) rfl hg⟩

theorem over : Rows.bytesetRangesRow.holds Try.pinned (OpenSpec.ofChange Rows.bytesetRangesSpec) :=
  OpenClaim.holds_of_wide 4 Try.f4 rfl rfl rfl rfl rfl rfl rfl ⟨rfl, rfl, rfl, rfl, rfl⟩ rfl rfl rfl rfl rfl (by kernel_rfl) Try.func4 (by kernel_rfl)
    (of_decide_eq_true (by kernel_rfl)) (by unfold Func.isWrapper; first | (rw [if_pos (by decide +kernel)]; kernel_rfl) | (rw [if_neg (by decide +kernel)]; exact ⟨rfl, rfl⟩))
    (fun os started H enc _ => lifted os started H enc)

/-- The statement. -/
theorem proved : Rows.BytesetRangesSaid := over

#print axioms proved
end Go.Proofs.Ytgfhanjmobaobaa.bytesetRanges
