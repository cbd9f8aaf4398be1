/- ScalarParts is true for all ints lo, mid and hi and all bytes a, b, c and n, without any condition: a range that is parted in two has the bytes of both. -/
import Derived.Test.YtdcjlncbchhanaaOwed
import Derived.Test.YtdcjlncbchhanaaCnt
namespace Go.Proofs.Ytdcjlncbchhanaa.scalarParts
open Go.ChangeShapes Go.WideShapes Go.ChangeAt Go.RowKit Go.Proofs.Ytdcjlncbchhanaa
set_option linter.unusedVariables false

theorem ints_new (w : World) (a b c : Int) (k : Nat) (hk : k ≤ 3) : IntsAt (w.alloc (.cells #[.int .i64 a, .int .i64 b, .int .i64 c] 3)) (.slice (some ⟨w.heap.size, 0, none⟩) k 3) ([a, b, c].take k) := by
  right
  have hl : ([a, b, c].take k).length = k := by simp; omega
  refine ⟨w.heap.size, 3, by rw [hl], by omega, by simp, fun i hi => ?_⟩
  rw [hl] at hi
  have hh : (w.alloc (.cells #[.int .i64 a, .int .i64 b, .int .i64 c] 3)).heap[w.heap.size]? = some (.cells #[.int .i64 a, .int .i64 b, .int .i64 c] 3 (0, 0)) := by
    show (w.heap.push _)[w.heap.size]? = _
    simp
  have h3 : i = 0 ∨ i = 1 ∨ i = 2 := by omega
  rcases h3 with rfl | rfl | rfl <;> (simp only [World.cell?]; rw [hh]; simp)

set_option maxRecDepth 100000 in
set_option maxHeartbeats 8000000 in
theorem walk_1 (x0 x1 x2 x3 x4 x5 x6 : Int) (h0 : -9223372036854775808 ≤ x0 ∧ x0 ≤ 9223372036854775807) (h1 : -9223372036854775808 ≤ x1 ∧ x1 ≤ 9223372036854775807) (h2 : -9223372036854775808 ≤ x2 ∧ x2 ≤ 9223372036854775807) (h3 : 0 ≤ x3 ∧ x3 ≤ 255) (h4 : 0 ≤ x4 ∧ x4 ≤ 255) (h5 : 0 ≤ x5 ∧ x5 ≤ 255) (h6 : 0 ≤ x6 ∧ x6 ≤ 255) (hn : x6 % 3 = 0) (hq1 : x0 ≤ x1) (hq2 : x1 < x2) (hq3 : x1 ≤ 2000000) (w : World) :
    Calls Try.prog 6 #[.int .i64 x0, .int .i64 x1, .int .i64 x2, .int .u8 x3, .int .u8 x4, .int .u8 x5, .int .u8 x6] w (GivesBool true w) := by
  obtain ⟨a0, a1⟩ := h0
  obtain ⟨b0, b1⟩ := h1
  obtain ⟨c0, c1⟩ := h2
  obtain ⟨d0, d1⟩ := h3
  obtain ⟨e0, e1⟩ := h4
  obtain ⟨f0, f1⟩ := h5
  obtain ⟨g0, g1⟩ := h6
  go_enter Try.func6, Try.ntmps6
  go_wp2_with fail
  refine (awake_any _).mono ?_
  rintro e w1 ⟨rfl, hb1⟩
  have HX := Lib.hid (ints_new w1 x3 x4 x5 1 (by decide))
  have HW0 := below_new hb1 (.cells #[.int .i64 x3, .int .i64 x4, .int .i64 x5] 3)
  go_wp2_with fail
  refine (seqs_any x0 x2 _).mono ?_
  rintro e w2 ⟨v, L, rfl, hL, hS, hb2⟩
  have HL := Lib.hid hL
  have HS := Lib.hid hS
  have HX2 := Lib.hid (HX.out.below hb2)
  have HW2 := below_then HW0 hb2
  clear hL hS hb2 HW0 hb1
  go_wp2_with fail
  refine (counted _ [x3] v x0 x2 L _ _ HX2.out HL.out HS.out).mono ?_
  generalize hN : cntB [x3] (L.map seqOf) = N
  have HN := Lib.hid hN
  clear hN
  rintro e w3 ⟨rfl, hb3⟩
  have HX3 := Lib.hid (HX2.out.below hb3)
  have HW3 := below_then HW2 hb3
  clear hb3 HW2
  go_wp2_with fail
  refine (seqs_any x0 x1 _).mono ?_
  rintro e w4 ⟨v', L', rfl, hL, hS, hb4⟩
  have HL' := Lib.hid hL
  have HS' := Lib.hid hS
  have HX4 := Lib.hid (HX3.out.below hb4)
  have HW4 := below_then HW3 hb4
  clear hL hS hb4 HW3
  go_wp2_with fail
  refine (counted _ [x3] v' x0 x1 L' _ _ HX4.out HL'.out HS'.out).mono ?_
  generalize hN : cntB [x3] (L'.map seqOf) = N'
  have HN' := Lib.hid hN
  clear hN
  rintro e w5 ⟨rfl, hb5⟩
  have HX5 := Lib.hid (HX4.out.below hb5)
  have HW5 := below_then HW4 hb5
  clear hb5 HW4
  go_wp2_with fail
  refine (seqs_any (x1 + 1) x2 _).mono ?_
  rintro e w6 ⟨v'', L'', rfl, hL, hS, hb6⟩
  have HL'' := Lib.hid hL
  have HS'' := Lib.hid hS
  have HX6 := Lib.hid (HX5.out.below hb6)
  have HW6 := below_then HW5 hb6
  clear hL hS hb6 HW5
  go_wp2_with fail
  refine (counted _ [x3] v'' (x1 + 1) x2 L'' _ _ HX6.out HL''.out HS''.out).mono ?_
  generalize hN : cntB [x3] (L''.map seqOf) = N''
  have HN'' := Lib.hid hN
  clear hN
  rintro e w7 ⟨rfl, hb7⟩
  have HW7 := below_then HW6 hb7
  clear hb7 HW6
  obtain rfl : N = N' + N'' := by
    rw [← HN.out, ← HN'.out, ← HN''.out]
    exact cnt_parts hq1 hq2 HL.out HL'.out HL''.out _
  have t1 : N' ≤ 1 := by rw [← HN'.out]; exact cnt_two _ HL'.out
  have t2 : N'' ≤ 1 := by rw [← HN''.out]; exact cnt_two _ HL''.out
  go_wp2_with fail
  go_ret
  exact ⟨rfl, HW7⟩

set_option maxRecDepth 100000 in
set_option maxHeartbeats 8000000 in
theorem walk_2 (x0 x1 x2 x3 x4 x5 x6 : Int) (h0 : -9223372036854775808 ≤ x0 ∧ x0 ≤ 9223372036854775807) (h1 : -9223372036854775808 ≤ x1 ∧ x1 ≤ 9223372036854775807) (h2 : -9223372036854775808 ≤ x2 ∧ x2 ≤ 9223372036854775807) (h3 : 0 ≤ x3 ∧ x3 ≤ 255) (h4 : 0 ≤ x4 ∧ x4 ≤ 255) (h5 : 0 ≤ x5 ∧ x5 ≤ 255) (h6 : 0 ≤ x6 ∧ x6 ≤ 255) (hn : x6 % 3 = 1) (hq1 : x0 ≤ x1) (hq2 : x1 < x2) (hq3 : x1 ≤ 2000000) (w : World) :
    Calls Try.prog 6 #[.int .i64 x0, .int .i64 x1, .int .i64 x2, .int .u8 x3, .int .u8 x4, .int .u8 x5, .int .u8 x6] w (GivesBool true w) := by
  obtain ⟨a0, a1⟩ := h0
  obtain ⟨b0, b1⟩ := h1
  obtain ⟨c0, c1⟩ := h2
  obtain ⟨d0, d1⟩ := h3
  obtain ⟨e0, e1⟩ := h4
  obtain ⟨f0, f1⟩ := h5
  obtain ⟨g0, g1⟩ := h6
  go_enter Try.func6, Try.ntmps6
  go_wp2_with fail
  refine (awake_any _).mono ?_
  rintro e w1 ⟨rfl, hb1⟩
  have HX := Lib.hid (ints_new w1 x3 x4 x5 2 (by decide))
  have HW0 := below_new hb1 (.cells #[.int .i64 x3, .int .i64 x4, .int .i64 x5] 3)
  go_wp2_with fail
  refine (seqs_any x0 x2 _).mono ?_
  rintro e w2 ⟨v, L, rfl, hL, hS, hb2⟩
  have HL := Lib.hid hL
  have HS := Lib.hid hS
  have HX2 := Lib.hid (HX.out.below hb2)
  have HW2 := below_then HW0 hb2
  clear hL hS hb2 HW0 hb1
  go_wp2_with fail
  refine (counted _ [x3, x4] v x0 x2 L _ _ HX2.out HL.out HS.out).mono ?_
  generalize hN : cntB [x3, x4] (L.map seqOf) = N
  have HN := Lib.hid hN
  clear hN
  rintro e w3 ⟨rfl, hb3⟩
  have HX3 := Lib.hid (HX2.out.below hb3)
  have HW3 := below_then HW2 hb3
  clear hb3 HW2
  go_wp2_with fail
  refine (seqs_any x0 x1 _).mono ?_
  rintro e w4 ⟨v', L', rfl, hL, hS, hb4⟩
  have HL' := Lib.hid hL
  have HS' := Lib.hid hS
  have HX4 := Lib.hid (HX3.out.below hb4)
  have HW4 := below_then HW3 hb4
  clear hL hS hb4 HW3
  go_wp2_with fail
  refine (counted _ [x3, x4] v' x0 x1 L' _ _ HX4.out HL'.out HS'.out).mono ?_
  generalize hN : cntB [x3, x4] (L'.map seqOf) = N'
  have HN' := Lib.hid hN
  clear hN
  rintro e w5 ⟨rfl, hb5⟩
  have HX5 := Lib.hid (HX4.out.below hb5)
  have HW5 := below_then HW4 hb5
  clear hb5 HW4
  go_wp2_with fail
  refine (seqs_any (x1 + 1) x2 _).mono ?_
  rintro e w6 ⟨v'', L'', rfl, hL, hS, hb6⟩
  have HL'' := Lib.hid hL
  have HS'' := Lib.hid hS
  have HX6 := Lib.hid (HX5.out.below hb6)
  have HW6 := below_then HW5 hb6
  clear hL hS hb6 HW5
  go_wp2_with fail
  refine (counted _ [x3, x4] v'' (x1 + 1) x2 L'' _ _ HX6.out HL''.out HS''.out).mono ?_
  generalize hN : cntB [x3, x4] (L''.map seqOf) = N''
  have HN'' := Lib.hid hN
  clear hN
  rintro e w7 ⟨rfl, hb7⟩
  have HW7 := below_then HW6 hb7
  clear hb7 HW6
  obtain rfl : N = N' + N'' := by
    rw [← HN.out, ← HN'.out, ← HN''.out]
    exact cnt_parts hq1 hq2 HL.out HL'.out HL''.out _
  have t1 : N' ≤ 1 := by rw [← HN'.out]; exact cnt_two _ HL'.out
  have t2 : N'' ≤ 1 := by rw [← HN''.out]; exact cnt_two _ HL''.out
  go_wp2_with fail
  go_ret
  exact ⟨rfl, HW7⟩

set_option maxRecDepth 100000 in
set_option maxHeartbeats 8000000 in
theorem walk_3 (x0 x1 x2 x3 x4 x5 x6 : Int) (h0 : -9223372036854775808 ≤ x0 ∧ x0 ≤ 9223372036854775807) (h1 : -9223372036854775808 ≤ x1 ∧ x1 ≤ 9223372036854775807) (h2 : -9223372036854775808 ≤ x2 ∧ x2 ≤ 9223372036854775807) (h3 : 0 ≤ x3 ∧ x3 ≤ 255) (h4 : 0 ≤ x4 ∧ x4 ≤ 255) (h5 : 0 ≤ x5 ∧ x5 ≤ 255) (h6 : 0 ≤ x6 ∧ x6 ≤ 255) (hn : x6 % 3 = 2) (hq1 : x0 ≤ x1) (hq2 : x1 < x2) (hq3 : x1 ≤ 2000000) (w : World) :
    Calls Try.prog 6 #[.int .i64 x0, .int .i64 x1, .int .i64 x2, .int .u8 x3, .int .u8 x4, .int .u8 x5, .int .u8 x6] w (GivesBool true w) := by
  obtain ⟨a0, a1⟩ := h0
  obtain ⟨b0, b1⟩ := h1
  obtain ⟨c0, c1⟩ := h2
  obtain ⟨d0, d1⟩ := h3
  obtain ⟨e0, e1⟩ := h4
  obtain ⟨f0, f1⟩ := h5
  obtain ⟨g0, g1⟩ := h6
  go_enter Try.func6, Try.ntmps6
  go_wp2_with fail
  refine (awake_any _).mono ?_
  rintro e w1 ⟨rfl, hb1⟩
  have HX := Lib.hid (ints_new w1 x3 x4 x5 3 (by decide))
  have HW0 := below_new hb1 (.cells #[.int .i64 x3, .int .i64 x4, .int .i64 x5] 3)
  go_wp2_with fail
  refine (seqs_any x0 x2 _).mono ?_
  rintro e w2 ⟨v, L, rfl, hL, hS, hb2⟩
  have HL := Lib.hid hL
  have HS := Lib.hid hS
  have HX2 := Lib.hid (HX.out.below hb2)
  have HW2 := below_then HW0 hb2
  clear hL hS hb2 HW0 hb1
  go_wp2_with fail
  refine (counted _ [x3, x4, x5] v x0 x2 L _ _ HX2.out HL.out HS.out).mono ?_
  generalize hN : cntB [x3, x4, x5] (L.map seqOf) = N
  have HN := Lib.hid hN
  clear hN
  rintro e w3 ⟨rfl, hb3⟩
  have HX3 := Lib.hid (HX2.out.below hb3)
  have HW3 := below_then HW2 hb3
  clear hb3 HW2
  go_wp2_with fail
  refine (seqs_any x0 x1 _).mono ?_
  rintro e w4 ⟨v', L', rfl, hL, hS, hb4⟩
  have HL' := Lib.hid hL
  have HS' := Lib.hid hS
  have HX4 := Lib.hid (HX3.out.below hb4)
  have HW4 := below_then HW3 hb4
  clear hL hS hb4 HW3
  go_wp2_with fail
  refine (counted _ [x3, x4, x5] v' x0 x1 L' _ _ HX4.out HL'.out HS'.out).mono ?_
  generalize hN : cntB [x3, x4, x5] (L'.map seqOf) = N'
  have HN' := Lib.hid hN
  clear hN
  rintro e w5 ⟨rfl, hb5⟩
  have HX5 := Lib.hid (HX4.out.below hb5)
  have HW5 := below_then HW4 hb5
  clear hb5 HW4
  go_wp2_with fail
  refine (seqs_any (x1 + 1) x2 _).mono ?_
  rintro e w6 ⟨v'', L'', rfl, hL, hS, hb6⟩
  have HL'' := Lib.hid hL
  have HS'' := Lib.hid hS
  have HX6 := Lib.hid (HX5.out.below hb6)
  have HW6 := below_then HW5 hb6
  clear hL hS hb6 HW5
  go_wp2_with fail
  refine (counted _ [x3, x4, x5] v'' (x1 + 1) x2 L'' _ _ HX6.out HL''.out HS''.out).mono ?_
  generalize hN : cntB [x3, x4, x5] (L''.map seqOf) = N''
  have HN'' := Lib.hid hN
  clear hN
  rintro e w7 ⟨rfl, hb7⟩
  have HW7 := below_then HW6 hb7
  clear hb7 HW6
  obtain rfl : N = N' + N'' := by
    rw [← HN.out, ← HN'.out, ← HN''.out]
    exact cnt_parts hq1 hq2 HL.out HL'.out HL''.out _
  have t1 : N' ≤ 1 := by rw [← HN'.out]; exact cnt_two _ HL'.out
  have t2 : N'' ≤ 1 := by rw [← HN''.out]; exact cnt_two _ HL''.out
  go_wp2_with fail
  go_ret
  exact ⟨rfl, HW7⟩

set_option maxRecDepth 100000 in
set_option maxHeartbeats 8000000 in
theorem walk_out (x0 x1 x2 x3 x4 x5 x6 : Int) (h0 : -9223372036854775808 ≤ x0 ∧ x0 ≤ 9223372036854775807) (h1 : -9223372036854775808 ≤ x1 ∧ x1 ≤ 9223372036854775807) (h2 : -9223372036854775808 ≤ x2 ∧ x2 ≤ 9223372036854775807) (h3 : 0 ≤ x3 ∧ x3 ≤ 255) (h4 : 0 ≤ x4 ∧ x4 ≤ 255) (h5 : 0 ≤ x5 ∧ x5 ≤ 255) (h6 : 0 ≤ x6 ∧ x6 ≤ 255) (hq : x1 < x0 ∨ (x0 ≤ x1 ∧ x2 ≤ x1) ∨ (x0 ≤ x1 ∧ x1 < x2 ∧ 2000000 < x1)) (w : World) :
    Calls Try.prog 6 #[.int .i64 x0, .int .i64 x1, .int .i64 x2, .int .u8 x3, .int .u8 x4, .int .u8 x5, .int .u8 x6] w (GivesBool true w) := by
  rcases hq with hq | ⟨hq1, hq2⟩ | ⟨hq1, hq2, hq3⟩
  all_goals
    go_enter Try.func6, Try.ntmps6
    go_wp2_with fail
    refine (awake_any _).mono ?_
    rintro e w1 ⟨rfl, hb1⟩
    go_wp2_with fail
    go_ret
    exact ⟨rfl, hb1⟩


set_option maxRecDepth 100000 in
set_option maxHeartbeats 8000000 in
theorem walk (x0 x1 x2 x3 x4 x5 x6 : Int) (h0 : -9223372036854775808 ≤ x0 ∧ x0 ≤ 9223372036854775807) (h1 : -9223372036854775808 ≤ x1 ∧ x1 ≤ 9223372036854775807) (h2 : -9223372036854775808 ≤ x2 ∧ x2 ≤ 9223372036854775807) (h3 : 0 ≤ x3 ∧ x3 ≤ 255) (h4 : 0 ≤ x4 ∧ x4 ≤ 255) (h5 : 0 ≤ x5 ∧ x5 ≤ 255) (h6 : 0 ≤ x6 ∧ x6 ≤ 255) (w : World) :
    Calls Try.prog 6 #[.int .i64 x0, .int .i64 x1, .int .i64 x2, .int .u8 x3, .int .u8 x4, .int .u8 x5, .int .u8 x6] w (GivesBool true w) := by
  by_cases hq : x1 < x0 ∨ (x0 ≤ x1 ∧ x2 ≤ x1) ∨ (x0 ≤ x1 ∧ x1 < x2 ∧ 2000000 < x1)
  · exact walk_out x0 x1 x2 x3 x4 x5 x6 h0 h1 h2 h3 h4 h5 h6 hq w
  have hn : x6 % 3 = 0 ∨ x6 % 3 = 1 ∨ x6 % 3 = 2 := by omega
  rcases hn with hn | hn | hn
  · exact walk_1 x0 x1 x2 x3 x4 x5 x6 h0 h1 h2 h3 h4 h5 h6 hn (by omega) (by omega) (by omega) w
  · exact walk_2 x0 x1 x2 x3 x4 x5 x6 h0 h1 h2 h3 h4 h5 h6 hn (by omega) (by omega) (by omega) w
  · exact walk_3 x0 x1 x2 x3 x4 x5 x6 h0 h1 h2 h3 h4 h5 h6 hn (by omega) (by omega) (by omega) w

set_option maxRecDepth 100000 in
set_option maxHeartbeats 1000000 in
theorem lifted (os : Os) (started : os.Started) (H : Type) (enc : TypeId × Value → H) :
    ReturnsInHanded {} Try.checked os 6 .any (Rows.scalarPartsSpec.pre6 enc Try.prog Try.f6 Rows.scalarPartsRow.domain false) (Rows.scalarPartsSpec.post enc Try.prog Try.f6 false true false false) := by
  refine returnsInHanded_of_change (C := Try.checked) noKnob started (by kernel_rfl) Try.func6
    (ChangeSpec.witness6 (enc := enc) (C := Try.checked) false ⟨#[], #[.int .i64 0, .int .i64 0, .int .i64 0, .int .u8 0, .int .u8 0, .int .u8 0, .int .u8 0], []⟩ 8 (by kernel_rfl) (by kernel_rfl) (by kernel_rfl) (by kernel_rfl)) ?_
  intro W base args ds gs before hval0 hW hcnd _
  have hval : ∀ (j : Nat) t v, Try.f6.params[j]? = some t → args[j]? = some v → Value.okWide Try.prog W .any base t v := hval0
  have hW' := hW
  obtain ⟨p, q, hA0, hV, rfl, hfz, hnd⟩ := hW
  have hA : DataW.TrodAll enc Try.prog W 0 (fun _ => true) true Try.f6.params.toList args.toList ds p := hA0
  rw [Try.params6] at hA hval
  obtain ⟨v0, vs0, d0, ds0, p0, q0, hargs, rfl, rfl, h0, r0⟩ := trodAll_cons hA
  obtain ⟨v1, vs1, d1, ds1, p1, q1, rfl, rfl, rfl, h1, r1⟩ := trodAll_cons r0
  obtain ⟨v2, vs2, d2, ds2, p2, q2, rfl, rfl, rfl, h2, r2⟩ := trodAll_cons r1
  obtain ⟨v3, vs3, d3, ds3, p3, q3, rfl, rfl, rfl, h3, r3⟩ := trodAll_cons r2
  obtain ⟨v4, vs4, d4, ds4, p4, q4, rfl, rfl, rfl, h4, r4⟩ := trodAll_cons r3
  obtain ⟨v5, vs5, d5, ds5, p5, q5, rfl, rfl, rfl, h5, r5⟩ := trodAll_cons r4
  obtain ⟨v6, vs6, d6, ds6, p6, q6, rfl, rfl, rfl, h6, r6⟩ := trodAll_cons r5
  obtain ⟨rfl, rfl, rfl⟩ := trodAll_nil r6
  obtain rfl : args = #[v0, v1, v2, v3, v4, v5, v6] := by cases args; simp_all
  obtain ⟨rfl, rfl⟩ := trodVars_none hV
  obtain ⟨x0, rfl, rfl, rfl, w0⟩ := open_int Try.underlying3 (hval 0 3 v0 rfl rfl) h0
  have b0 := bounds_i64 w0
  obtain ⟨x1, rfl, rfl, rfl, w1⟩ := open_int Try.underlying3 (hval 1 3 v1 rfl rfl) h1
  have b1 := bounds_i64 w1
  obtain ⟨x2, rfl, rfl, rfl, w2⟩ := open_int Try.underlying3 (hval 2 3 v2 rfl rfl) h2
  have b2 := bounds_i64 w2
  obtain ⟨x3, rfl, rfl, rfl, w3⟩ := open_int Try.underlying5 (hval 3 5 v3 rfl rfl) h3
  have b3 := bounds_u8 w3
  obtain ⟨x4, rfl, rfl, rfl, w4⟩ := open_int Try.underlying5 (hval 4 5 v4 rfl rfl) h4
  have b4 := bounds_u8 w4
  obtain ⟨x5, rfl, rfl, rfl, w5⟩ := open_int Try.underlying5 (hval 5 5 v5 rfl rfl) h5
  have b5 := bounds_u8 w5
  obtain ⟨x6, rfl, rfl, rfl, w6⟩ := open_int Try.underlying5 (hval 6 5 v6 rfl rfl) h6
  have b6 := bounds_u8 w6
  clear hA0 hval0
  simp only [List.append_nil] at hW'
  refine (walk x0 x1 x2 x3 x4 x5 x6 b0 b1 b2 b3 b4 b5 b6 W).mono fun e W' ⟨he, hg⟩ => ?_
  subst he
  exact ⟨_, rfl, owed_below (pa := []) (pv := []) hW' (fun _ _ _ => trodAll_cons_mk (shut_bool Try.underlying4 _) trodAll_mk0) (fun sp => trodAll_cons_mk (shut_int Try.underlying3 w0) (trodAll_cons_mk (shut_int Try.underlying3 w1) (trodAll_cons_mk (shut_int Try.underlying3 w2) (trodAll_cons_mk (shut_int Try.underlying5 w3) (trodAll_cons_mk (shut_int Try.underlying5 w4) (trodAll_cons_mk (shut_int Try.underlying5 w5) (trodAll_cons_mk (shut_int Try.underlying5 w6) (trodAll_mk0)))))))) (fun _ => rfl) rfl hg⟩

theorem over : Rows.scalarPartsRow.holds Try.pinned (OpenSpec.ofChange Rows.scalarPartsSpec) :=
  OpenClaim.holds_of_wide 6 Try.f6 rfl rfl rfl rfl rfl rfl rfl ⟨rfl, rfl, rfl, rfl, rfl⟩ rfl rfl rfl rfl rfl (by kernel_rfl) Try.func6 (by kernel_rfl)
    (of_decide_eq_true (by kernel_rfl)) (by unfold Func.isWrapper; first | (rw [if_pos (by decide +kernel)]; kernel_rfl) | (rw [if_neg (by decide +kernel)]; exact ⟨rfl, rfl⟩))
    (fun os started H enc _ => lifted os started H enc)

/-- The statement. -/
theorem proved : Rows.ScalarPartsSaid := over

#print axioms proved
end Go.Proofs.Ytdcjlncbchhanaa.scalarParts
