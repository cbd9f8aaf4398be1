/- ScalarIn is true for all ints lo, hi and c, without any condition: the bytes of a scalar are in one sequence of a range, and in one alone, if it is in the range; else in none. -/
import Derived.Test.YtdcjlncbchhanaaOwed
import Derived.Test.YtdcjlncbchhanaaCnt
namespace Go.Proofs.Ytdcjlncbchhanaa.scalarIn
open Go.ChangeShapes Go.WideShapes Go.ChangeAt Go.RowKit Go.Proofs.Ytdcjlncbchhanaa
set_option linter.unusedVariables false

set_option maxRecDepth 100000 in
set_option maxHeartbeats 8000000 in
theorem walk_no (x0 x1 x2 : Int) (hc : isSc x2 = false) (w : World) :
    Calls Try.prog 4 #[.int .i64 x0, .int .i64 x1, .int .i64 x2] w (GivesBool true w) := by
  go_enter Try.func4, Try.ntmps4
  go_wp2_with fail
  refine (seqs_any x0 x1 _).mono ?_
  rintro e w1 ⟨v, L, rfl, hL, hS, hb1⟩
  have HL := Lib.hid hL
  have HS := Lib.hid hS
  clear hL hS
  go_wp2_with fail
  refine (shaped_seqs v x0 x1 L _ _ HL.out HS.out).mono ?_
  rintro e w2 ⟨rfl, hb2⟩
  have HS2 := Lib.hid (HS.out.below hb2)
  go_wp2_with fail
  refine (refbytes_any x2 _).mono ?_
  rw [encS_no hc]
  rintro e w3 ⟨b, rfl, hv3, hb3⟩
  obtain rfl | ⟨g4, c4, rfl⟩ : b = .slice none 0 0 ∨ ∃ g c, b = .slice (some ⟨g, 0, none⟩) 0 c := by
    rcases row_forms hv3 with ⟨h, _⟩ | h
    · exact .inl h
    · exact .inr h
  all_goals
    have HW := below_then (below_then hb1 hb2) hb3
    clear hv3 hb1 hb2 hb3
    go_wp2_with fail
    refine (refsc_any x2 _).mono ?_
    rw [hc]
    rintro e w' ⟨rfl, rfl⟩
    go_wp2_with fail
    refine (awake_any _).mono ?_
    rintro e w4 ⟨rfl, hb4⟩
    have HW4 := below_then HW hb4
    clear HW hb4
    go_wp2
    go_ret
    exact ⟨rfl, HW4⟩

set_option maxRecDepth 100000 in
set_option maxHeartbeats 8000000 in
theorem walk_low (x0 x1 x2 : Int) (hc : isSc x2 = true) (h : x2 < x0) (w : World) :
    Calls Try.prog 4 #[.int .i64 x0, .int .i64 x1, .int .i64 x2] w (GivesBool true w) := by
  go_enter Try.func4, Try.ntmps4
  go_wp2_with fail
  refine (seqs_any x0 x1 _).mono ?_
  rintro e w1 ⟨v, L, rfl, hL, hS, hb1⟩
  have HL := Lib.hid hL
  have HS := Lib.hid hS
  clear hL hS
  go_wp2_with fail
  refine (shaped_seqs v x0 x1 L _ _ HL.out HS.out).mono ?_
  rintro e w2 ⟨rfl, hb2⟩
  have HS2 := Lib.hid (HS.out.below hb2)
  go_wp2_with fail
  refine (refbytes_any x2 _).mono ?_
  have HC := Lib.hid hc
  rintro e w3 ⟨b, rfl, hv3, hb3⟩
  have HX := Lib.hid (IntsAt.of_row hv3)
  have HS3 := Lib.hid (HS2.out.below hb3)
  have hne := enc_ne x2
  rw [← encS_sc hc] at hne
  obtain ⟨g, c, rfl⟩ := (row_forms hv3).resolve_left (fun h => hne h.2)
  have HW := below_then (below_then hb1 hb2) hb3
  generalize hn : (encS x2).length = n at HX hne
  clear hv3 hb1 hb2 hb3 hn
  have hn1 : 1 ≤ n := by omega
  clear hne
  go_wp2_with fail
  refine (refsc_any x2 _).mono ?_
  rw [HC.out]
  clear hc
  rintro e w' ⟨rfl, rfl⟩
  have hcnt := seqs_sc HL.out HC.out
  rw [if_neg (by omega)] at hcnt
  have HCN := Lib.hid hcnt
  clear hcnt
  go_wp2_with fail
  refine (awake_any _).mono ?_
  rintro e w4 ⟨rfl, hb4⟩
  have HX4 := Lib.hid (HX.out.below hb4)
  have HS4 := Lib.hid (HS3.out.below hb4)
  have HW4 := below_then HW hb4
  clear HW hb4
  go_wp2_with fail
  refine (counted _ (encS x2) v x0 x1 L _ _ HX4.out HL.out HS4.out).mono ?_
  rw [HCN.out]
  rintro e w5 ⟨rfl, hb5⟩
  have HW5 := below_then HW4 hb5
  clear HW4 hb5
  go_wp2
  go_ret
  exact ⟨rfl, HW5⟩

set_option maxRecDepth 100000 in
set_option maxHeartbeats 8000000 in
theorem walk_high (x0 x1 x2 : Int) (hc : isSc x2 = true) (h : x0 ≤ x2) (h2 : x1 < x2) (w : World) :
    Calls Try.prog 4 #[.int .i64 x0, .int .i64 x1, .int .i64 x2] w (GivesBool true w) := by
  go_enter Try.func4, Try.ntmps4
  go_wp2_with fail
  refine (seqs_any x0 x1 _).mono ?_
  rintro e w1 ⟨v, L, rfl, hL, hS, hb1⟩
  have HL := Lib.hid hL
  have HS := Lib.hid hS
  clear hL hS
  go_wp2_with fail
  refine (shaped_seqs v x0 x1 L _ _ HL.out HS.out).mono ?_
  rintro e w2 ⟨rfl, hb2⟩
  have HS2 := Lib.hid (HS.out.below hb2)
  go_wp2_with fail
  refine (refbytes_any x2 _).mono ?_
  have HC := Lib.hid hc
  rintro e w3 ⟨b, rfl, hv3, hb3⟩
  have HX := Lib.hid (IntsAt.of_row hv3)
  have HS3 := Lib.hid (HS2.out.below hb3)
  have hne := enc_ne x2
  rw [← encS_sc hc] at hne
  obtain ⟨g, c, rfl⟩ := (row_forms hv3).resolve_left (fun h => hne h.2)
  have HW := below_then (below_then hb1 hb2) hb3
  generalize hn : (encS x2).length = n at HX hne
  clear hv3 hb1 hb2 hb3 hn
  have hn1 : 1 ≤ n := by omega
  clear hne
  go_wp2_with fail
  refine (refsc_any x2 _).mono ?_
  rw [HC.out]
  clear hc
  rintro e w' ⟨rfl, rfl⟩
  have hcnt := seqs_sc HL.out HC.out
  rw [if_neg (by omega)] at hcnt
  have HCN := Lib.hid hcnt
  clear hcnt
  go_wp2_with fail
  refine (awake_any _).mono ?_
  rintro e w4 ⟨rfl, hb4⟩
  have HX4 := Lib.hid (HX.out.below hb4)
  have HS4 := Lib.hid (HS3.out.below hb4)
  have HW4 := below_then HW hb4
  clear HW hb4
  go_wp2_with fail
  refine (counted _ (encS x2) v x0 x1 L _ _ HX4.out HL.out HS4.out).mono ?_
  rw [HCN.out]
  rintro e w5 ⟨rfl, hb5⟩
  have HW5 := below_then HW4 hb5
  clear HW4 hb5
  go_wp2
  go_ret
  exact ⟨rfl, HW5⟩

set_option maxRecDepth 100000 in
set_option maxHeartbeats 8000000 in
theorem walk_within (x0 x1 x2 : Int) (hc : isSc x2 = true) (h : x0 ≤ x2) (h2 : x2 ≤ x1) (w : World) :
    Calls Try.prog 4 #[.int .i64 x0, .int .i64 x1, .int .i64 x2] w (GivesBool true w) := by
  go_enter Try.func4, Try.ntmps4
  go_wp2_with fail
  refine (seqs_any x0 x1 _).mono ?_
  rintro e w1 ⟨v, L, rfl, hL, hS, hb1⟩
  have HL := Lib.hid hL
  have HS := Lib.hid hS
  clear hL hS
  go_wp2_with fail
  refine (shaped_seqs v x0 x1 L _ _ HL.out HS.out).mono ?_
  rintro e w2 ⟨rfl, hb2⟩
  have HS2 := Lib.hid (HS.out.below hb2)
  go_wp2_with fail
  refine (refbytes_any x2 _).mono ?_
  have HC := Lib.hid hc
  rintro e w3 ⟨b, rfl, hv3, hb3⟩
  have HX := Lib.hid (IntsAt.of_row hv3)
  have HS3 := Lib.hid (HS2.out.below hb3)
  have hne := enc_ne x2
  rw [← encS_sc hc] at hne
  obtain ⟨g, c, rfl⟩ := (row_forms hv3).resolve_left (fun h => hne h.2)
  have HW := below_then (below_then hb1 hb2) hb3
  generalize hn : (encS x2).length = n at HX hne
  clear hv3 hb1 hb2 hb3 hn
  have hn1 : 1 ≤ n := by omega
  clear hne
  go_wp2_with fail
  refine (refsc_any x2 _).mono ?_
  rw [HC.out]
  clear hc
  rintro e w' ⟨rfl, rfl⟩
  have hcnt := seqs_sc HL.out HC.out
  rw [if_pos (by omega)] at hcnt
  have HCN := Lib.hid hcnt
  clear hcnt
  go_wp2_with fail
  refine (awake_any _).mono ?_
  rintro e w4 ⟨rfl, hb4⟩
  have HX4 := Lib.hid (HX.out.below hb4)
  have HS4 := Lib.hid (HS3.out.below hb4)
  have HW4 := below_then HW hb4
  clear HW hb4
  go_wp2_with fail
  refine (counted _ (encS x2) v x0 x1 L _ _ HX4.out HL.out HS4.out).mono ?_
  rw [HCN.out]
  rintro e w5 ⟨rfl, hb5⟩
  have HW5 := below_then HW4 hb5
  clear HW4 hb5
  go_wp2
  go_ret
  exact ⟨rfl, HW5⟩


set_option maxRecDepth 100000 in
set_option maxHeartbeats 8000000 in
theorem walk (x0 x1 x2 : Int) (h0 : -9223372036854775808 ≤ x0 ∧ x0 ≤ 9223372036854775807) (h1 : -9223372036854775808 ≤ x1 ∧ x1 ≤ 9223372036854775807) (h2 : -9223372036854775808 ≤ x2 ∧ x2 ≤ 9223372036854775807) (w : World) :
    Calls Try.prog 4 #[.int .i64 x0, .int .i64 x1, .int .i64 x2] w (GivesBool true w) := by
  cases hc : isSc x2 with
  | false => exact walk_no x0 x1 x2 hc w
  | true =>
    by_cases h1 : x2 < x0
    · exact walk_low x0 x1 x2 hc h1 w
    by_cases h2 : x1 < x2
    · exact walk_high x0 x1 x2 hc (by omega) h2 w
    · exact walk_within x0 x1 x2 hc (by omega) (by omega) w

set_option maxRecDepth 100000 in
set_option maxHeartbeats 1000000 in
theorem lifted (os : Os) (started : os.Started) (H : Type) (enc : TypeId × Value → H) :
    ReturnsInHanded {} Try.checked os 4 .any (Rows.scalarInSpec.pre6 enc Try.prog Try.f4 Rows.scalarInRow.domain false) (Rows.scalarInSpec.post enc Try.prog Try.f4 false true false false) := by
  refine returnsInHanded_of_change (C := Try.checked) noKnob started (by kernel_rfl) Try.func4
    (ChangeSpec.witness6 (enc := enc) (C := Try.checked) false ⟨#[], #[.int .i64 0, .int .i64 0, .int .i64 0], []⟩ 8 (by kernel_rfl) (by kernel_rfl) (by kernel_rfl) (by kernel_rfl)) ?_
  intro W base args ds gs before hval0 hW hcnd _
  have hval : ∀ (j : Nat) t v, Try.f4.params[j]? = some t → args[j]? = some v → Value.okWide Try.prog W .any base t v := hval0
  have hW' := hW
  obtain ⟨p, q, hA0, hV, rfl, hfz, hnd⟩ := hW
  have hA : DataW.TrodAll enc Try.prog W 0 (fun _ => true) true Try.f4.params.toList args.toList ds p := hA0
  rw [Try.params4] at hA hval
  obtain ⟨v0, vs0, d0, ds0, p0, q0, hargs, rfl, rfl, h0, r0⟩ := trodAll_cons hA
  obtain ⟨v1, vs1, d1, ds1, p1, q1, rfl, rfl, rfl, h1, r1⟩ := trodAll_cons r0
  obtain ⟨v2, vs2, d2, ds2, p2, q2, rfl, rfl, rfl, h2, r2⟩ := trodAll_cons r1
  obtain ⟨rfl, rfl, rfl⟩ := trodAll_nil r2
  obtain rfl : args = #[v0, v1, v2] := by cases args; simp_all
  obtain ⟨rfl, rfl⟩ := trodVars_none hV
  obtain ⟨x0, rfl, rfl, rfl, w0⟩ := open_int Try.underlying3 (hval 0 3 v0 rfl rfl) h0
  have b0 := bounds_i64 w0
  obtain ⟨x1, rfl, rfl, rfl, w1⟩ := open_int Try.underlying3 (hval 1 3 v1 rfl rfl) h1
  have b1 := bounds_i64 w1
  obtain ⟨x2, rfl, rfl, rfl, w2⟩ := open_int Try.underlying3 (hval 2 3 v2 rfl rfl) h2
  have b2 := bounds_i64 w2
  clear hA0 hval0
  simp only [List.append_nil] at hW'
  refine (walk x0 x1 x2 b0 b1 b2 W).mono fun e W' ⟨he, hg⟩ => ?_
  subst he
  exact ⟨_, rfl, owed_below (pa := []) (pv := []) hW' (fun _ _ _ => trodAll_cons_mk (shut_bool Try.underlying4 _) trodAll_mk0) (fun sp => trodAll_cons_mk (shut_int Try.underlying3 w0) (trodAll_cons_mk (shut_int Try.underlying3 w1) (trodAll_cons_mk (shut_int Try.underlying3 w2) (trodAll_mk0)))) (fun _ => rfl) rfl hg⟩

theorem over : Rows.scalarInRow.holds Try.pinned (OpenSpec.ofChange Rows.scalarInSpec) :=
  OpenClaim.holds_of_wide 4 Try.f4 rfl rfl rfl rfl rfl rfl rfl ⟨rfl, rfl, rfl, rfl, rfl⟩ rfl rfl rfl rfl rfl (by kernel_rfl) Try.func4 (by kernel_rfl)
    (of_decide_eq_true (by kernel_rfl)) (by unfold Func.isWrapper; first | (rw [if_pos (by decide +kernel)]; kernel_rfl) | (rw [if_neg (by decide +kernel)]; exact ⟨rfl, rfl⟩))
    (fun os started H enc _ => lifted os started H enc)

/-- The statement. -/
theorem proved : Rows.ScalarInSaid := over

#print axioms proved
end Go.Proofs.Ytdcjlncbchhanaa.scalarIn
