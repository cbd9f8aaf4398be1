/- ScalarApart is true for all ints a and b, without any condition: unlike scalars have unlike bytes, none of which is the beginning of others. -/
import Derived.Test.YtdcjlncbchhanaaOwed
import Derived.Test.YtdcjlncbchhanaaCnt
namespace Go.Proofs.Ytdcjlncbchhanaa.scalarApart
open Go.ChangeShapes Go.WideShapes Go.ChangeAt Go.RowKit Go.Proofs.Ytdcjlncbchhanaa
set_option linter.unusedVariables false

theorem take_enc {a b : Int} (ha : 0 ≤ a ∧ a ≤ 1114111) (hb : 0 ≤ b ∧ b ≤ 1114111) (hl : (enc a).length ≤ (enc b).length) : enc a = (enc b).take (enc a).length ↔ a = b := by
  constructor
  · intro h
    unfold enc at h hl
    repeat' split at h
    all_goals simp at h
    all_goals simp_all
    all_goals omega
  · rintro rfl
    simp

theorem take_at {W : World} {base g c n : Nat} {ys : List Int} (h : W.ownsRow base 3 1 (.slice (some ⟨g, 0, none⟩) ys.length c) ys.length (icells ys)) (hn : n ≤ ys.length) : IntsAt W (.slice (some ⟨g, 0, none⟩) n c) (ys.take n) := by
  obtain ⟨_, hc, _, hg⟩ := row_base h
  have hl : (ys.take n).length = n := by rw [List.length_take]; omega
  refine .inr ⟨g, c, by rw [hl], by omega, hg, fun i hi => ?_⟩
  have hi' : i < ys.length := by omega
  rw [row_cell h (icells_at ys i hi')]
  simp

set_option maxRecDepth 100000 in
set_option maxHeartbeats 8000000 in
theorem walk_no (x0 x1 : Int) (h0 : -9223372036854775808 ≤ x0 ∧ x0 ≤ 9223372036854775807) (h1 : -9223372036854775808 ≤ x1 ∧ x1 ≤ 9223372036854775807) (hs : isSc x0 = false) (w : World) :
    Calls Try.prog 7 #[.int .i64 x0, .int .i64 x1] w (GivesBool true w) := by
  have hr : ¬ Sc x0 := fun h => by rw [(isSc_iff x0).2 h] at hs; cases hs
  have hr' : x0 < 0 ∨ (0 ≤ x0 ∧ 1114111 < x0) ∨ (0 ≤ x0 ∧ x0 ≤ 1114111 ∧ 55296 ≤ x0 ∧ x0 ≤ 57343) := by unfold Sc at hr; omega
  have HE := Lib.hid (encS_no hs)
  clear hr hs
  rcases hr' with k1 | ⟨k1, k2⟩ | ⟨k1, k2, k3, k4⟩
  all_goals
    obtain ⟨a0, a1⟩ := h0
    obtain ⟨b0, b1⟩ := h1
    go_enter Try.func7, Try.ntmps7
    go_wp2_with fail
    refine (awake_any _).mono ?_
    rintro e w1 ⟨rfl, hb1⟩
    go_wp2_with fail
    refine (bytes_any x0 _).mono ?_
    rw [HE.out]
    rintro e w2 ⟨v, rfl, hv, hb2⟩
    go_wp2_with fail
    refine (bytes_any x1 _).mono ?_
    rintro e w3 ⟨u, rfl, hu, hb3⟩
    have HW := below_then (below_then hb1 hb2) hb3
    obtain ⟨av, cv, rfl⟩ : ∃ a c, v = .slice a 0 c := by
      rcases row_forms hv with ⟨h, _⟩ | ⟨g, c, h⟩
      · exact ⟨_, _, h⟩
      · exact ⟨_, _, h⟩
    obtain ⟨au, cu, rfl⟩ : ∃ a c, u = .slice a (encS x1).length c := by
      rcases row_forms hu with ⟨h, h0⟩ | ⟨g, c, h⟩
      · exact ⟨_, _, by rw [h0]; exact h⟩
      · exact ⟨_, _, h⟩
    clear hb1 hb2 hb3 hv hu
    go_wp2_with fail
    go_ret
    exact ⟨rfl, HW⟩

set_option maxRecDepth 100000 in
set_option maxHeartbeats 8000000 in
theorem walk_less (x0 x1 : Int) (h0 : -9223372036854775808 ≤ x0 ∧ x0 ≤ 9223372036854775807) (h1 : -9223372036854775808 ≤ x1 ∧ x1 ≤ 9223372036854775807) (hs : isSc x0 = true) (hl : (encS x1).length < (encS x0).length) (w : World) :
    Calls Try.prog 7 #[.int .i64 x0, .int .i64 x1] w (GivesBool true w) := by
  obtain ⟨a0, a1⟩ := h0
  obtain ⟨b0, b1⟩ := h1
  go_enter Try.func7, Try.ntmps7
  go_wp2_with fail
  refine (awake_any _).mono ?_
  rintro e w1 ⟨rfl, hb1⟩
  go_wp2_with fail
  refine (bytes_any x0 _).mono ?_
  have HC := Lib.hid hs
  rintro e w2 ⟨v, rfl, hv, hb2⟩
  go_wp2_with fail
  refine (bytes_any x1 _).mono ?_
  rintro e w3 ⟨u, rfl, hu, hb3⟩
  have HW := below_then (below_then hb1 hb2) hb3
  have hne := enc_ne x0
  rw [← encS_sc hs] at hne
  obtain ⟨g1, c1, rfl⟩ := (row_forms hv).resolve_left (fun h => hne h.2)
  have HV := Lib.hid (row_below hv hb3)
  obtain ⟨n, hn⟩ : ∃ n, n = (encS x0).length := ⟨_, rfl⟩
  obtain ⟨m, hm⟩ : ∃ m, m = (encS x1).length := ⟨_, rfl⟩
  rw [← hn] at hne hl ⊢
  rw [← hm] at hl
  obtain ⟨au, cu, rfl⟩ : ∃ a c, u = .slice a m c := by
    rcases row_forms hu with ⟨h, h0⟩ | ⟨g, c, h⟩
    · exact ⟨_, _, by rw [hm, h0]; exact h⟩
    · exact ⟨_, _, by rw [hm]; exact h⟩
  have hn1 : 1 ≤ n := by omega
  clear hb1 hb2 hb3 hv hu hs hne hn hm HV
  go_wp2_with fail
  go_ret
  exact ⟨rfl, HW⟩

set_option maxRecDepth 100000 in
set_option maxHeartbeats 8000000 in
theorem walk_eq (x0 x1 : Int) (h0 : -9223372036854775808 ≤ x0 ∧ x0 ≤ 9223372036854775807) (h1 : -9223372036854775808 ≤ x1 ∧ x1 ≤ 9223372036854775807) (hs : isSc x0 = true) (hl : (encS x0).length ≤ (encS x1).length) (he : x0 = x1) (w : World) :
    Calls Try.prog 7 #[.int .i64 x0, .int .i64 x1] w (GivesBool true w) := by
  have hdec : decide (encS x0 = (encS x1).take (encS x0).length) = true := by
    have hne := enc_ne x0
    have s1 := (isSc_iff x0).1 hs
    have hs1 : isSc x1 = true := by
      cases h : isSc x1 with
      | true => rfl
      | false =>
        rw [encS_no h, encS_sc hs] at hl
        simp at hl
        exact absurd (by rw [hl]; rfl) hne
    have s2 := (isSc_iff x1).1 hs1
    rw [encS_sc hs, encS_sc hs1] at hl ⊢
    unfold Sc at s1 s2
    have := take_enc (a := x0) (b := x1) (by omega) (by omega) hl
    rw [Bool.eq_iff_iff]
    simp only [decide_eq_true_eq, this]
    simp [he]
  have HD := Lib.hid hdec
  clear hdec
  have q0 : (x0 == x1) = true := by simp [he]
  have HE := Lib.hid he
  clear he
  obtain ⟨a0, a1⟩ := h0
  obtain ⟨b0, b1⟩ := h1
  go_enter Try.func7, Try.ntmps7
  go_wp2_with fail
  refine (awake_any _).mono ?_
  rintro e w1 ⟨rfl, hb1⟩
  go_wp2_with fail
  refine (bytes_any x0 _).mono ?_
  have HC := Lib.hid hs
  rintro e w2 ⟨v, rfl, hv, hb2⟩
  go_wp2_with fail
  refine (bytes_any x1 _).mono ?_
  rintro e w3 ⟨u, rfl, hu, hb3⟩
  have HW := below_then (below_then hb1 hb2) hb3
  have hne := enc_ne x0
  rw [← encS_sc hs] at hne
  obtain ⟨g1, c1, rfl⟩ := (row_forms hv).resolve_left (fun h => hne h.2)
  have HV := Lib.hid (row_below hv hb3)
  obtain ⟨n, hn⟩ : ∃ n, n = (encS x0).length := ⟨_, rfl⟩
  obtain ⟨m, hm⟩ : ∃ m, m = (encS x1).length := ⟨_, rfl⟩
  rw [← hn] at hne hl ⊢
  rw [← hm] at hl
  have hne2 : (encS x1).length ≠ 0 := by rw [← hm]; omega
  obtain ⟨g2, c2, rfl⟩ := (row_forms hu).resolve_left (fun h => hne2 h.2)
  have HU := Lib.hid (take_at hu (n := n) (by rw [← hm]; exact hl))
  have HVI : Hid (IntsAt w3 (.slice (some ⟨g1, 0, none⟩) n c1) (encS x0)) := Lib.hid (by rw [hn]; exact .of_row HV.out)
  obtain ⟨_, hc2, _, _⟩ := row_base hu
  rw [← hm] at hc2 ⊢
  have hn1 : 1 ≤ n := by omega
  have HN := Lib.hid hn
  have z0 : ((n : Int) == 0) = false := by simp; omega
  have z1 : decide (m < n) = false := by simp; omega
  clear hb1 hb2 hb3 hv hu hs hne hne2 hn hm HV
  go_wp2_with fail
  refine (same_any _ _ (encS x0) ((encS x1).take n) _ HVI.out HU.out (encS_le x0)).mono ?_
  rw [HN.out, HD.out]
  rintro e w4 ⟨rfl, hb4⟩
  have HW4 := below_then HW hb4
  clear hb4 HW
  go_wp2_with fail
  go_ret
  exact ⟨rfl, HW4⟩

set_option maxRecDepth 100000 in
set_option maxHeartbeats 8000000 in
theorem walk_ne (x0 x1 : Int) (h0 : -9223372036854775808 ≤ x0 ∧ x0 ≤ 9223372036854775807) (h1 : -9223372036854775808 ≤ x1 ∧ x1 ≤ 9223372036854775807) (hs : isSc x0 = true) (hl : (encS x0).length ≤ (encS x1).length) (he : x0 ≠ x1) (w : World) :
    Calls Try.prog 7 #[.int .i64 x0, .int .i64 x1] w (GivesBool true w) := by
  have hdec : decide (encS x0 = (encS x1).take (encS x0).length) = false := by
    have hne := enc_ne x0
    have s1 := (isSc_iff x0).1 hs
    have hs1 : isSc x1 = true := by
      cases h : isSc x1 with
      | true => rfl
      | false =>
        rw [encS_no h, encS_sc hs] at hl
        simp at hl
        exact absurd (by rw [hl]; rfl) hne
    have s2 := (isSc_iff x1).1 hs1
    rw [encS_sc hs, encS_sc hs1] at hl ⊢
    unfold Sc at s1 s2
    have := take_enc (a := x0) (b := x1) (by omega) (by omega) hl
    rw [Bool.eq_iff_iff]
    simp only [decide_eq_true_eq, this]
    simp [he]
  have HD := Lib.hid hdec
  clear hdec
  have q0 : (x0 == x1) = false := by simp [he]
  have HE := Lib.hid he
  clear he
  obtain ⟨a0, a1⟩ := h0
  obtain ⟨b0, b1⟩ := h1
  go_enter Try.func7, Try.ntmps7
  go_wp2_with fail
  refine (awake_any _).mono ?_
  rintro e w1 ⟨rfl, hb1⟩
  go_wp2_with fail
  refine (bytes_any x0 _).mono ?_
  have HC := Lib.hid hs
  rintro e w2 ⟨v, rfl, hv, hb2⟩
  go_wp2_with fail
  refine (bytes_any x1 _).mono ?_
  rintro e w3 ⟨u, rfl, hu, hb3⟩
  have HW := below_then (below_then hb1 hb2) hb3
  have hne := enc_ne x0
  rw [← encS_sc hs] at hne
  obtain ⟨g1, c1, rfl⟩ := (row_forms hv).resolve_left (fun h => hne h.2)
  have HV := Lib.hid (row_below hv hb3)
  obtain ⟨n, hn⟩ : ∃ n, n = (encS x0).length := ⟨_, rfl⟩
  obtain ⟨m, hm⟩ : ∃ m, m = (encS x1).length := ⟨_, rfl⟩
  rw [← hn] at hne hl ⊢
  rw [← hm] at hl
  have hne2 : (encS x1).length ≠ 0 := by rw [← hm]; omega
  obtain ⟨g2, c2, rfl⟩ := (row_forms hu).resolve_left (fun h => hne2 h.2)
  have HU := Lib.hid (take_at hu (n := n) (by rw [← hm]; exact hl))
  have HVI : Hid (IntsAt w3 (.slice (some ⟨g1, 0, none⟩) n c1) (encS x0)) := Lib.hid (by rw [hn]; exact .of_row HV.out)
  obtain ⟨_, hc2, _, _⟩ := row_base hu
  rw [← hm] at hc2 ⊢
  have hn1 : 1 ≤ n := by omega
  have HN := Lib.hid hn
  have z0 : ((n : Int) == 0) = false := by simp; omega
  have z1 : decide (m < n) = false := by simp; omega
  clear hb1 hb2 hb3 hv hu hs hne hne2 hn hm HV
  go_wp2_with fail
  refine (same_any _ _ (encS x0) ((encS x1).take n) _ HVI.out HU.out (encS_le x0)).mono ?_
  rw [HN.out, HD.out]
  rintro e w4 ⟨rfl, hb4⟩
  have HW4 := below_then HW hb4
  clear hb4 HW
  go_wp2_with fail
  go_ret
  exact ⟨rfl, HW4⟩


set_option maxRecDepth 100000 in
set_option maxHeartbeats 8000000 in
theorem walk (x0 x1 : Int) (h0 : -9223372036854775808 ≤ x0 ∧ x0 ≤ 9223372036854775807) (h1 : -9223372036854775808 ≤ x1 ∧ x1 ≤ 9223372036854775807) (w : World) :
    Calls Try.prog 7 #[.int .i64 x0, .int .i64 x1] w (GivesBool true w) := by
  cases hs : isSc x0 with
  | false => exact walk_no x0 x1 h0 h1 hs w
  | true =>
    by_cases hl : (encS x1).length < (encS x0).length
    · exact walk_less x0 x1 h0 h1 hs hl w
    by_cases he : x0 = x1
    · exact walk_eq x0 x1 h0 h1 hs (by omega) he w
    · exact walk_ne x0 x1 h0 h1 hs (by omega) he w

set_option maxRecDepth 100000 in
set_option maxHeartbeats 1000000 in
theorem lifted (os : Os) (started : os.Started) (H : Type) (enc : TypeId × Value → H) :
    ReturnsInHanded {} Try.checked os 7 .any (Rows.scalarApartSpec.pre6 enc Try.prog Try.f7 Rows.scalarApartRow.domain false) (Rows.scalarApartSpec.post enc Try.prog Try.f7 false true false false) := by
  refine returnsInHanded_of_change (C := Try.checked) noKnob started (by kernel_rfl) Try.func7
    (ChangeSpec.witness6 (enc := enc) (C := Try.checked) false ⟨#[], #[.int .i64 0, .int .i64 0], []⟩ 8 (by kernel_rfl) (by kernel_rfl) (by kernel_rfl) (by kernel_rfl)) ?_
  intro W base args ds gs before hval0 hW hcnd _
  have hval : ∀ (j : Nat) t v, Try.f7.params[j]? = some t → args[j]? = some v → Value.okWide Try.prog W .any base t v := hval0
  have hW' := hW
  obtain ⟨p, q, hA0, hV, rfl, hfz, hnd⟩ := hW
  have hA : DataW.TrodAll enc Try.prog W 0 (fun _ => true) true Try.f7.params.toList args.toList ds p := hA0
  rw [Try.params7] at hA hval
  obtain ⟨v0, vs0, d0, ds0, p0, q0, hargs, rfl, rfl, h0, r0⟩ := trodAll_cons hA
  obtain ⟨v1, vs1, d1, ds1, p1, q1, rfl, rfl, rfl, h1, r1⟩ := trodAll_cons r0
  obtain ⟨rfl, rfl, rfl⟩ := trodAll_nil r1
  obtain rfl : args = #[v0, v1] := by cases args; simp_all
  obtain ⟨rfl, rfl⟩ := trodVars_none hV
  obtain ⟨x0, rfl, rfl, rfl, w0⟩ := open_int Try.underlying3 (hval 0 3 v0 rfl rfl) h0
  have b0 := bounds_i64 w0
  obtain ⟨x1, rfl, rfl, rfl, w1⟩ := open_int Try.underlying3 (hval 1 3 v1 rfl rfl) h1
  have b1 := bounds_i64 w1
  clear hA0 hval0
  simp only [List.append_nil] at hW'
  refine (walk x0 x1 b0 b1 W).mono fun e W' ⟨he, hg⟩ => ?_
  subst he
  exact ⟨_, rfl, owed_below (pa := []) (pv := []) hW' (fun _ _ _ => trodAll_cons_mk (shut_bool Try.underlying4 _) trodAll_mk0) (fun sp => trodAll_cons_mk (shut_int Try.underlying3 w0) (trodAll_cons_mk (shut_int Try.underlying3 w1) (trodAll_mk0))) (fun _ => rfl) rfl hg⟩

theorem over : Rows.scalarApartRow.holds Try.pinned (OpenSpec.ofChange Rows.scalarApartSpec) :=
  OpenClaim.holds_of_wide 7 Try.f7 rfl rfl rfl rfl rfl rfl rfl ⟨rfl, rfl, rfl, rfl, rfl⟩ rfl rfl rfl rfl rfl (by kernel_rfl) Try.func7 (by kernel_rfl)
    (of_decide_eq_true (by kernel_rfl)) (by unfold Func.isWrapper; first | (rw [if_pos (by decide +kernel)]; kernel_rfl) | (rw [if_neg (by decide +kernel)]; exact ⟨rfl, rfl⟩))
    (fun os started H enc _ => lifted os started H enc)

/-- The statement. -/
theorem proved : Rows.ScalarApartSaid := over

#print axioms proved
end Go.Proofs.Ytdcjlncbchhanaa.scalarApart
