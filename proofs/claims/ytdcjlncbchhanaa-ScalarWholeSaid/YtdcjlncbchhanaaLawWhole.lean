/- ScalarWhole is true for every int c, without any condition: a range of one scalar is one sequence, that has just its bytes; that of all has all. -/
import Derived.Test.YtdcjlncbchhanaaOwed
import Derived.Test.YtdcjlncbchhanaaCnt
namespace Go.Proofs.Ytdcjlncbchhanaa.scalarWhole
open Go.ChangeShapes Go.WideShapes Go.ChangeAt Go.RowKit Go.Proofs.Ytdcjlncbchhanaa
set_option linter.unusedVariables false

set_option maxRecDepth 100000 in
set_option maxHeartbeats 8000000 in
theorem walk_no (x0 : Int) (hc : isSc x0 = false) (w : World) :
    Calls Try.prog 8 #[.int .i64 x0] w (GivesBool true w) := by
  go_enter Try.func8, Try.ntmps8
  go_wp2_with fail
  refine (seqs_any x0 x0 _).mono ?_
  rintro e w1 ⟨v, L, rfl, hL, hS, hb1⟩
  obtain rfl := parts_self_no hL hc
  clear hL
  have HS := Lib.hid hS
  obtain ⟨us, hl, hr, hsq⟩ := hS
  obtain rfl | ⟨gv, cv, rfl⟩ : v = .slice none 0 0 ∨ ∃ g c, v = .slice (some ⟨g, 0, none⟩) 0 c := by
    rcases row_forms hr with ⟨h, _⟩ | h
    · exact .inl h
    · exact .inr h
  all_goals
    clear hl hr hsq us HS
    go_wp2_with fail
    refine (seqs_any 0 1114111 _).mono ?_
    rintro e w2 ⟨u, M, rfl, hM, hT, hb2⟩
    have HM := Lib.hid hM
    have HT := Lib.hid hT
    clear hM hT
    go_wp2_with fail
    refine (refbytes_any x0 _).mono ?_
    rw [encS_no hc]
    rintro e w3 ⟨b, rfl, hv3, hb3⟩
    obtain ⟨ab, cb, rfl⟩ : ∃ a c, b = .slice a 0 c := by
      rcases row_forms hv3 with ⟨h, _⟩ | ⟨g, c, h⟩
      · exact ⟨_, _, h⟩
      · exact ⟨_, _, h⟩
    have HW := below_then (below_then hb1 hb2) hb3
    clear hv3 hb1 hb2 hb3
    go_wp2_with fail
    refine (awake_any _).mono ?_
    rintro e w4 ⟨rfl, hb4⟩
    have HW4 := below_then HW hb4
    clear HW hb4
    go_wp2_with fail
    go_ret
    exact ⟨rfl, HW4⟩

set_option maxRecDepth 100000 in
set_option maxHeartbeats 8000000 in
theorem walk_yes (x0 : Int) (hc : isSc x0 = true) (w : World) :
    Calls Try.prog 8 #[.int .i64 x0] w (GivesBool true w) := by
  go_enter Try.func8, Try.ntmps8
  go_wp2_with fail
  refine (seqs_any x0 x0 _).mono ?_
  rintro e w1 ⟨v, L, rfl, hL, hS, hb1⟩
  obtain rfl := parts_self hL hc
  clear hL
  have HS := Lib.hid hS
  obtain ⟨us, hl, hr, hsq⟩ := hS
  simp only [List.map_cons, List.map_nil] at hl hr hsq
  obtain ⟨gv, cv, rfl⟩ := (row_forms hr).resolve_left (fun h => by cases h.2)
  obtain ⟨g2, c2, hu1, hu2⟩ := hsq 0 _ rfl
  have E0 := Lib.hid (row_cell hr hu1)
  have hgv := (row_base hr).2.2.2
  have HU := Lib.hid hu2
  have HC := Lib.hid hc
  have hne := enc_ne x0
  have hle := enc_le x0
  obtain ⟨n, hn⟩ : ∃ n, n = (seqOf (x0, x0)).length := ⟨_, rfl⟩
  rw [← seqOf_self_len, ← hn] at hne hle
  rw [← hn] at E0
  have HN := Lib.hid hn
  have hn1 : 1 ≤ n := by omega
  have hlen : (encS x0).length = n := by rw [encS_sc hc, hn, seqOf_self_len]
  have HL := Lib.hid hlen
  clear hl hr hsq hu1 hu2 us HS hc hn hlen hne
  simp only [List.length_cons, List.length_nil, Nat.zero_add] at *
  go_wp2_with fail
  refine (seqs_any 0 1114111 _).mono ?_
  rintro e w2 ⟨u, M, rfl, hM, hT, hb2⟩
  have HM := Lib.hid hM
  have HT := Lib.hid hT
  clear hM hT
  go_wp2_with fail
  refine (refbytes_any x0 _).mono ?_
  rintro e w3 ⟨b, rfl, hv3, hb3⟩
  rw [HL.out] at hv3
  obtain ⟨g, c, rfl⟩ := (row_forms hv3).resolve_left (fun h => by omega)
  have HX := Lib.hid (IntsAt.of_row (xs := encS x0) (by rw [HL.out]; exact hv3))
  have HB3 := Lib.hid (below_then hb2 hb3)
  have HW := below_then (below_then hb1 hb2) hb3
  have HT3 := Lib.hid (HT.out.below hb3)
  have z0 : ((n : Int) == 0) = false := by simp; omega
  clear hb1 hb2 hb3 hv3
  go_wp2_with fail
  refine (awake_any _).mono ?_
  rintro e w4 ⟨rfl, hb4⟩
  have HX4 := Lib.hid (HX.out.below hb4)
  have HT4 := Lib.hid (HT3.out.below hb4)
  have HB4 := Lib.hid (below_then HB3.out hb4)
  have HW4 := below_then HW hb4
  clear HW hb4
  go_wp2_with fail
  refine (shaped_seqs u 0 1114111 M _ _ HM.out HT4.out).mono ?_
  rintro e w5 ⟨rfl, hb5⟩
  have HX5 := Lib.hid (HX4.out.below hb5)
  have HT5 := Lib.hid (HT4.out.below hb5)
  have HB5 := Lib.hid (below_then HB4.out hb5)
  have HW5 := below_then HW4 hb5
  clear HW4 hb5
  go_wp2_with fail
  refine (counted _ (encS x0) u 0 1114111 M _ _ HX5.out HM.out HT5.out).mono ?_
  rw [seqs_all HM.out HC.out]
  rintro e w6 ⟨rfl, hb6⟩
  have HX6 := Lib.hid (HX5.out.below hb6)
  have HB6 := below_then HB5.out hb6
  have HW6 := below_then HW5 hb6
  have e0 := (HB6.cell (p := ⟨gv, 0, none⟩) hgv).trans E0.out
  have HU6 := Lib.hid (row_below HU.out HB6)
  have HB7 := Lib.hid HB6
  clear HW5 hb6 HB6
  go_wp2_with fail
  have hin := in_any _ (encS x0) (seqOf (x0, x0)) g2 c2 _ w6 HX6.out HU6.out (by rw [← HN.out]; omega) (by rw [← HN.out]; omega)
  rw [← HN.out, encS_sc HC.out, inB_self] at hin
  refine hin.mono ?_
  rintro e w7 ⟨rfl, hb7⟩
  have HW7 := below_then HW6 hb7
  clear HW6 hb7 e0 hin
  go_wp2_with fail
  go_ret
  exact ⟨rfl, HW7⟩


set_option maxRecDepth 100000 in
set_option maxHeartbeats 8000000 in
theorem walk (x0 : Int) (h0 : -9223372036854775808 ≤ x0 ∧ x0 ≤ 9223372036854775807) (w : World) :
    Calls Try.prog 8 #[.int .i64 x0] w (GivesBool true w) := by
  cases hc : isSc x0 with
  | false => exact walk_no x0 hc w
  | true => exact walk_yes x0 hc w

set_option maxRecDepth 100000 in
set_option maxHeartbeats 1000000 in
theorem lifted (os : Os) (started : os.Started) (H : Type) (enc : TypeId × Value → H) :
    ReturnsInHanded {} Try.checked os 8 .any (Rows.scalarWholeSpec.pre6 enc Try.prog Try.f8 Rows.scalarWholeRow.domain false) (Rows.scalarWholeSpec.post enc Try.prog Try.f8 false true false false) := by
  refine returnsInHanded_of_change (C := Try.checked) noKnob started (by kernel_rfl) Try.func8
    (ChangeSpec.witness6 (enc := enc) (C := Try.checked) false ⟨#[], #[.int .i64 0], []⟩ 8 (by kernel_rfl) (by kernel_rfl) (by kernel_rfl) (by kernel_rfl)) ?_
  intro W base args ds gs before hval0 hW hcnd _
  have hval : ∀ (j : Nat) t v, Try.f8.params[j]? = some t → args[j]? = some v → Value.okWide Try.prog W .any base t v := hval0
  have hW' := hW
  obtain ⟨p, q, hA0, hV, rfl, hfz, hnd⟩ := hW
  have hA : DataW.TrodAll enc Try.prog W 0 (fun _ => true) true Try.f8.params.toList args.toList ds p := hA0
  rw [Try.params8] at hA hval
  obtain ⟨v0, vs0, d0, ds0, p0, q0, hargs, rfl, rfl, h0, r0⟩ := trodAll_cons hA
  obtain ⟨rfl, rfl, rfl⟩ := trodAll_nil r0
  obtain rfl : args = #[v0] := by cases args; simp_all
  obtain ⟨rfl, rfl⟩ := trodVars_none hV
  obtain ⟨x0, rfl, rfl, rfl, w0⟩ := open_int Try.underlying3 (hval 0 3 v0 rfl rfl) h0
  have b0 := bounds_i64 w0
  clear hA0 hval0
  simp only [List.append_nil] at hW'
  refine (walk x0 b0 W).mono fun e W' ⟨he, hg⟩ => ?_
  subst he
  exact ⟨_, rfl, owed_below (pa := []) (pv := []) hW' (fun _ _ _ => trodAll_cons_mk (shut_bool Try.underlying4 _) trodAll_mk0) (fun sp => trodAll_cons_mk (shut_int Try.underlying3 w0) (trodAll_mk0)) (fun _ => rfl) rfl hg⟩

theorem over : Rows.scalarWholeRow.holds Try.pinned (OpenSpec.ofChange Rows.scalarWholeSpec) :=
  OpenClaim.holds_of_wide 8 Try.f8 rfl rfl rfl rfl rfl rfl rfl ⟨rfl, rfl, rfl, rfl, rfl⟩ rfl rfl rfl rfl rfl (by kernel_rfl) Try.func8 (by kernel_rfl)
    (of_decide_eq_true (by kernel_rfl)) (by unfold Func.isWrapper; first | (rw [if_pos (by decide +kernel)]; kernel_rfl) | (rw [if_neg (by decide +kernel)]; exact ⟨rfl, rfl⟩))
    (fun os started H enc _ => lifted os started H enc)

/-- The statement. -/
theorem proved : Rows.ScalarWholeSaid := over

#print axioms proved
end Go.Proofs.Ytdcjlncbchhanaa.scalarWhole
