/- TellerNames is true for every text and every list of bytes, without any condition: whether a text is a name is what the document says. -/
import Derived.Test.YtblaeoajcigidaaDoorTPieces
namespace Go.Proofs.YtblaeoajcigidaaDoor.tellerNames
open Go.ChangeShapes Go.WideShapes Go.ChangeAt Go.RowKit Go.Proofs.YtblaeoajcigidaaDoor
open Go.ChangeMaps (open_string shut_string)
set_option linter.unusedVariables false
set_option linter.unusedSimpArgs false


set_option maxRecDepth 100000 in
set_option maxHeartbeats 8000000 in
theorem walk (x0 : ByteArray) (x1 : Value) (z1 : List Int) (w : World) (hT : Tabs w) (h0 : x0.size ≤ maxLen) (h1 : BytesAt w x1 z1) :
    Calls Tryd.prog 6 #[.string x0, x1] w (GivesBool true w) := by
  obtain ⟨x, hx, hxr, hxl⟩ := str_any x0
  unfold maxLen at h0
  have HT := Lib.hid hT
  have hX1 := h1.below ((Below.refl w.heap.size w).alloc (Nat.le_refl _) (.cells #[.string ⟨#[97]⟩, .string ⟨#[122]⟩, .string ⟨#[49]⟩, .string ⟨#[45]⟩, .string ⟨#[65]⟩, .string ⟨#[98, 57]⟩, .string ⟨#[95]⟩, .string ⟨#[46]⟩, .string ⟨#[97, 98, 99, 100, 101, 102, 103, 104, 105, 106]⟩] 9))
  have HP := Lib.hid (piecesT_any (m := 9) (by omega) (by omega) hX1 (txts_new w #[.string ⟨#[97]⟩, .string ⟨#[122]⟩, .string ⟨#[49]⟩, .string ⟨#[45]⟩, .string ⟨#[65]⟩, .string ⟨#[98, 57]⟩, .string ⟨#[95]⟩, .string ⟨#[46]⟩, .string ⟨#[97, 98, 99, 100, 101, 102, 103, 104, 105, 106]⟩] 9 9 rfl (by decide)))
  have HN1 := Lib.hid (fun W => name_text (x := x) W hxr (by omega))
  have HN2 := Lib.hid (fun W => name4_any (x := x) W hxr (by omega))
  have HB0 := Lib.hid ((Below.refl w.heap.size w).alloc (Nat.le_refl _) (.cells #[.string ⟨#[97]⟩, .string ⟨#[122]⟩, .string ⟨#[49]⟩, .string ⟨#[45]⟩, .string ⟨#[65]⟩, .string ⟨#[98, 57]⟩, .string ⟨#[95]⟩, .string ⟨#[46]⟩, .string ⟨#[97, 98, 99, 100, 101, 102, 103, 104, 105, 106]⟩] 9))
  rw [← hx] at HN1 HN2
  clear hT hX1 hx hxr hxl h1
  go_enter Tryd.func6, Tryd.ntmps6
  go_wp2_with fail
  refine HP.out.mono ?_
  rintro e w1 ⟨t, ht, rfl, hb⟩
  have HB1 := Lib.hid (below_then HB0.out hb)
  obtain ⟨y, hy, hyr, hyl⟩ := str_any t
  have HM1 := Lib.hid (fun W => name_text (x := y) W hyr (by omega))
  have HM2 := Lib.hid (fun W => name4_any (x := y) W hyr (by omega))
  rw [← hy] at HM1 HM2
  clear hb ht hy hyr hyl
  obtain ⟨P, hP⟩ : ∃ P, P = nameB x := ⟨_, rfl⟩
  obtain ⟨Q, hQ⟩ : ∃ Q, Q = nameB y := ⟨_, rfl⟩
  rw [← hP] at HN1 HN2
  rw [← hQ] at HM1 HM2
  clear hP hQ
  cases P <;> cases Q
  all_goals
    go_wp2_with fail
    refine (awake_any (HT.out.below HB1.out)).mono ?_
    rintro e w2 ⟨rfl, hb⟩
    have HB2 := Lib.hid (below_then HB1.out hb)
    clear hb
    go_wp2_with fail
    refine (HN1.out _).mono ?_
    rintro e w3 ⟨rfl, hb⟩
    have HB3 := Lib.hid (below_then HB2.out hb)
    clear hb
    go_wp2_with fail
    refine (HN2.out _).mono ?_
    rintro e w4 ⟨rfl, rfl⟩
    go_wp2_with fail
    refine (HM1.out _).mono ?_
    rintro e w5 ⟨rfl, hb⟩
    have HB5 := Lib.hid (below_then HB3.out hb)
    clear hb
    go_wp2_with fail
    refine (HM2.out _).mono ?_
    rintro e w6 ⟨rfl, rfl⟩
    go_wp2_with fail
    go_ret
    exact ⟨rfl, HB5.out⟩

set_option maxRecDepth 100000 in
set_option maxHeartbeats 1000000 in
theorem lifted (os : Os) (started : os.Started) (H : Type) (enc : TypeId × Value → H) :
    ReturnsInHanded {} Tryd.checked os 6 .any (fun w args => (Rows.tellerNamesSpec.pre enc Tryd.prog Tryd.f6 Rows.tellerNamesRow.domain false w args ∧ laidMetH Tryd.prog Rows.tellerNamesRow.laid w) ∧ sizedMet enc Tryd.prog Tryd.f6 (OpenSpec.ofChange Rows.tellerNamesSpec) false w args)
      (Rows.tellerNamesSpec.post enc Tryd.prog Tryd.f6 false true false false) := by
  refine returnsInHanded_of_change_and (C := Tryd.checked) (X := fun w _ => laidMetH Tryd.prog Rows.tellerNamesRow.laid w) (fun _ _ _ hh h => h.of_heap hh) noKnob started (by kernel_rfl) Tryd.func6
    (ChangeSpec.witness_shaped (enc := enc) (C := Tryd.checked) (os := os) (X := fun w _ => laidMetH Tryd.prog Rows.tellerNamesRow.laid w) false (World.laidAll Tryd.prog os Rows.tellerNamesRow.laid) #[.string ⟨#[]⟩, .slice none 0 0] 8 (World.laidAll_os _ _ _)
      (World.shaped_of_ZipB (by kernel_rfl) (by kernel_rfl)) (by kernel_rfl) (by kernel_rfl) (by kernel_rfl)
      (by rw [MakeChecks.laidMetH_plain _ _ _ (by kernel_rfl)]; exact laidMet_laidAll _ (by kernel_rfl) (by kernel_rfl))) ?_
  intro W base args ds gs before hval0 hW hcnd _ hL _
  have hval : ∀ (j : Nat) t v, Tryd.f6.params[j]? = some t → args[j]? = some v → Value.okWide Tryd.prog W .any base t v := hval0
  have hW' := hW
  obtain ⟨p, q, hA0, hV, rfl, hfz, hnd⟩ := hW
  have hA : DataW.TrodAll enc Tryd.prog W 0 (fun _ => true) true Tryd.f6.params.toList args.toList ds p := hA0
  rw [Tryd.params6] at hA hval
  obtain ⟨v0, vs0, d0, ds0, p0, q0, hargs, rfl, rfl, h0, r0⟩ := trodAll_cons hA
  obtain ⟨v1, vs1, d1, ds1, p1, q1, rfl, rfl, rfl, h1, r1⟩ := trodAll_cons r0
  obtain ⟨rfl, rfl, rfl⟩ := trodAll_nil r1
  obtain rfl : args = #[v0, v1] := by cases args; simp_all
  obtain ⟨rfl, rfl⟩ := trodVars_none hV
  clear hA0 hval0 hA
  simp only [List.append_nil] at hW'
  have hlt := hW'.lt
  obtain ⟨x0, rfl, rfl, rfl, b0⟩ := open_string Tryd.underlying9 (hval 0 9 v0 rfl rfl) h0
  obtain ⟨z1, b1⟩ := open_bytes (hval 1 26 v1 rfl rfl) h1
  refine (walk x0 v1 z1 W (tabs_of_laid hL (MakeChecks.laidMetH_plain _ _ _ (by kernel_rfl)) (by kernel_rfl) (by kernel_rfl)) b0 b1).mono fun e W' ⟨he, hg⟩ => ?_
  subst he
  exact ⟨_, rfl, post_of_old (pv := []) hW' (fun _ _ _ => trodAll_cons_mk (shut_bool Tryd.underlying4 _) trodAll_mk0) (trodAll_cons_mk (Below.trod laidOutP (by kernel_rfl) (of_decide_eq_true (by kernel_rfl)) h0 hg (fun x hx => by simp at hx)) (trodAll_cons_mk (Below.trod laidOutP (by kernel_rfl) (of_decide_eq_true (by kernel_rfl)) h1 hg (fun x hx => by simpa using hlt x (by simp [hx]))) (trodAll_mk0))) (fun _ => rfl) (by simp) hg⟩

theorem over : Rows.tellerNamesRow.holds Tryd.pinned (OpenSpec.ofChange Rows.tellerNamesSpec) :=
  OpenClaim.holds_of_wide 6 Tryd.f6 rfl rfl rfl rfl rfl rfl rfl ⟨rfl, rfl, rfl, rfl, rfl⟩ rfl rfl rfl rfl rfl (by kernel_rfl) Tryd.func6 (by kernel_rfl)
    (of_decide_eq_true (by kernel_rfl)) (by unfold Func.isWrapper; first | (rw [if_pos (by decide +kernel)]; kernel_rfl) | (rw [if_neg (by decide +kernel)]; exact ⟨rfl, rfl⟩))
    (fun os started H enc _ => lifted os started H enc)

/-- No parameter wants a stand-in. -/
theorem plain (f : FuncId) (fn : Func) (hf : Tryd.pinned.checked.prog.funcNamed "reglet/regletlaw04.TellerNames" = some f) (hfn : Tryd.pinned.checked.prog.funcs[f]? = some fn) :
    false = Tryd.pinned.checked.prog.looks [] ∧ ∀ (j : Nat) t, fn.params[j]? = some t → Tryd.pinned.checked.prog.wantsStandIn t = false := by
  obtain rfl : f = 6 := Option.some.inj ((show Tryd.prog.funcNamed "reglet/regletlaw04.TellerNames" = some 6 by kernel_rfl).symm.trans hf) |>.symm
  obtain rfl : fn = Tryd.f6 := (Option.some.inj (Tryd.func6.symm.trans hfn)).symm
  refine ⟨by kernel_rfl, fun j t ht => ?_⟩
  rw [Tryd.params6] at ht
  have hm : t ∈ [9, 26] := by simpa using Array.mem_of_getElem? ht
  have hall : ([9, 26].all fun u => !Tryd.prog.wantsStandIn u) = true := by kernel_rfl
  exact (show Tryd.prog.wantsStandIn t = false by simpa using List.all_eq_true.1 hall t hm)

/-- The statement. -/
theorem proved : Rows.TellerNamesCardSaid :=
  Claim7.holds_tied_plain_at .later [] _ _ _ _ over (fun _ h => by cases h) (by kernel_rfl) (fun _ h => by cases h) tellerNames_row_tie rfl ⟨rfl, rfl⟩ (by kernel_rfl) rfl plain (by kernel_rfl)

#print axioms proved
end Go.Proofs.YtblaeoajcigidaaDoor.tellerNames
