/- TellerBack is true for every list of bytes, without any condition: what is told of rules by numbers is read as it was. -/
import Derived.Test.YtddbaacibdmnaaaGreatDoorTZC
import Derived.Test.YtddbaacibdmnaaaGreatDoorTZA
import Derived.Test.YtddbaacibdmnaaaGreatDoorTZB
namespace Go.Proofs.YtddbaacibdmnaaaGreatDoor.tellerBack
open Go.ChangeShapes Go.WideShapes Go.ChangeAt Go.RowKit Go.Proofs.YtddbaacibdmnaaaGreatDoor
open Go.ChangeMaps (open_string shut_string)
set_option linter.unusedVariables false
set_option linter.unusedSimpArgs false

theorem low_of {w : World} {v : Value} {zs : List Int} (h : BytesAt w v zs) : BytesLow w w.heap.size v zs := by
  obtain ⟨a, cap, h1, h2, h3, h4, h5⟩ := h
  exact ⟨a, cap, h1, h2, h3, h4, fun hn => by
    obtain ⟨b, off, e1, e2, e3⟩ := h5 hn
    exact ⟨b, off, e1, e2, e3⟩⟩


set_option maxRecDepth 100000 in
set_option maxHeartbeats 8000000 in
theorem walk (x0 : Value) (z0 : List Int) (w : World) (hT : Tabs w) (h0 : BytesAt w x0 z0) :
    Calls Tryz.prog 3 #[x0] w (GivesBool true w) := by
  have HT := Lib.hid hT
  have H0 := Lib.hid h0
  clear hT h0
  go_enter Tryz.func3, Tryz.ntmps3
  go_wp2_with fail
  refine (awake_any HT.out).mono ?_
  rintro e w1 ⟨rfl, hb1⟩
  have HB1 := Lib.hid hb1
  have HMADE := Lib.hid (made_any (low_of (H0.out.below hb1)))
  clear hb1
  go_wp2_with fail
  refine HMADE.out.mono ?_
  rintro e w2 ⟨v, l, ys, rfl, hlt, hl1, hl5, hml, hb2⟩
  have HB2 := Lib.hid (below_then HB1.out hb2)
  have HLA := Lib.hid hlt.at.reads
  have HANS := Lib.hid (fun r (h : Answer _ r) => made_answer hml hl5 h)
  have hlen := made_len hml hl5
  have HTELL := Lib.hid (tell_any (hlt.lines hml) (HT.out.below HB2.out) (fun _ => by omega))
  have htv : tellV l = .tuple #[.string (strOf ((l.map lineT).flatten)), .int .i64 0] := by unfold tellV; rw [if_pos (made_right hml)]
  have HTV := Lib.hid htv
  have hsz : (strOf ((l.map lineT).flatten)).size ≤ maxLen := by rw [strOf_size]; unfold maxLen; omega
  obtain ⟨S, hS⟩ : ∃ S, S = strOf ((l.map lineT).flatten) := ⟨_, rfl⟩
  rw [← hS] at HANS HTV hsz
  have HSZ := Lib.hid hsz
  clear hlt hl1 hl5 hml hb2 hlen htv hsz hS
  go_wp2_with fail
  refine HTELL.out.mono ?_
  rintro e w3 ⟨rfl, hb3⟩
  rw [HTV.out]
  have HB3 := Lib.hid (below_then HB2.out hb3)
  have HLA3 := Lib.hid (HLA.out.under hb3)
  clear hb3
  go_wp2_with fail
  refine (yread_any S w3 HSZ.out).mono ?_
  rintro e w4 ⟨r, hr, hb4, hv⟩
  obtain ⟨q, rfl⟩ := HANS.out r hr
  obtain ⟨u, rfl, hlu⟩ := hv
  have HB4 := Lib.hid (below_then HB3.out hb4)
  have HS := Lib.hid (sameL_any hlu.reads (HLA3.out.under hb4))
  clear hr hb4 hlu
  go_wp2_with fail
  refine HS.out.mono ?_
  rintro e w5 ⟨rfl, hb5⟩
  have HB5 := Lib.hid (below_then HB4.out hb5)
  clear hb5
  go_wp2_with fail
  go_ret
  exact ⟨rfl, HB5.out⟩

set_option maxRecDepth 100000 in
set_option maxHeartbeats 1000000 in
theorem lifted (os : Os) (started : os.Started) (H : Type) (enc : TypeId × Value → H) :
    ReturnsInHanded {} Tryz.checked os 3 .any (fun w args => (Rows.tellerBackSpec.pre enc Tryz.prog Tryz.f3 Rows.tellerBackRow.domain false w args ∧ laidMetH Tryz.prog Rows.tellerBackRow.laid w) ∧ sizedMet enc Tryz.prog Tryz.f3 (OpenSpec.ofChange Rows.tellerBackSpec) false w args)
      (Rows.tellerBackSpec.post enc Tryz.prog Tryz.f3 false true false false) := by
  refine returnsInHanded_of_change_and (C := Tryz.checked) (X := fun w _ => laidMetH Tryz.prog Rows.tellerBackRow.laid w) (fun _ _ _ hh h => h.of_heap hh) noKnob started (by kernel_rfl) Tryz.func3
    (ChangeSpec.witness_shaped (enc := enc) (C := Tryz.checked) (os := os) (X := fun w _ => laidMetH Tryz.prog Rows.tellerBackRow.laid w) false (World.laidAll Tryz.prog os Rows.tellerBackRow.laid) #[.slice none 0 0] 8 (World.laidAll_os _ _ _)
      (World.shaped_of_ZipB (by kernel_rfl) (by kernel_rfl)) (by kernel_rfl) (by kernel_rfl) (by kernel_rfl)
      (by rw [MakeChecks.laidMetH_plain _ _ _ (by kernel_rfl)]; exact laidMet_laidAll _ (by kernel_rfl) (by kernel_rfl))) ?_
  intro W base args ds gs before hval0 hW hcnd _ hL _
  have hval : ∀ (j : Nat) t v, Tryz.f3.params[j]? = some t → args[j]? = some v → Value.okWide Tryz.prog W .any base t v := hval0
  have hW' := hW
  obtain ⟨p, q, hA0, hV, rfl, hfz, hnd⟩ := hW
  have hA : DataW.TrodAll enc Tryz.prog W 0 (fun _ => true) true Tryz.f3.params.toList args.toList ds p := hA0
  rw [Tryz.params3] at hA hval
  obtain ⟨v0, vs0, d0, ds0, p0, q0, hargs, rfl, rfl, h0, r0⟩ := trodAll_cons hA
  obtain ⟨rfl, rfl, rfl⟩ := trodAll_nil r0
  obtain rfl : args = #[v0] := by cases args; simp_all
  obtain ⟨rfl, rfl⟩ := trodVars_none hV
  clear hA0 hval0 hA
  simp only [List.append_nil] at hW'
  have hlt := hW'.lt
  obtain ⟨z0, b0⟩ := open_bytes (hval 0 22 v0 rfl rfl) h0
  refine (walk v0 z0 W (tabs_of_laid hL (MakeChecks.laidMetH_plain _ _ _ (by kernel_rfl)) (by kernel_rfl) (by kernel_rfl)) b0).mono fun e W' ⟨he, hg⟩ => ?_
  subst he
  exact ⟨_, rfl, post_of_old (pv := []) hW' (fun _ _ _ => trodAll_cons_mk (shut_bool Tryz.underlying4 _) trodAll_mk0) (trodAll_cons_mk (Below.trod laidOutP (by kernel_rfl) (of_decide_eq_true (by kernel_rfl)) h0 hg (fun x hx => by simpa using hlt x (by simp [hx]))) (trodAll_mk0)) (fun _ => rfl) (by simp) hg⟩

theorem over : Rows.tellerBackRow.holds Tryz.pinned (OpenSpec.ofChange Rows.tellerBackSpec) :=
  OpenClaim.holds_of_wide 3 Tryz.f3 rfl rfl rfl rfl rfl rfl rfl ⟨rfl, rfl, rfl, rfl, rfl⟩ rfl rfl rfl rfl rfl (by kernel_rfl) Tryz.func3 (by kernel_rfl)
    (of_decide_eq_true (by kernel_rfl)) (by unfold Func.isWrapper; first | (rw [if_pos (by decide +kernel)]; kernel_rfl) | (rw [if_neg (by decide +kernel)]; exact ⟨rfl, rfl⟩))
    (fun os started H enc _ => lifted os started H enc)

/-- No parameter wants a stand-in. -/
theorem plain (f : FuncId) (fn : Func) (hf : Tryz.pinned.checked.prog.funcNamed "reglet/regletlaw04.TellerBack" = some f) (hfn : Tryz.pinned.checked.prog.funcs[f]? = some fn) :
    false = Tryz.pinned.checked.prog.looks [] ∧ ∀ (j : Nat) t, fn.params[j]? = some t → Tryz.pinned.checked.prog.wantsStandIn t = false := by
  obtain rfl : f = 3 := Option.some.inj ((show Tryz.prog.funcNamed "reglet/regletlaw04.TellerBack" = some 3 by kernel_rfl).symm.trans hf) |>.symm
  obtain rfl : fn = Tryz.f3 := (Option.some.inj (Tryz.func3.symm.trans hfn)).symm
  refine ⟨by kernel_rfl, fun j t ht => ?_⟩
  rw [Tryz.params3] at ht
  have hm : t ∈ [22] := by simpa using Array.mem_of_getElem? ht
  have hall : ([22].all fun u => !Tryz.prog.wantsStandIn u) = true := by kernel_rfl
  exact (show Tryz.prog.wantsStandIn t = false by simpa using List.all_eq_true.1 hall t hm)

/-- The statement. -/
theorem proved : Rows.TellerBackCardSaid :=
  Claim7.holds_tied_plain_at .later [] _ _ _ _ over (fun _ h => by cases h) (by kernel_rfl) (fun _ h => by cases h) tellerBack_row_tie rfl ⟨rfl, rfl⟩ (by kernel_rfl) rfl plain (by kernel_rfl)

#print axioms proved
end Go.Proofs.YtddbaacibdmnaaaGreatDoor.tellerBack
