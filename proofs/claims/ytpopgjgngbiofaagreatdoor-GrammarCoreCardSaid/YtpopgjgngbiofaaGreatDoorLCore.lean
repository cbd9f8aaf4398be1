/- GrammarCore is true for every text and every byte, without any condition: the core rules are the document's, and which is the one of a name, and what one comes to. -/
import Derived.Test.YtpopgjgngbiofaaGreatDoorM0
import Derived.Test.YtpopgjgngbiofaaGreatDoorM1
import Derived.Test.YtpopgjgngbiofaaGreatDoorM2
import Derived.Test.YtpopgjgngbiofaaGreatDoorM3
import Derived.Test.YtpopgjgngbiofaaGreatDoorM4
import Derived.Test.YtpopgjgngbiofaaGreatDoorM5
import Derived.Test.YtpopgjgngbiofaaGreatDoorM6
import Derived.Test.YtpopgjgngbiofaaGreatDoorM7
import Derived.Test.YtpopgjgngbiofaaGreatDoorM8
import Derived.Test.YtpopgjgngbiofaaGreatDoorM9
import Derived.Test.YtpopgjgngbiofaaGreatDoorM10
import Derived.Test.YtpopgjgngbiofaaGreatDoorM11
import Derived.Test.YtpopgjgngbiofaaGreatDoorM12
import Derived.Test.YtpopgjgngbiofaaGreatDoorM13
import Derived.Test.YtpopgjgngbiofaaGreatDoorM14
import Derived.Test.YtpopgjgngbiofaaGreatDoorM15
import Derived.Test.YtpopgjgngbiofaaGreatDoorM16
import Derived.Test.YtpopgjgngbiofaaGreatDoorM17
import Derived.Test.YtpopgjgngbiofaaGreatDoorM18
import Derived.Test.YtpopgjgngbiofaaGreatDoorM19
import Derived.Test.YtpopgjgngbiofaaGreatDoorM20
import Derived.Test.YtpopgjgngbiofaaGreatDoorM21
import Derived.Test.YtpopgjgngbiofaaGreatDoorM22
import Derived.Test.YtpopgjgngbiofaaGreatDoorM23
import Derived.Test.YtpopgjgngbiofaaGreatDoorM24
import Derived.Test.YtpopgjgngbiofaaGreatDoorM25
import Derived.Test.YtpopgjgngbiofaaGreatDoorM26
import Derived.Test.YtpopgjgngbiofaaGreatDoorM27
import Derived.Test.YtpopgjgngbiofaaGreatDoorM28
import Derived.Test.YtpopgjgngbiofaaGreatDoorM29
import Derived.Test.YtpopgjgngbiofaaGreatDoorM30
import Derived.Test.YtpopgjgngbiofaaGreatDoorM31
import Derived.Test.YtpopgjgngbiofaaGreatDoorM32
import Derived.Test.YtpopgjgngbiofaaGreatDoorM33
import Derived.Test.YtpopgjgngbiofaaGreatDoorM34
import Derived.Test.YtpopgjgngbiofaaGreatDoorM35
import Derived.Test.YtpopgjgngbiofaaGreatDoorM36
import Derived.Test.YtpopgjgngbiofaaGreatDoorM37
import Derived.Test.YtpopgjgngbiofaaGreatDoorK0
import Derived.Test.YtpopgjgngbiofaaGreatDoorK1
import Derived.Test.YtpopgjgngbiofaaGreatDoorK2
import Derived.Test.YtpopgjgngbiofaaGreatDoorK3
namespace Go.Proofs.YtpopgjgngbiofaaGreatDoor.grammarCore
open Go.ChangeShapes Go.WideShapes Go.ChangeAt Go.RowKit Go.Proofs.YtpopgjgngbiofaaGreatDoor
open Go.ChangeMaps (open_string shut_string)
set_option linter.unusedVariables false
set_option linter.unusedSimpArgs false


set_option maxRecDepth 100000 in
set_option maxHeartbeats 8000000 in
theorem walk (x0 : ByteArray) (x1 : Int) (w : World) (hT : Tabs w) (h0 : x0.size ≤ maxLen) (h1 : 0 ≤ x1 ∧ x1 ≤ 255) :
    Calls Tryz.prog 3 #[.string x0, .int .u8 x1] w (GivesBool true w) := by
  exact coreW_any hT h0 h1
set_option maxRecDepth 100000 in
set_option maxHeartbeats 1000000 in
theorem lifted (os : Os) (started : os.Started) (H : Type) (enc : TypeId × Value → H) :
    ReturnsInHanded {} Tryz.checked os 3 .any (fun w args => (Rows.grammarCoreSpec.pre enc Tryz.prog Tryz.f3 Rows.grammarCoreRow.domain false w args ∧ laidMetH Tryz.prog Rows.grammarCoreRow.laid w) ∧ sizedMet enc Tryz.prog Tryz.f3 (OpenSpec.ofChange Rows.grammarCoreSpec) false w args)
      (Rows.grammarCoreSpec.post enc Tryz.prog Tryz.f3 false true false false) := by
  refine returnsInHanded_of_change_and (C := Tryz.checked) (X := fun w _ => laidMetH Tryz.prog Rows.grammarCoreRow.laid w) (fun _ _ _ hh h => h.of_heap hh) noKnob started (by kernel_rfl) Tryz.func3
    (ChangeSpec.witness_shaped (enc := enc) (C := Tryz.checked) (os := os) (X := fun w _ => laidMetH Tryz.prog Rows.grammarCoreRow.laid w) false (World.laidAll Tryz.prog os Rows.grammarCoreRow.laid) #[.string ⟨#[]⟩, .int .u8 0] 8 (World.laidAll_os _ _ _)
      (World.shaped_of_ZipB (by kernel_rfl) (by kernel_rfl)) (by kernel_rfl) (by kernel_rfl) (by kernel_rfl)
      (by rw [MakeChecks.laidMetH_plain _ _ _ (by kernel_rfl)]; exact laidMet_laidAll _ (by kernel_rfl) (by kernel_rfl))) ?_
  intro W base args ds gs before hval0 hW hcnd _ hL _
  have hval : ∀ (j : Nat) t v, Tryz.f3.params[j]? = some t → args[j]? = some v → Value.okWide Tryz.prog W .any base t v := hval0
  have hW' := hW
  obtain ⟨p, q, hA0, hV, rfl, hfz, hnd⟩ := hW
  have hA : DataW.TrodAll enc Tryz.prog W 0 (fun _ => true) true Tryz.f3.params.toList args.toList ds p := hA0
  rw [Tryz.params3] at hA hval
  obtain ⟨v0, vs0, d0, ds0, p0, q0, hargs, rfl, rfl, h0, r0⟩ := trodAll_cons hA
  obtain ⟨v1, vs1, d1, ds1, p1, q1, rfl, rfl, rfl, h1, r1⟩ := trodAll_cons r0
  obtain ⟨rfl, rfl, rfl⟩ := trodAll_nil r1
  obtain rfl : args = #[v0, v1] := by cases args; simp_all
  obtain ⟨rfl, rfl⟩ := trodVars_none hV
  clear hA0 hval0 hA
  simp only [List.append_nil] at hW'
  have hlt := hW'.lt
  obtain ⟨x0, rfl, rfl, rfl, b0⟩ := open_string Tryz.underlying9 (hval 0 9 v0 rfl rfl) h0
  obtain ⟨x1, rfl, rfl, rfl, w1⟩ := open_int Tryz.underlying5 (hval 1 5 v1 rfl rfl) h1
  have b1 := bounds_u8 w1
  refine (walk x0 x1 W (tabs_of_laid hL (MakeChecks.laidMetH_plain _ _ _ (by kernel_rfl)) (by kernel_rfl) (by kernel_rfl)) b0 b1).mono fun e W' ⟨he, hg⟩ => ?_
  subst he
  exact ⟨_, rfl, post_of_old (pv := []) hW' (fun _ _ _ => trodAll_cons_mk (shut_bool Tryz.underlying4 _) trodAll_mk0) (trodAll_cons_mk (Below.trod laidOutP (by kernel_rfl) (of_decide_eq_true (by kernel_rfl)) h0 hg (fun x hx => by simp at hx)) (trodAll_cons_mk (Below.trod laidOutP (by kernel_rfl) (of_decide_eq_true (by kernel_rfl)) h1 hg (fun x hx => by simp at hx)) (trodAll_mk0))) (fun _ => rfl) (by simp) hg⟩

theorem over : Rows.grammarCoreRow.holds Tryz.pinned (OpenSpec.ofChange Rows.grammarCoreSpec) :=
  OpenClaim.holds_of_wide 3 Tryz.f3 rfl rfl rfl rfl rfl rfl rfl ⟨rfl, rfl, rfl, rfl, rfl⟩ rfl rfl rfl rfl rfl (by kernel_rfl) Tryz.func3 (by kernel_rfl)
    (of_decide_eq_true (by kernel_rfl)) (by unfold Func.isWrapper; first | (rw [if_pos (by decide +kernel)]; kernel_rfl) | (rw [if_neg (by decide +kernel)]; exact ⟨rfl, rfl⟩))
    (fun os started H enc _ => lifted os started H enc)

/-- No parameter wants a stand-in. -/
theorem plain (f : FuncId) (fn : Func) (hf : Tryz.pinned.checked.prog.funcNamed "reglet/regletlaw05.GrammarCore" = some f) (hfn : Tryz.pinned.checked.prog.funcs[f]? = some fn) :
    true = Tryz.pinned.checked.prog.looks [] ∧ ∀ (j : Nat) t, fn.params[j]? = some t → Tryz.pinned.checked.prog.wantsStandIn t = false := by
  obtain rfl : f = 3 := Option.some.inj ((show Tryz.prog.funcNamed "reglet/regletlaw05.GrammarCore" = some 3 by kernel_rfl).symm.trans hf) |>.symm
  obtain rfl : fn = Tryz.f3 := (Option.some.inj (Tryz.func3.symm.trans hfn)).symm
  refine ⟨by kernel_rfl, fun j t ht => ?_⟩
  rw [Tryz.params3] at ht
  have hm : t ∈ [9, 5] := by simpa using Array.mem_of_getElem? ht
  have hall : ([9, 5].all fun u => !Tryz.prog.wantsStandIn u) = true := by kernel_rfl
  exact (show Tryz.prog.wantsStandIn t = false by simpa using List.all_eq_true.1 hall t hm)

/-- The statement. -/
theorem proved : Rows.GrammarCoreCardSaid :=
  Claim7.holds_tied_plain_at .later [] _ _ _ _ over (fun _ h => by cases h) (by kernel_rfl) (fun _ h => by cases h) grammarCore_row_tie rfl ⟨rfl, rfl⟩ (by kernel_rfl) rfl plain (by kernel_rfl)

#print axioms proved
end Go.Proofs.YtpopgjgngbiofaaGreatDoor.grammarCore
