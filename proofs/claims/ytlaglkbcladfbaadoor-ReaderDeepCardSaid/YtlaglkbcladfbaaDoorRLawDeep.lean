/- ReaderDeep is true for all numbers, without any condition: the program's rules of what stands in one another very deeply, and of long names and numbers, are the document's, or both refuse it with the same error. -/
import Derived.Test.YtlaglkbcladfbaaDoorRAwake
import Derived.Test.YtlaglkbcladfbaaDoorYSame
namespace Go.Proofs.YtlaglkbcladfbaaDoor.readerDeep
open Go.ChangeShapes Go.WideShapes Go.ChangeAt Go.RowKit Go.Proofs.YtlaglkbcladfbaaDoor
open Go.ChangeMaps (open_string shut_string)
set_option linter.unusedVariables false
set_option linter.unusedSimpArgs false

/-- A text out of a list of texts that was just made. -/
theorem pick_new (W : World) (cs : Array Value) (t : TypeId) (j n : Nat) (hj : j < cs.size) (h : ∀ v ∈ cs.toList, ∃ s : ByteArray, v = .string s ∧ s.size ≤ n) :
    ∃ s : ByteArray, (W.alloc (.cells cs t)).cell? ⟨W.heap.size, j, none⟩ = some (.string s) ∧ cs[j]? = some (.string s) ∧ s.size ≤ n := by
  have hc : cs[j]? = some cs[j] := Array.getElem?_eq_getElem hj
  obtain ⟨s, hs, hl⟩ := h cs[j] (by simp)
  refine ⟨s, ?_, by rw [hc, hs], hl⟩
  rw [← hs, ← hc]
  have := heap_alloc_new W (.cells cs t)
  simp only [World.cell?, this]
  rfl


set_option maxRecDepth 100000 in
set_option maxHeartbeats 8000000 in
theorem walk (x0 : Int) (x1 : Int) (w : World) (h0 : 0 ≤ x0 ∧ x0 ≤ 255) (h1 : 0 ≤ x1 ∧ x1 ≤ 255) :
    Calls Tryd.prog 5 #[.int .u8 x0, .int .u8 x1] w (GivesBool true w) := by
  obtain ⟨a0, a1⟩ := h0
  obtain ⟨b0, b1⟩ := h1
  have HB0 := Lib.hid (Below.refl w.heap.size w)
  obtain ⟨K, hK⟩ : ∃ K, 35 + x0 % 26 = K := ⟨_, rfl⟩
  have hK0 : 35 ≤ K := by omega
  have hK1 : K ≤ 60 := by omega
  go_enter Tryd.func5, Tryd.ntmps5
  go_wp2_with fail
  refine (many_any _ _ _ (by decide) (by omega) (by omega)).mono ?_
  rintro e w1 ⟨T1, hT1, rfl, hb⟩
  have HC1 := Lib.hid (below_then HB0.out hb)
  clear hb
  go_wp2_with fail
  refine (many_any _ _ _ (by decide) (by omega) (by omega)).mono ?_
  rintro e w2 ⟨T2, hT2, rfl, hb⟩
  have HC2 := Lib.hid (below_then HC1.out hb)
  clear hb
  go_wp2_with fail
  refine (many_any _ _ _ (by decide) (by omega) (by omega)).mono ?_
  rintro e w3 ⟨T3, hT3, rfl, hb⟩
  have HC3 := Lib.hid (below_then HC2.out hb)
  clear hb
  go_wp2_with fail
  refine (many_any _ _ _ (by decide) (by omega) (by omega)).mono ?_
  rintro e w4 ⟨T4, hT4, rfl, hb⟩
  have HC4 := Lib.hid (below_then HC3.out hb)
  clear hb
  go_wp2_with fail
  refine (many_any _ _ _ (by decide) (by omega) (by omega)).mono ?_
  rintro e w5 ⟨T5, hT5, rfl, hb⟩
  have HC5 := Lib.hid (below_then HC4.out hb)
  clear hb
  go_wp2_with fail
  refine (many_any _ _ _ (by decide) (by omega) (by omega)).mono ?_
  rintro e w6 ⟨T6, hT6, rfl, hb⟩
  have HC6 := Lib.hid (below_then HC5.out hb)
  clear hb
  go_wp2_with fail
  refine (many_any _ _ _ (by decide) (by omega) (by omega)).mono ?_
  rintro e w7 ⟨T7, hT7, rfl, hb⟩
  have HC7 := Lib.hid (below_then HC6.out hb)
  clear hb
  go_wp2_with fail
  refine (many_any _ _ _ (by decide) (by omega) (by omega)).mono ?_
  rintro e w8 ⟨T8, hT8, rfl, hb⟩
  have HC8 := Lib.hid (below_then HC7.out hb)
  clear hb
  go_wp2_with fail
  refine (many_any _ _ _ (by decide) (by omega) (by omega)).mono ?_
  rintro e w9 ⟨T9, hT9, rfl, hb⟩
  have HC9 := Lib.hid (below_then HC8.out hb)
  clear hb
  go_wp2_with fail
  refine (many_any _ _ _ (by decide) (by omega) (by omega)).mono ?_
  rintro e w10 ⟨T10, hT10, rfl, hb⟩
  have HC10 := Lib.hid (below_then HC9.out hb)
  clear hb
  go_wp2_with fail
  refine (many_any _ _ _ (by decide) (by omega) (by omega)).mono ?_
  rintro e w11 ⟨T11, hT11, rfl, hb⟩
  have HC11 := Lib.hid (below_then HC10.out hb)
  clear hb
  go_wp2_with fail
  refine (many_any _ _ _ (by decide) (by omega) (by omega)).mono ?_
  rintro e w12 ⟨T12, hT12, rfl, hb⟩
  have HC12 := Lib.hid (below_then HC11.out hb)
  clear hb
  go_wp2_with fail
  refine (many_any _ _ _ (by decide) (by omega) (by omega)).mono ?_
  rintro e w13 ⟨T13, hT13, rfl, hb⟩
  have HC13 := Lib.hid (below_then HC12.out hb)
  clear hb
  have hj0 : 0 ≤ x1 % 10 := by omega
  have hj1 : x1 % 10 < 10 := by omega
  obtain ⟨U, hU, hU2, hUl⟩ := pick_new w13 #[.string ((T1 ++ ⟨#[97]⟩) ++ T2), .string ((T3 ++ ⟨#[97]⟩) ++ T4), .string ((T5 ++ ⟨#[97]⟩) ++ T6), .string T7, .string ((⟨#[37, 120]⟩ ++ T8) ++ ⟨#[52, 49]⟩), .string (T9 ++ ⟨#[53, 97]⟩), .string (⟨#[37, 100]⟩ ++ T10), .string (⟨#[37, 120, 48]⟩ ++ T11), .string T12, .string (T13 ++ ⟨#[97]⟩)] 9 (x1 % 10).toNat 1300 (by show (x1 % 10).toNat < 10; omega) (by
    intro v hv
    simp at hv
    have l1 : (⟨#[42]⟩ : ByteArray).size = 1 := rfl
    have l2 : (⟨#[32, 42]⟩ : ByteArray).size = 2 := rfl
    have l3 : (⟨#[97]⟩ : ByteArray).size = 1 := rfl
    have l4 : (⟨#[37, 120]⟩ : ByteArray).size = 2 := rfl
    have l5 : (⟨#[52, 49]⟩ : ByteArray).size = 2 := rfl
    have l6 : (⟨#[53, 97]⟩ : ByteArray).size = 2 := rfl
    have l7 : (⟨#[37, 100]⟩ : ByteArray).size = 2 := rfl
    have l8 : (⟨#[37, 120, 48]⟩ : ByteArray).size = 3 := rfl
    rcases hv with rfl | rfl | rfl | rfl | rfl | rfl | rfl | rfl | rfl | rfl
    all_goals refine ⟨_, rfl, ?_⟩
    all_goals try simp only [ByteArray.size_append]
    all_goals omega)
  have HB1 := Lib.hid (below_new HC13.out (.cells #[.string ((T1 ++ ⟨#[97]⟩) ++ T2), .string ((T3 ++ ⟨#[97]⟩) ++ T4), .string ((T5 ++ ⟨#[97]⟩) ++ T6), .string T7, .string ((⟨#[37, 120]⟩ ++ T8) ++ ⟨#[52, 49]⟩), .string (T9 ++ ⟨#[53, 97]⟩), .string (⟨#[37, 100]⟩ ++ T10), .string (⟨#[37, 120, 48]⟩ ++ T11), .string T12, .string (T13 ++ ⟨#[97]⟩)] 9))
  have HS := Lib.hid (show (((⟨#[114, 32, 61, 32]⟩ : ByteArray) ++ U) ++ ⟨#[10]⟩).size ≤ maxLen by simp only [ByteArray.size_append]; unfold maxLen; show 4 + U.size + 1 ≤ _; omega)
  go_wp2_with fail
  refine (awake_any _).mono ?_
  rintro e wa ⟨rfl, hba⟩
  have HBA := Lib.hid (below_then HB1.out hba)
  clear hba hU hU2
  go_wp2_with fail
  refine (same_text _ _ HS.out).mono ?_
  rintro e w14 ⟨rfl, hb⟩
  have HB14 := Lib.hid (below_then HBA.out hb)
  clear hb
  go_wp2_with fail
  go_ret
  exact ⟨rfl, HB14.out⟩
  

set_option maxRecDepth 100000 in
set_option maxHeartbeats 1000000 in
theorem lifted (os : Os) (started : os.Started) (H : Type) (enc : TypeId × Value → H) :
    ReturnsInHanded {} Tryd.checked os 5 .any (fun w args => (Rows.readerDeepSpec.pre enc Tryd.prog Tryd.f5 Rows.readerDeepRow.domain false w args ∧ laidMetH Tryd.prog Rows.readerDeepRow.laid w) ∧ sizedMet enc Tryd.prog Tryd.f5 (OpenSpec.ofChange Rows.readerDeepSpec) false w args)
      (Rows.readerDeepSpec.post enc Tryd.prog Tryd.f5 false true false false) := by
  refine returnsInHanded_of_change_and (C := Tryd.checked) (X := fun w _ => laidMetH Tryd.prog Rows.readerDeepRow.laid w) (fun _ _ _ hh h => h.of_heap hh) noKnob started (by kernel_rfl) Tryd.func5
    (ChangeSpec.witness_shaped (enc := enc) (C := Tryd.checked) (os := os) (X := fun w _ => laidMetH Tryd.prog Rows.readerDeepRow.laid w) false (World.laidAll Tryd.prog os Rows.readerDeepRow.laid) #[.int .u8 0, .int .u8 0] 8 (World.laidAll_os _ _ _)
      (World.shaped_of_ZipB (by kernel_rfl) (by kernel_rfl)) (by kernel_rfl) (by kernel_rfl) (by kernel_rfl)
      (by rw [MakeChecks.laidMetH_plain _ _ _ (by kernel_rfl)]; exact laidMet_laidAll _ (by kernel_rfl) (by kernel_rfl))) ?_
  intro W base args ds gs before hval0 hW hcnd _ hL _
  have hval : ∀ (j : Nat) t v, Tryd.f5.params[j]? = some t → args[j]? = some v → Value.okWide Tryd.prog W .any base t v := hval0
  have hW' := hW
  obtain ⟨p, q, hA0, hV, rfl, hfz, hnd⟩ := hW
  have hA : DataW.TrodAll enc Tryd.prog W 0 (fun _ => true) true Tryd.f5.params.toList args.toList ds p := hA0
  rw [Tryd.params5] at hA hval
  obtain ⟨v0, vs0, d0, ds0, p0, q0, hargs, rfl, rfl, h0, r0⟩ := trodAll_cons hA
  obtain ⟨v1, vs1, d1, ds1, p1, q1, rfl, rfl, rfl, h1, r1⟩ := trodAll_cons r0
  obtain ⟨rfl, rfl, rfl⟩ := trodAll_nil r1
  obtain rfl : args = #[v0, v1] := by cases args; simp_all
  obtain ⟨rfl, rfl⟩ := trodVars_none hV
  clear hA0 hval0 hA
  simp only [List.append_nil] at hW'
  have hlt := hW'.lt
  obtain ⟨x0, rfl, rfl, rfl, w0⟩ := open_int Tryd.underlying5 (hval 0 5 v0 rfl rfl) h0
  have b0 := bounds_u8 w0
  obtain ⟨x1, rfl, rfl, rfl, w1⟩ := open_int Tryd.underlying5 (hval 1 5 v1 rfl rfl) h1
  have b1 := bounds_u8 w1
  refine (walk x0 x1 W b0 b1).mono fun e W' ⟨he, hg⟩ => ?_
  subst he
  exact ⟨_, rfl, post_of_old (pv := []) hW' (fun _ _ _ => trodAll_cons_mk (shut_bool Tryd.underlying4 _) trodAll_mk0) (trodAll_cons_mk (Below.trod laidOutP (by kernel_rfl) (of_decide_eq_true (by kernel_rfl)) h0 hg (fun x hx => by simp at hx)) (trodAll_cons_mk (Below.trod laidOutP (by kernel_rfl) (of_decide_eq_true (by kernel_rfl)) h1 hg (fun x hx => by simp at hx)) (trodAll_mk0))) (fun _ => rfl) (by simp) hg⟩

theorem over : Rows.readerDeepRow.holds Tryd.pinned (OpenSpec.ofChange Rows.readerDeepSpec) :=
  OpenClaim.holds_of_wide 5 Tryd.f5 rfl rfl rfl rfl rfl rfl rfl ⟨rfl, rfl, rfl, rfl, rfl⟩ rfl rfl rfl rfl rfl (by kernel_rfl) Tryd.func5 (by kernel_rfl)
    (of_decide_eq_true (by kernel_rfl)) (by unfold Func.isWrapper; first | (rw [if_pos (by decide +kernel)]; kernel_rfl) | (rw [if_neg (by decide +kernel)]; exact ⟨rfl, rfl⟩))
    (fun os started H enc _ => lifted os started H enc)

/-- No parameter wants a stand-in. -/
theorem plain (f : FuncId) (fn : Func) (hf : Tryd.pinned.checked.prog.funcNamed "reglet/regletlaw03.ReaderDeep" = some f) (hfn : Tryd.pinned.checked.prog.funcs[f]? = some fn) :
    true = Tryd.pinned.checked.prog.looks [] ∧ ∀ (j : Nat) t, fn.params[j]? = some t → Tryd.pinned.checked.prog.wantsStandIn t = false := by
  obtain rfl : f = 5 := Option.some.inj ((show Tryd.prog.funcNamed "reglet/regletlaw03.ReaderDeep" = some 5 by kernel_rfl).symm.trans hf) |>.symm
  obtain rfl : fn = Tryd.f5 := (Option.some.inj (Tryd.func5.symm.trans hfn)).symm
  refine ⟨by kernel_rfl, fun j t ht => ?_⟩
  rw [Tryd.params5] at ht
  have hm : t ∈ [5, 5] := by simpa using Array.mem_of_getElem? ht
  have hall : ([5, 5].all fun u => !Tryd.prog.wantsStandIn u) = true := by kernel_rfl
  exact (show Tryd.prog.wantsStandIn t = false by simpa using List.all_eq_true.1 hall t hm)

/-- The statement. -/
theorem proved : Rows.ReaderDeepCardSaid :=
  Claim7.holds_tied_plain_at .later [] _ _ _ _ over (fun _ h => by cases h) (by kernel_rfl) (fun _ h => by cases h) readerDeep_row_tie rfl ⟨rfl, rfl⟩ (by kernel_rfl) rfl plain (by kernel_rfl)

#print axioms proved
end Go.Proofs.YtlaglkbcladfbaaDoor.readerDeep
