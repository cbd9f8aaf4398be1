/- ReaderRepeats is true for all numbers, without any condition: the program's rules of what stands so often are the document's, or both refuse it with the same error. -/
import Derived.Test.YtlaglkbcladfbaaDoorRAwake
import Derived.Test.YtlaglkbcladfbaaDoorYSame
namespace Go.Proofs.YtlaglkbcladfbaaDoor.readerRepeats
open Go.ChangeShapes Go.WideShapes Go.ChangeAt Go.RowKit Go.Proofs.YtlaglkbcladfbaaDoor
open Go.ChangeMaps (open_string shut_string)
set_option linter.unusedVariables false
set_option linter.unusedSimpArgs false

/-- A text out of a list of texts that was just made. -/
theorem pick_new (W : World) (cs : Array Value) (t : TypeId) (j n : Nat) (hj : j < cs.size) (h : ∀ v ∈ cs.toList, ∃ s : ByteArray, v = .string s ∧ s.size ≤ n) :
    ∃ s : ByteArray, (W.alloc (.cells cs t)).cell? ⟨W.heap.size, j, none⟩ = some (.string s) ∧ cs[j]? = some (.string s) ∧ s.size ≤ n := by
  have hc : cs[j]? = some cs[j] := Array.getElem?_eq_getElem hj
  obtain ⟨s, hs, hl⟩ := h cs[j] (by simp)
  refine ⟨s, ?_, by rw [hc, hs], hl⟩
  rw [← hs, ← hc]
  have := heap_alloc_new W (.cells cs t)
  simp only [World.cell?, this]
  rfl


set_option maxRecDepth 100000 in
set_option maxHeartbeats 8000000 in
theorem walk (x0 : Int) (x1 : Int) (x2 : Int) (w : World) (h0 : 0 ≤ x0 ∧ x0 ≤ 65535) (h1 : 0 ≤ x1 ∧ x1 ≤ 65535) (h2 : 0 ≤ x2 ∧ x2 ≤ 255) :
    Calls Tryd.prog 7 #[.int .u16 x0, .int .u16 x1, .int .u8 x2] w (GivesBool true w) := by
  obtain ⟨a0, a1⟩ := h0
  obtain ⟨b0, b1⟩ := h1
  obtain ⟨c0, c1⟩ := h2
  go_enter Tryd.func7, Tryd.ntmps7
  go_wp2_with fail
  refine (digits_any _ _ (by omega) (by omega)).mono ?_
  rintro e w1 ⟨A, hA, rfl, hb1⟩
  have HB1 := Lib.hid hb1
  clear hb1
  go_wp2_with fail
  refine (digits_any _ _ (by omega) (by omega)).mono ?_
  rintro e w2 ⟨B, hB, rfl, hb2⟩
  have HB2 := Lib.hid (below_then HB1.out hb2)
  clear hb2
  have hj0 : 0 ≤ x2 % 7 := by omega
  have hj1 : x2 % 7 < 7 := by omega
  obtain ⟨U, hU, hU2, hUl⟩ := pick_new w2 #[.string A, .string (A ++ ⟨#[42]⟩), .string (⟨#[42]⟩ ++ B), .string ((A ++ ⟨#[42]⟩) ++ B), .string ⟨#[42]⟩, .string ((A ++ ⟨#[32, 42]⟩) ++ B), .string (((A ++ ⟨#[42]⟩) ++ B) ++ ⟨#[42]⟩)] 9 (x2 % 7).toNat 9 (by show (x2 % 7).toNat < 7; omega) (by
    intro v hv
    simp at hv
    have l1 : (⟨#[42]⟩ : ByteArray).size = 1 := rfl
    have l2 : (⟨#[32, 42]⟩ : ByteArray).size = 2 := rfl
    have l3 : (⟨#[97]⟩ : ByteArray).size = 1 := rfl
    have l4 : (⟨#[37, 120]⟩ : ByteArray).size = 2 := rfl
    have l5 : (⟨#[52, 49]⟩ : ByteArray).size = 2 := rfl
    have l6 : (⟨#[53, 97]⟩ : ByteArray).size = 2 := rfl
    have l7 : (⟨#[37, 100]⟩ : ByteArray).size = 2 := rfl
    have l8 : (⟨#[37, 120, 48]⟩ : ByteArray).size = 3 := rfl
    rcases hv with rfl | rfl | rfl | rfl | rfl | rfl | rfl
    all_goals refine ⟨_, rfl, ?_⟩
    all_goals try simp only [ByteArray.size_append]
    all_goals omega)
  have HB0 := Lib.hid (below_new HB2.out (.cells #[.string A, .string (A ++ ⟨#[42]⟩), .string (⟨#[42]⟩ ++ B), .string ((A ++ ⟨#[42]⟩) ++ B), .string ⟨#[42]⟩, .string ((A ++ ⟨#[32, 42]⟩) ++ B), .string (((A ++ ⟨#[42]⟩) ++ B) ++ ⟨#[42]⟩)] 9))
  obtain ⟨S, hS⟩ : ∃ S, S = (⟨#[114, 32, 61, 32]⟩ : ByteArray) ++ U := ⟨_, rfl⟩
  have hSl : S.size ≤ 13 := by rw [hS, ByteArray.size_append]; show 4 + U.size ≤ _; omega
  have HS1 := Lib.hid (show (S ++ (⟨#[120]⟩ : ByteArray)).size ≤ maxLen by (try simp only [ByteArray.size_append]); unfold maxLen; show S.size + 1 ≤ _; omega)
  have HS2 := Lib.hid (show (S ++ (⟨#[91, 120, 93]⟩ : ByteArray)).size ≤ maxLen by (try simp only [ByteArray.size_append]); unfold maxLen; show S.size + 3 ≤ _; omega)
  have HS3 := Lib.hid (show (S ++ (⟨#[40, 120, 32, 47, 32, 121, 41, 32, 122, 10]⟩ : ByteArray)).size ≤ maxLen by (try simp only [ByteArray.size_append]); unfold maxLen; show S.size + 10 ≤ _; omega)
  have HS4 := Lib.hid (show (S).size ≤ maxLen by (try simp only [ByteArray.size_append]); unfold maxLen; show S.size ≤ _; omega)
  
  have HSS := Lib.hid hS
  clear hS
  go_wp2_with fail
  rw [← HSS.out]
  refine (awake_any _).mono ?_
  rintro e wa ⟨rfl, hba⟩
  have HBA := Lib.hid (below_then HB0.out hba)
  clear hba hU hU2
  go_wp2_with fail
  refine (same_text _ _ HS1.out).mono ?_
  rintro e w3 ⟨rfl, hb⟩
  have HB3 := Lib.hid (below_then HBA.out hb)
  clear hb
  go_wp2_with fail
  refine (same_text _ _ HS2.out).mono ?_
  rintro e w4 ⟨rfl, hb⟩
  have HB4 := Lib.hid (below_then HB3.out hb)
  clear hb
  go_wp2_with fail
  refine (same_text _ _ HS3.out).mono ?_
  rintro e w5 ⟨rfl, hb⟩
  have HB5 := Lib.hid (below_then HB4.out hb)
  clear hb
  go_wp2_with fail
  refine (same_text _ _ HS4.out).mono ?_
  rintro e w6 ⟨rfl, hb⟩
  have HB6 := Lib.hid (below_then HB5.out hb)
  clear hb
  go_wp2_with fail
  go_ret
  exact ⟨rfl, HB6.out⟩
  

set_option maxRecDepth 100000 in
set_option maxHeartbeats 1000000 in
theorem lifted (os : Os) (started : os.Started) (H : Type) (enc : TypeId × Value → H) :
    ReturnsInHanded {} Tryd.checked os 7 .any (fun w args => (Rows.readerRepeatsSpec.pre enc Tryd.prog Tryd.f7 Rows.readerRepeatsRow.domain false w args ∧ laidMetH Tryd.prog Rows.readerRepeatsRow.laid w) ∧ sizedMet enc Tryd.prog Tryd.f7 (OpenSpec.ofChange Rows.readerRepeatsSpec) false w args)
      (Rows.readerRepeatsSpec.post enc Tryd.prog Tryd.f7 false true false false) := by
  refine returnsInHanded_of_change_and (C := Tryd.checked) (X := fun w _ => laidMetH Tryd.prog Rows.readerRepeatsRow.laid w) (fun _ _ _ hh h => h.of_heap hh) noKnob started (by kernel_rfl) Tryd.func7
    (ChangeSpec.witness_shaped (enc := enc) (C := Tryd.checked) (os := os) (X := fun w _ => laidMetH Tryd.prog Rows.readerRepeatsRow.laid w) false (World.laidAll Tryd.prog os Rows.readerRepeatsRow.laid) #[.int .u16 0, .int .u16 0, .int .u8 0] 8 (World.laidAll_os _ _ _)
      (World.shaped_of_ZipB (by kernel_rfl) (by kernel_rfl)) (by kernel_rfl) (by kernel_rfl) (by kernel_rfl)
      (by rw [MakeChecks.laidMetH_plain _ _ _ (by kernel_rfl)]; exact laidMet_laidAll _ (by kernel_rfl) (by kernel_rfl))) ?_
  intro W base args ds gs before hval0 hW hcnd _ hL _
  have hval : ∀ (j : Nat) t v, Tryd.f7.params[j]? = some t → args[j]? = some v → Value.okWide Tryd.prog W .any base t v := hval0
  have hW' := hW
  obtain ⟨p, q, hA0, hV, rfl, hfz, hnd⟩ := hW
  have hA : DataW.TrodAll enc Tryd.prog W 0 (fun _ => true) true Tryd.f7.params.toList args.toList ds p := hA0
  rw [Tryd.params7] at hA hval
  obtain ⟨v0, vs0, d0, ds0, p0, q0, hargs, rfl, rfl, h0, r0⟩ := trodAll_cons hA
  obtain ⟨v1, vs1, d1, ds1, p1, q1, rfl, rfl, rfl, h1, r1⟩ := trodAll_cons r0
  obtain ⟨v2, vs2, d2, ds2, p2, q2, rfl, rfl, rfl, h2, r2⟩ := trodAll_cons r1
  obtain ⟨rfl, rfl, rfl⟩ := trodAll_nil r2
  obtain rfl : args = #[v0, v1, v2] := by cases args; simp_all
  obtain ⟨rfl, rfl⟩ := trodVars_none hV
  clear hA0 hval0 hA
  simp only [List.append_nil] at hW'
  have hlt := hW'.lt
  obtain ⟨x0, rfl, rfl, rfl, w0⟩ := open_int Tryd.underlying32 (hval 0 32 v0 rfl rfl) h0
  have b0 := bounds_u16 w0
  obtain ⟨x1, rfl, rfl, rfl, w1⟩ := open_int Tryd.underlying32 (hval 1 32 v1 rfl rfl) h1
  have b1 := bounds_u16 w1
  obtain ⟨x2, rfl, rfl, rfl, w2⟩ := open_int Tryd.underlying5 (hval 2 5 v2 rfl rfl) h2
  have b2 := bounds_u8 w2
  refine (walk x0 x1 x2 W b0 b1 b2).mono fun e W' ⟨he, hg⟩ => ?_
  subst he
  exact ⟨_, rfl, post_of_old (pv := []) hW' (fun _ _ _ => trodAll_cons_mk (shut_bool Tryd.underlying4 _) trodAll_mk0) (trodAll_cons_mk (Below.trod laidOutP (by kernel_rfl) (of_decide_eq_true (by kernel_rfl)) h0 hg (fun x hx => by simp at hx)) (trodAll_cons_mk (Below.trod laidOutP (by kernel_rfl) (of_decide_eq_true (by kernel_rfl)) h1 hg (fun x hx => by simp at hx)) (trodAll_cons_mk (Below.trod laidOutP (by kernel_rfl) (of_decide_eq_true (by kernel_rfl)) h2 hg (fun x hx => by simp at hx)) (trodAll_mk0)))) (fun _ => rfl) (by simp) hg⟩

theorem over : Rows.readerRepeatsRow.holds Tryd.pinned (OpenSpec.ofChange Rows.readerRepeatsSpec) :=
  OpenClaim.holds_of_wide 7 Tryd.f7 rfl rfl rfl rfl rfl rfl rfl ⟨rfl, rfl, rfl, rfl, rfl⟩ rfl rfl rfl rfl rfl (by kernel_rfl) Tryd.func7 (by kernel_rfl)
    (of_decide_eq_true (by kernel_rfl)) (by unfold Func.isWrapper; first | (rw [if_pos (by decide +kernel)]; kernel_rfl) | (rw [if_neg (by decide +kernel)]; exact ⟨rfl, rfl⟩))
    (fun os started H enc _ => lifted os started H enc)

/-- No parameter wants a stand-in. -/
theorem plain (f : FuncId) (fn : Func) (hf : Tryd.pinned.checked.prog.funcNamed "reglet/regletlaw03.ReaderRepeats" = some f) (hfn : Tryd.pinned.checked.prog.funcs[f]? = some fn) :
    true = Tryd.pinned.checked.prog.looks [] ∧ ∀ (j : Nat) t, fn.params[j]? = some t → Tryd.pinned.checked.prog.wantsStandIn t = false := by
  obtain rfl : f = 7 := Option.some.inj ((show Tryd.prog.funcNamed "reglet/regletlaw03.ReaderRepeats" = some 7 by kernel_rfl).symm.trans hf) |>.symm
  obtain rfl : fn = Tryd.f7 := (Option.some.inj (Tryd.func7.symm.trans hfn)).symm
  refine ⟨by kernel_rfl, fun j t ht => ?_⟩
  rw [Tryd.params7] at ht
  have hm : t ∈ [32, 32, 5] := by simpa using Array.mem_of_getElem? ht
  have hall : ([32, 32, 5].all fun u => !Tryd.prog.wantsStandIn u) = true := by kernel_rfl
  exact (show Tryd.prog.wantsStandIn t = false by simpa using List.all_eq_true.1 hall t hm)

/-- The statement. -/
theorem proved : Rows.ReaderRepeatsCardSaid :=
  Claim7.holds_tied_plain_at .later [] _ _ _ _ over (fun _ h => by cases h) (by kernel_rfl) (fun _ h => by cases h) readerRepeats_row_tie rfl ⟨rfl, rfl⟩ (by kernel_rfl) rfl plain (by kernel_rfl)

#print axioms proved
end Go.Proofs.YtlaglkbcladfbaaDoor.readerRepeats
