/- ReaderNumbers is true for every list of bytes, every base and either bool, without any condition: the program's numbers of all bases are the document's, or both refuse them with the same error. -/
import Derived.Test.YtlaglkbcladfbaaDoorRAwake
import Derived.Test.YtlaglkbcladfbaaDoorYSame
namespace Go.Proofs.YtlaglkbcladfbaaDoor.readerNumbers
open Go.ChangeShapes Go.WideShapes Go.ChangeAt Go.RowKit Go.Proofs.YtlaglkbcladfbaaDoor
open Go.ChangeMaps (open_string shut_string)
set_option linter.unusedVariables false
set_option linter.unusedSimpArgs false

/-- A text out of a list of texts that was just made. -/
theorem pick_new (W : World) (cs : Array Value) (t : TypeId) (j n : Nat) (hj : j < cs.size) (h : ∀ v ∈ cs.toList, ∃ s : ByteArray, v = .string s ∧ s.size ≤ n) :
    ∃ s : ByteArray, (W.alloc (.cells cs t)).cell? ⟨W.heap.size, j, none⟩ = some (.string s) ∧ cs[j]? = some (.string s) ∧ s.size ≤ n := by
  have hc : cs[j]? = some cs[j] := Array.getElem?_eq_getElem hj
  obtain ⟨s, hs, hl⟩ := h cs[j] (by simp)
  refine ⟨s, ?_, by rw [hc, hs], hl⟩
  rw [← hs, ← hc]
  have := heap_alloc_new W (.cells cs t)
  simp only [World.cell?, this]
  rfl


set_option maxRecDepth 100000 in
set_option maxHeartbeats 8000000 in
theorem walk (x0 : Int) (x1 : Value) (z1 : List Int) (x2 : Bool) (w : World) (h0 : 0 ≤ x0 ∧ x0 ≤ 255) (h1 : BytesAt w x1 z1) :
    Calls Tryd.prog 6 #[.int .u8 x0, x1, .bool x2] w (GivesBool true w) := by
  obtain ⟨a0, a1⟩ := h0
  have hj0 : 0 ≤ x0 % 6 := by omega
  have hj1 : x0 % 6 < 6 := by omega
  obtain ⟨U, hU, hU2, hUl⟩ := pick_new w #[.string ⟨#[120]⟩, .string ⟨#[100]⟩, .string ⟨#[98]⟩, .string ⟨#[88]⟩, .string ⟨#[68]⟩, .string ⟨#[66]⟩] 9 (x0 % 6).toNat 10 (by show (x0 % 6).toNat < 6; omega) (by
    intro v hv
    simp at hv
    rcases hv with rfl | rfl | rfl | rfl | rfl | rfl
    all_goals exact ⟨_, rfl, by decide⟩)
  have HB0 := Lib.hid (below_new (Below.refl w.heap.size w) (.cells #[.string ⟨#[120]⟩, .string ⟨#[100]⟩, .string ⟨#[98]⟩, .string ⟨#[88]⟩, .string ⟨#[68]⟩, .string ⟨#[66]⟩] 9))
  have HX := Lib.hid (h1.below HB0.out)
  have hS0 : ((⟨#[114, 32, 61, 32, 37]⟩ : ByteArray) ++ U).size ≤ 15 := by rw [ByteArray.size_append]; show 5 + U.size ≤ _; omega
  have HS0 := Lib.hid hS0
  obtain ⟨a, cap, rfl, hcap, hmax, hz, hc⟩ := h1
  unfold maxLen at hmax
  have HZ := Lib.hid hz
  obtain ⟨n, hn⟩ : ∃ n, n = z1.length := ⟨_, rfl⟩
  rw [← hn] at hcap hmax HX ⊢
  have HN := Lib.hid hn
  clear hz hc hn hS0
  go_enter Tryd.func6, Tryd.ntmps6
  go_wp2_with fail
  go_loopw [7, 8] (fun t i wr => ∃ (k : Nat) (T : ByteArray), t = .string T ∧ i = .int .i64 k ∧ k ≤ 18 ∧ T.size ≤ 15 + 11 * k ∧ Hid (Below w.heap.size w wr) ∧ Hid (BytesAt wr (.slice a n cap) z1)) (fun _ i _ => 18 - (intOf i).toNat)
  case atStart => exact ⟨0, _, rfl, rfl, by omega, HS0.out, HB0, HX⟩
  case round =>
    obtain ⟨k, T, rfl, rfl, hk, hT, HBW, HXW⟩ := hrel
    clear hU hU2
    by_cases h1 : k < n
    · have q1 : decide ((k : Int) < (n : Int)) = true := decide_eq_true (by omega)
      have q1' : decide (k < n) = true := decide_eq_true h1
      by_cases h2 : k < 18
      · have q2 : decide ((k : Int) < 18) = true := decide_eq_true (by omega)
        have q2' : decide (k < 18) = true := decide_eq_true h2
        obtain ⟨a', cap', hv', hcap', hmax', hz', hcl⟩ := HXW.out
        injection hv' with e1 e2 e3
        subst e1 e3
        obtain ⟨b, off, rfl, hb, hcell⟩ := hcl (by rw [← HN.out]; omega)
        have hkl : k < z1.length := by rw [← HN.out]; exact h1
        have c0 := hcell k z1[k] (List.getElem?_eq_getElem hkl)
        have hz := HZ.out z1[k] (List.getElem_mem hkl)
        obtain ⟨z, hzz⟩ : ∃ z, z = z1[k] := ⟨_, rfl⟩
        rw [← hzz] at c0 hz
        obtain ⟨hz0, hz1⟩ := hz
        obtain ⟨p, hp, hp2, hpl⟩ := pick_new wr #[.string ⟨#[48]⟩, .string ⟨#[49]⟩, .string ⟨#[49]⟩, .string ⟨#[48]⟩, .string ⟨#[57]⟩, .string ⟨#[65]⟩, .string ⟨#[102]⟩, .string ⟨#[103]⟩, .string ⟨#[]⟩] 9 (z % 9).toNat 10 (by show (z % 9).toNat < 9; omega) (by
    intro v hv
    simp at hv
    rcases hv with rfl | rfl | rfl | rfl | rfl | rfl | rfl | rfl | rfl
    all_goals exact ⟨_, rfl, by decide⟩)
        have HBN := Lib.hid (below_new HBW.out (.cells #[.string ⟨#[48]⟩, .string ⟨#[49]⟩, .string ⟨#[49]⟩, .string ⟨#[48]⟩, .string ⟨#[57]⟩, .string ⟨#[65]⟩, .string ⟨#[102]⟩, .string ⟨#[103]⟩, .string ⟨#[]⟩] 9))
        have HXN := Lib.hid (HXW.out.below ((Below.refl wr.heap.size wr).alloc (Nat.le_refl _) (.cells #[.string ⟨#[48]⟩, .string ⟨#[49]⟩, .string ⟨#[49]⟩, .string ⟨#[48]⟩, .string ⟨#[57]⟩, .string ⟨#[65]⟩, .string ⟨#[102]⟩, .string ⟨#[103]⟩, .string ⟨#[]⟩] 9)))
        have c1 := (((Below.refl wr.heap.size wr).alloc (Nat.le_refl _) (.cells #[.string ⟨#[48]⟩, .string ⟨#[49]⟩, .string ⟨#[49]⟩, .string ⟨#[48]⟩, .string ⟨#[57]⟩, .string ⟨#[65]⟩, .string ⟨#[102]⟩, .string ⟨#[103]⟩, .string ⟨#[]⟩] 9)).cell (p := ⟨b, off + k, none⟩) hb).trans c0
        have hne : wr.heap.size ≠ b := by omega
        have hm0 : 0 ≤ z % 9 := by omega
        have hm1 : z % 9 < 9 := by omega
        have hT2 : T.size ≤ 300 := by omega
        clear hcell hzz hcl hz' hmax' hcap' e2 hb
        by_cases h3 : 0 < k
        · have q3 : decide ((0 : Int) < (k : Int)) = true := decide_eq_true (by omega)
          have q3' : decide (0 < k) = true := decide_eq_true h3
          by_cases h4 : k % 6 = 0
          · have q4 : ((k : Int) % 6 == 0) = true := by simp; omega
            have q4' : (k : Int) % 6 = 0 := by omega
            cases x2 with
            | true =>
              have HTT := Lib.hid (show ((T ++ ⟨#[45]⟩) ++ p).size ≤ 15 + 11 * (k + 1) by simp only [ByteArray.size_append]; show T.size + 1 + p.size ≤ _; omega)
              go_wp2_with fail
              go_roundw
              case rel => exact ⟨k + 1, _, rfl, by go_num, by omega, HTT.out, HBN, HXN⟩
              case measure => simp [intOf]; omega
              
            | false =>
              have HTT := Lib.hid (show ((T ++ ⟨#[46]⟩) ++ p).size ≤ 15 + 11 * (k + 1) by simp only [ByteArray.size_append]; show T.size + 1 + p.size ≤ _; omega)
              go_wp2_with fail
              go_roundw
              case rel => exact ⟨k + 1, _, rfl, by go_num, by omega, HTT.out, HBN, HXN⟩
              case measure => simp [intOf]; omega
              
          · have q4 : ((k : Int) % 6 == 0) = false := by simp; omega
            have HTT := Lib.hid (show ((T) ++ p).size ≤ 15 + 11 * (k + 1) by simp only [ByteArray.size_append]; omega)
            go_wp2_with fail
            go_roundw
            case rel => exact ⟨k + 1, _, rfl, by go_num, by omega, HTT.out, HBN, HXN⟩
            case measure => simp [intOf]; omega
            
        · have q3 : decide ((0 : Int) < (k : Int)) = false := decide_eq_false (by omega)
          have q3' : decide (0 < k) = false := decide_eq_false h3
          have HTT := Lib.hid (show ((T) ++ p).size ≤ 15 + 11 * (k + 1) by simp only [ByteArray.size_append]; omega)
          go_wp2_with fail
          go_roundw
          case rel => exact ⟨k + 1, _, rfl, by go_num, by omega, HTT.out, HBN, HXN⟩
          case measure => simp [intOf]; omega
          
      · have q2 : decide ((k : Int) < 18) = false := decide_eq_false (by omega)
        have q2' : decide (k < 18) = false := decide_eq_false h2
        have HS := Lib.hid (show T.size ≤ maxLen by unfold maxLen; omega)
        go_wp2_with fail
        refine (awake_any _).mono ?_
        rintro e wa ⟨rfl, hba⟩
        have HBA := Lib.hid (below_then HBW.out hba)
        clear hba
        go_wp2_with fail
        refine (same_text _ _ HS.out).mono ?_
        rintro e w3 ⟨rfl, hb⟩
        have HB3 := Lib.hid (below_then HBA.out hb)
        clear hb
        go_wp2_with fail
        go_ret
        exact ⟨rfl, HB3.out⟩
        
    · have q1 : decide ((k : Int) < (n : Int)) = false := decide_eq_false (by omega)
      have q1' : decide (k < n) = false := decide_eq_false h1
      have HS := Lib.hid (show T.size ≤ maxLen by unfold maxLen; omega)
      go_wp2_with fail
      refine (awake_any _).mono ?_
      rintro e wa ⟨rfl, hba⟩
      have HBA := Lib.hid (below_then HBW.out hba)
      clear hba
      go_wp2_with fail
      refine (same_text _ _ HS.out).mono ?_
      rintro e w3 ⟨rfl, hb⟩
      have HB3 := Lib.hid (below_then HBA.out hb)
      clear hb
      go_wp2_with fail
      go_ret
      exact ⟨rfl, HB3.out⟩
      

set_option maxRecDepth 100000 in
set_option maxHeartbeats 1000000 in
theorem lifted (os : Os) (started : os.Started) (H : Type) (enc : TypeId × Value → H) :
    ReturnsInHanded {} Tryd.checked os 6 .any (fun w args => (Rows.readerNumbersSpec.pre enc Tryd.prog Tryd.f6 Rows.readerNumbersRow.domain false w args ∧ laidMetH Tryd.prog Rows.readerNumbersRow.laid w) ∧ sizedMet enc Tryd.prog Tryd.f6 (OpenSpec.ofChange Rows.readerNumbersSpec) false w args)
      (Rows.readerNumbersSpec.post enc Tryd.prog Tryd.f6 false true false false) := by
  refine returnsInHanded_of_change_and (C := Tryd.checked) (X := fun w _ => laidMetH Tryd.prog Rows.readerNumbersRow.laid w) (fun _ _ _ hh h => h.of_heap hh) noKnob started (by kernel_rfl) Tryd.func6
    (ChangeSpec.witness_shaped (enc := enc) (C := Tryd.checked) (os := os) (X := fun w _ => laidMetH Tryd.prog Rows.readerNumbersRow.laid w) false (World.laidAll Tryd.prog os Rows.readerNumbersRow.laid) #[.int .u8 0, .slice none 0 0, .bool false] 8 (World.laidAll_os _ _ _)
      (World.shaped_of_ZipB (by kernel_rfl) (by kernel_rfl)) (by kernel_rfl) (by kernel_rfl) (by kernel_rfl)
      (by rw [MakeChecks.laidMetH_plain _ _ _ (by kernel_rfl)]; exact laidMet_laidAll _ (by kernel_rfl) (by kernel_rfl))) ?_
  intro W base args ds gs before hval0 hW hcnd _ hL _
  have hval : ∀ (j : Nat) t v, Tryd.f6.params[j]? = some t → args[j]? = some v → Value.okWide Tryd.prog W .any base t v := hval0
  have hW' := hW
  obtain ⟨p, q, hA0, hV, rfl, hfz, hnd⟩ := hW
  have hA : DataW.TrodAll enc Tryd.prog W 0 (fun _ => true) true Tryd.f6.params.toList args.toList ds p := hA0
  rw [Tryd.params6] at hA hval
  obtain ⟨v0, vs0, d0, ds0, p0, q0, hargs, rfl, rfl, h0, r0⟩ := trodAll_cons hA
  obtain ⟨v1, vs1, d1, ds1, p1, q1, rfl, rfl, rfl, h1, r1⟩ := trodAll_cons r0
  obtain ⟨v2, vs2, d2, ds2, p2, q2, rfl, rfl, rfl, h2, r2⟩ := trodAll_cons r1
  obtain ⟨rfl, rfl, rfl⟩ := trodAll_nil r2
  obtain rfl : args = #[v0, v1, v2] := by cases args; simp_all
  obtain ⟨rfl, rfl⟩ := trodVars_none hV
  clear hA0 hval0 hA
  simp only [List.append_nil] at hW'
  have hlt := hW'.lt
  obtain ⟨x0, rfl, rfl, rfl, w0⟩ := open_int Tryd.underlying5 (hval 0 5 v0 rfl rfl) h0
  have b0 := bounds_u8 w0
  obtain ⟨z1, b1⟩ := open_bytes (hval 1 24 v1 rfl rfl) h1
  obtain ⟨x2, rfl, rfl, rfl⟩ := open_bool Tryd.underlying4 (hval 2 4 v2 rfl rfl) h2
  refine (walk x0 v1 z1 x2 W b0 b1 ).mono fun e W' ⟨he, hg⟩ => ?_
  subst he
  exact ⟨_, rfl, post_of_old (pv := []) hW' (fun _ _ _ => trodAll_cons_mk (shut_bool Tryd.underlying4 _) trodAll_mk0) (trodAll_cons_mk (Below.trod laidOutP (by kernel_rfl) (of_decide_eq_true (by kernel_rfl)) h0 hg (fun x hx => by simp at hx)) (trodAll_cons_mk (Below.trod laidOutP (by kernel_rfl) (of_decide_eq_true (by kernel_rfl)) h1 hg (fun x hx => by simpa using hlt x (by simp [hx]))) (trodAll_cons_mk (Below.trod laidOutP (by kernel_rfl) (of_decide_eq_true (by kernel_rfl)) h2 hg (fun x hx => by simp at hx)) (trodAll_mk0)))) (fun _ => rfl) (by simp) hg⟩

theorem over : Rows.readerNumbersRow.holds Tryd.pinned (OpenSpec.ofChange Rows.readerNumbersSpec) :=
  OpenClaim.holds_of_wide 6 Tryd.f6 rfl rfl rfl rfl rfl rfl rfl ⟨rfl, rfl, rfl, rfl, rfl⟩ rfl rfl rfl rfl rfl (by kernel_rfl) Tryd.func6 (by kernel_rfl)
    (of_decide_eq_true (by kernel_rfl)) (by unfold Func.isWrapper; first | (rw [if_pos (by decide +kernel)]; kernel_rfl) | (rw [if_neg (by decide +kernel)]; exact ⟨rfl, rfl⟩))
    (fun os started H enc _ => lifted os started H enc)

/-- No parameter wants a stand-in. -/
theorem plain (f : FuncId) (fn : Func) (hf : Tryd.pinned.checked.prog.funcNamed "reglet/regletlaw03.ReaderNumbers" = some f) (hfn : Tryd.pinned.checked.prog.funcs[f]? = some fn) :
    true = Tryd.pinned.checked.prog.looks [] ∧ ∀ (j : Nat) t, fn.params[j]? = some t → Tryd.pinned.checked.prog.wantsStandIn t = false := by
  obtain rfl : f = 6 := Option.some.inj ((show Tryd.prog.funcNamed "reglet/regletlaw03.ReaderNumbers" = some 6 by kernel_rfl).symm.trans hf) |>.symm
  obtain rfl : fn = Tryd.f6 := (Option.some.inj (Tryd.func6.symm.trans hfn)).symm
  refine ⟨by kernel_rfl, fun j t ht => ?_⟩
  rw [Tryd.params6] at ht
  have hm : t ∈ [5, 24, 4] := by simpa using Array.mem_of_getElem? ht
  have hall : ([5, 24, 4].all fun u => !Tryd.prog.wantsStandIn u) = true := by kernel_rfl
  exact (show Tryd.prog.wantsStandIn t = false by simpa using List.all_eq_true.1 hall t hm)

/-- The statement. -/
theorem proved : Rows.ReaderNumbersCardSaid :=
  Claim7.holds_tied_plain_at .later [] _ _ _ _ over (fun _ h => by cases h) (by kernel_rfl) (fun _ h => by cases h) readerNumbers_row_tie rfl ⟨rfl, rfl⟩ (by kernel_rfl) rfl plain (by kernel_rfl)

#print axioms proved
end Go.Proofs.YtlaglkbcladfbaaDoor.readerNumbers
