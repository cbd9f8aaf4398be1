/- ReaderLines is true for every text, every list of bytes and either bool, without any condition: empty lines and comments ahead of a text, and behind it, change nothing. -/
import Derived.Test.YtpcmfnemdecimaaDoorRPieces
import Derived.Test.YtpcmfnemdecimaaDoorRAround
namespace Go.Proofs.YtpcmfnemdecimaaDoor.readerLines
open Go.ChangeShapes Go.WideShapes Go.ChangeAt Go.RowKit Go.Proofs.YtpcmfnemdecimaaDoor
open Go.ChangeMaps (open_string shut_string)
set_option linter.unusedVariables false
set_option linter.unusedSimpArgs false


set_option maxRecDepth 100000 in
set_option maxHeartbeats 8000000 in
theorem walk (x0 : ByteArray) (x1 : Value) (z1 : List Int) (x2 : Bool) (w : World) (h0 : x0.size ≤ maxLen) (h1 : BytesAt w x1 z1) :
    Calls Tryd.prog 7 #[.string x0, x1, .bool x2] w (GivesBool true w) := by
  go_enter Tryd.func7, Tryd.ntmps7
  go_wp2_with fail
  refine (awake_any _).mono ?_
  rintro e w1 ⟨rfl, hb1⟩
  have HB1 := Lib.hid hb1
  clear hb1
  cases x2 with
  | true =>
    go_wp2_with fail
    refine (signs_any _).mono ?_
    rintro e w5 ⟨vs, rfl, hs5, hb5⟩
    have HB5 := Lib.hid (HB1.out.trans (hb5.mono HB1.out.size))
    have HX := Lib.hid (h1.below HB5.out)
    have HS5 := Lib.hid hs5
    clear hs5 hb5
    go_wp2_with fail
    refine (pieces_any HX.out HS5.out).mono ?_
    rintro e w6 ⟨p, hp, rfl, hb6⟩
    have HB6 := Lib.hid (HB5.out.trans (hb6.mono HB5.out.size))
    have hsz : ((⟨#[97, 32, 61, 32]⟩ : ByteArray) ++ p).size ≤ maxLen := by
      rw [ByteArray.size_append]
      unfold maxLen
      show 4 + p.size ≤ _
      omega
    have HS := Lib.hid hsz
    clear hb6 hsz
    go_wp2_with fail
    obtain ⟨S, hSS⟩ : ∃ S, S = (⟨#[97, 32, 61, 32]⟩ : ByteArray) ++ p := ⟨_, rfl⟩
    rw [← hSS] at HS ⊢
    clear hSS
    refine (read_any S _ HS.out).mono ?_
    rintro e w2 ⟨r, hr, hb, hgv⟩
    have HB2 := Lib.hid (HB6.out.trans (hb.mono HB6.out.size))
    have HR := Lib.hid hr
    cases r with
    | err c =>
      subst hgv
      have hc := hr.errs
      have q1 : (c == 0) = false := by simp; omega
      have q2 : (c != 0) = true := by simp; omega
      clear hb hr hc
      go_wp2_with fail
      go_ret
      exact ⟨rfl, HB2.out⟩
    | ok A q =>
      obtain ⟨v, rfl, hl⟩ := hgv
      have HL := Lib.hid hl.reads
      clear hb hr hl
      by_cases hbig : 300 < S.size
      · have q1 : decide ((300 : Int) < (S.size : Int)) = true := decide_eq_true (by omega)
        have q2 : decide (300 < S.size) = true := decide_eq_true hbig
        go_wp2_with fail
        go_ret
        exact ⟨rfl, HB2.out⟩
      · have q1 : decide ((300 : Int) < (S.size : Int)) = false := decide_eq_false (by omega)
        have q2 : decide (300 < S.size) = false := decide_eq_false hbig
        obtain ⟨q', hq'⟩ := around_same (by omega) HR.out
        have HQ := Lib.hid hq'
        clear hq'
        go_wp2_with fail
        refine (read_any ((ahead ++ S) ++ behind) _ (by rw [ByteArray.size_append, ByteArray.size_append]; unfold maxLen; show 14 + S.size + 4 ≤ _; omega)).mono ?_
        rintro e w3 ⟨r3, hr3, hb3, hgv3⟩
        cases hr3.one HQ.out
        obtain ⟨u, rfl, hl3⟩ := hgv3
        have HL2 := Lib.hid (HL.out.under hb3)
        have HL3 := Lib.hid hl3.reads
        have HB3 := Lib.hid (HB2.out.trans (hb3.mono HB2.out.size))
        clear hb3 hr3 hl3
        go_wp2_with fail
        refine (sameL_any HL2.out HL3.out).mono ?_
        rintro e w4 ⟨rfl, hb4⟩
        have HB4 := Lib.hid (HB3.out.trans (hb4.mono HB3.out.size))
        clear hb4
        go_wp2_with fail
        go_ret
        exact ⟨rfl, HB4.out⟩
  | false =>
    have HS := Lib.hid h0
    obtain ⟨S, hSS⟩ : ∃ S, S = x0 := ⟨_, rfl⟩
    rw [← hSS] at HS ⊢
    clear hSS
    go_wp2_with fail
    refine (read_any S _ HS.out).mono ?_
    rintro e w2 ⟨r, hr, hb, hgv⟩
    have HB2 := Lib.hid (HB1.out.trans (hb.mono HB1.out.size))
    have HR := Lib.hid hr
    cases r with
    | err c =>
      subst hgv
      have hc := hr.errs
      have q1 : (c == 0) = false := by simp; omega
      have q2 : (c != 0) = true := by simp; omega
      clear hb hr hc
      go_wp2_with fail
      go_ret
      exact ⟨rfl, HB2.out⟩
    | ok A q =>
      obtain ⟨v, rfl, hl⟩ := hgv
      have HL := Lib.hid hl.reads
      clear hb hr hl
      by_cases hbig : 300 < S.size
      · have q1 : decide ((300 : Int) < (S.size : Int)) = true := decide_eq_true (by omega)
        have q2 : decide (300 < S.size) = true := decide_eq_true hbig
        go_wp2_with fail
        go_ret
        exact ⟨rfl, HB2.out⟩
      · have q1 : decide ((300 : Int) < (S.size : Int)) = false := decide_eq_false (by omega)
        have q2 : decide (300 < S.size) = false := decide_eq_false hbig
        obtain ⟨q', hq'⟩ := around_same (by omega) HR.out
        have HQ := Lib.hid hq'
        clear hq'
        go_wp2_with fail
        refine (read_any ((ahead ++ S) ++ behind) _ (by rw [ByteArray.size_append, ByteArray.size_append]; unfold maxLen; show 14 + S.size + 4 ≤ _; omega)).mono ?_
        rintro e w3 ⟨r3, hr3, hb3, hgv3⟩
        cases hr3.one HQ.out
        obtain ⟨u, rfl, hl3⟩ := hgv3
        have HL2 := Lib.hid (HL.out.under hb3)
        have HL3 := Lib.hid hl3.reads
        have HB3 := Lib.hid (HB2.out.trans (hb3.mono HB2.out.size))
        clear hb3 hr3 hl3
        go_wp2_with fail
        refine (sameL_any HL2.out HL3.out).mono ?_
        rintro e w4 ⟨rfl, hb4⟩
        have HB4 := Lib.hid (HB3.out.trans (hb4.mono HB3.out.size))
        clear hb4
        go_wp2_with fail
        go_ret
        exact ⟨rfl, HB4.out⟩

set_option maxRecDepth 100000 in
set_option maxHeartbeats 1000000 in
theorem lifted (os : Os) (started : os.Started) (H : Type) (enc : TypeId × Value → H) :
    ReturnsInHanded {} Tryd.checked os 7 .any (fun w args => (Rows.readerLinesSpec.pre enc Tryd.prog Tryd.f7 Rows.readerLinesRow.domain false w args ∧ laidMetH Tryd.prog Rows.readerLinesRow.laid w) ∧ sizedMet enc Tryd.prog Tryd.f7 (OpenSpec.ofChange Rows.readerLinesSpec) false w args)
      (Rows.readerLinesSpec.post enc Tryd.prog Tryd.f7 false true false false) := by
  refine returnsInHanded_of_change_and (C := Tryd.checked) (X := fun w _ => laidMetH Tryd.prog Rows.readerLinesRow.laid w) (fun _ _ _ hh h => h.of_heap hh) noKnob started (by kernel_rfl) Tryd.func7
    (ChangeSpec.witness_shaped (enc := enc) (C := Tryd.checked) (os := os) (X := fun w _ => laidMetH Tryd.prog Rows.readerLinesRow.laid w) false (World.laidAll Tryd.prog os Rows.readerLinesRow.laid) #[.string ⟨#[]⟩, .slice none 0 0, .bool false] 8 (World.laidAll_os _ _ _)
      (World.shaped_of_ZipB (by kernel_rfl) (by kernel_rfl)) (by kernel_rfl) (by kernel_rfl) (by kernel_rfl)
      (by rw [MakeChecks.laidMetH_plain _ _ _ (by kernel_rfl)]; exact laidMet_laidAll _ (by kernel_rfl) (by kernel_rfl))) ?_
  intro W base args ds gs before hval0 hW hcnd _ hL _
  have hval : ∀ (j : Nat) t v, Tryd.f7.params[j]? = some t → args[j]? = some v → Value.okWide Tryd.prog W .any base t v := hval0
  have hW' := hW
  obtain ⟨p, q, hA0, hV, rfl, hfz, hnd⟩ := hW
  have hA : DataW.TrodAll enc Tryd.prog W 0 (fun _ => true) true Tryd.f7.params.toList args.toList ds p := hA0
  rw [Tryd.params7] at hA hval
  obtain ⟨v0, vs0, d0, ds0, p0, q0, hargs, rfl, rfl, h0, r0⟩ := trodAll_cons hA
  obtain ⟨v1, vs1, d1, ds1, p1, q1, rfl, rfl, rfl, h1, r1⟩ := trodAll_cons r0
  obtain ⟨v2, vs2, d2, ds2, p2, q2, rfl, rfl, rfl, h2, r2⟩ := trodAll_cons r1
  obtain ⟨rfl, rfl, rfl⟩ := trodAll_nil r2
  obtain rfl : args = #[v0, v1, v2] := by cases args; simp_all
  obtain ⟨rfl, rfl⟩ := trodVars_none hV
  clear hA0 hval0 hA
  simp only [List.append_nil] at hW'
  have hlt := hW'.lt
  obtain ⟨x0, rfl, rfl, rfl, b0⟩ := open_string Tryd.underlying9 (hval 0 9 v0 rfl rfl) h0
  obtain ⟨z1, b1⟩ := open_bytes (hval 1 24 v1 rfl rfl) h1
  obtain ⟨x2, rfl, rfl, rfl⟩ := open_bool Tryd.underlying4 (hval 2 4 v2 rfl rfl) h2
  refine (walk x0 v1 z1 x2 W b0 b1 ).mono fun e W' ⟨he, hg⟩ => ?_
  subst he
  exact ⟨_, rfl, post_of_old (pv := []) hW' (fun _ _ _ => trodAll_cons_mk (shut_bool Tryd.underlying4 _) trodAll_mk0) (trodAll_cons_mk (Below.trod laidOutP (by kernel_rfl) (of_decide_eq_true (by kernel_rfl)) h0 hg (fun x hx => by simp at hx)) (trodAll_cons_mk (Below.trod laidOutP (by kernel_rfl) (of_decide_eq_true (by kernel_rfl)) h1 hg (fun x hx => by simpa using hlt x (by simp [hx]))) (trodAll_cons_mk (Below.trod laidOutP (by kernel_rfl) (of_decide_eq_true (by kernel_rfl)) h2 hg (fun x hx => by simp at hx)) (trodAll_mk0)))) (fun _ => rfl) (by simp) hg⟩

theorem over : Rows.readerLinesRow.holds Tryd.pinned (OpenSpec.ofChange Rows.readerLinesSpec) :=
  OpenClaim.holds_of_wide 7 Tryd.f7 rfl rfl rfl rfl rfl rfl rfl ⟨rfl, rfl, rfl, rfl, rfl⟩ rfl rfl rfl rfl rfl (by kernel_rfl) Tryd.func7 (by kernel_rfl)
    (of_decide_eq_true (by kernel_rfl)) (by unfold Func.isWrapper; first | (rw [if_pos (by decide +kernel)]; kernel_rfl) | (rw [if_neg (by decide +kernel)]; exact ⟨rfl, rfl⟩))
    (fun os started H enc _ => lifted os started H enc)

/-- No parameter wants a stand-in. -/
theorem plain (f : FuncId) (fn : Func) (hf : Tryd.pinned.checked.prog.funcNamed "reglet/regletlaw03.ReaderLines" = some f) (hfn : Tryd.pinned.checked.prog.funcs[f]? = some fn) :
    true = Tryd.pinned.checked.prog.looks [] ∧ ∀ (j : Nat) t, fn.params[j]? = some t → Tryd.pinned.checked.prog.wantsStandIn t = false := by
  obtain rfl : f = 7 := Option.some.inj ((show Tryd.prog.funcNamed "reglet/regletlaw03.ReaderLines" = some 7 by kernel_rfl).symm.trans hf) |>.symm
  obtain rfl : fn = Tryd.f7 := (Option.some.inj (Tryd.func7.symm.trans hfn)).symm
  refine ⟨by kernel_rfl, fun j t ht => ?_⟩
  rw [Tryd.params7] at ht
  have hm : t ∈ [9, 24, 4] := by simpa using Array.mem_of_getElem? ht
  have hall : ([9, 24, 4].all fun u => !Tryd.prog.wantsStandIn u) = true := by kernel_rfl
  exact (show Tryd.prog.wantsStandIn t = false by simpa using List.all_eq_true.1 hall t hm)

/-- The statement. -/
theorem proved : Rows.ReaderLinesCardSaid :=
  Claim7.holds_tied_plain_at .later [] _ _ _ _ over (fun _ h => by cases h) (by kernel_rfl) (fun _ h => by cases h) readerLines_row_tie rfl ⟨rfl, rfl⟩ (by kernel_rfl) rfl plain (by kernel_rfl)

#print axioms proved
end Go.Proofs.YtpcmfnemdecimaaDoor.readerLines
