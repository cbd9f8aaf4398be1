/- What the program's Star, Cat, Either and Of make of what is right is right: its Right says so of expressions by at most 150 numbers, and of the expression of any set. No condition. -/
import Derived.Test.YtcaeanploocmkaaDoorZB
namespace Go.Proofs.YtcaeanploocmkaaDoor.regexRight
open Go.ChangeShapes Go.WideShapes Go.ChangeAt Go.RowKit Go.Proofs.YtcaeanploocmkaaDoor
open Go.ChangeMaps (open_string shut_string)
set_option linter.unusedVariables false
set_option linter.unusedSimpArgs false

open Go.Lib
theorem sum_le (l : List RT) (h : (l.map RT.sz).sum ≤ 2048) : ∀ t ∈ l, t.sz ≤ 2048 := fun t ht => by have := sum_mem ht; omega

set_option maxRecDepth 100000 in
set_option maxHeartbeats 8000000 in
theorem walk (x0 : Value) (z0 : List Int) (a0 a1 a2 a3 : Int) (w : World) (hT : Tab1 w) (h0 : BytesAt w x0 z0) (h1 : (⟨a0, a1, a2, a3⟩ : W4).Ok) :
    Calls Tryd.prog 5 #[x0, .agg #[.int .u64 a0, .int .u64 a1, .int .u64 a2, .int .u64 a3]] w (GivesBool true w) := by
  obtain ⟨av, nv, cv, rfl⟩ : ∃ a n c, x0 = .slice a n c := by obtain ⟨a, c, h, _⟩ := h0; exact ⟨a, _, c, h⟩
  obtain ⟨w1, hw1⟩ : ∃ w1 : World, w1 = w.alloc (.cells #[.int .u64 a0, .int .u64 a1, .int .u64 a2, .int .u64 a3] 25) := ⟨_, rfl⟩
  obtain ⟨SB, hSB⟩ : ∃ SB, SB = w.heap.size := ⟨_, rfl⟩
  have hb1 : Below w.heap.size w w1 := by rw [hw1]; exact (Below.refl _ _).alloc (Nat.le_refl _) _
  have HNS : Hid (w1.heap[SB]? = some (.cells #[.int .u64 a0, .int .u64 a1, .int .u64 a2, .int .u64 a3] 25 (0, 0))) := by unfold Hid; rw [hw1, hSB]; exact heap_alloc_new _ _
  have HB1 := Lib.hid hb1
  have HT1 := Lib.hid (hT.stays hb1)
  have HW1 := Lib.hid hw1
  have HSB := Lib.hid hSB
  have HOK := Lib.hid h1
  clear hb1 hw1 hSB h1
  go_enter Tryd.func5, Tryd.ntmps5
  go_wp2_with fail
  rw [← HW1.out, ← HSB.out]
  ((with_reducible refine (awaker_any _ (HT1.out)).mono ?_))
  rintro _ w2 ⟨rfl, hb2⟩
  have H2S : Hid (w2.heap[SB]? = some (.cells #[.int .u64 a0, .int .u64 a1, .int .u64 a2, .int .u64 a3] 25 (0, 0))) := (hb2.block SB (Array.getElem?_eq_some_iff.1 HNS.out).1).trans HNS.out
  have HB2 : Hid (Below w.heap.size w w2) := HB1.out.trans (hb2.mono HB1.out.size)
  obtain ⟨hnz, hlow⟩ := h0.low HB2.out
  subst hnz
  have c2 := few_any w2 av cv z0 hlow
  have HTW := Lib.hid (hT.stays HB2.out)
  clear hb2 hlow h0 hT HT1
  go_wp2_with fail
  ((with_reducible refine c2.mono ?_))
  rintro _ w3 ⟨q, n, cp, us, rfl, hn, ho, hl, he, hb3⟩
  have hk := kids_of_own hn ho hl he
  obtain ⟨f1, f2, f3⟩ := few_facts z0
  obtain ⟨F, hF⟩ : ∃ F, F = fewM z0 := ⟨_, rfl⟩
  rw [← hF] at hk hn f1 f2 f3
  have HK := Lib.hid hk
  have HN := Lib.hid hn
  have HF2 := Lib.hid f2
  have HF3 := Lib.hid f3
  have HB3 : Hid (Below w.heap.size w w3) := HB2.out.trans (hb3.mono HB2.out.size)
  have HT3 := Lib.hid (HTW.out.stays hb3)
  have hn4 : n ≤ 4 := by omega
  have HFF := Lib.hid hF
  have H3S : Hid (w3.heap[SB]? = some (.cells #[.int .u64 a0, .int .u64 a1, .int .u64 a2, .int .u64 a3] 25 (0, 0))) := (hb3.block SB (Array.getElem?_eq_some_iff.1 H2S.out).1).trans H2S.out
  clear hk hn ho hl he hb3 f1 f2 f3 hF c2
  go_wp2_with fail
  go_loopg [7] n (fun gk vi wr => ∃ i : Nat, vi = .int .i64 (i : Int) ∧ i ≤ n ∧ n - i ≤ gk ∧ Hid (Below w3.heap.size w3 wr))
  case atStart => exact ⟨0, rfl, by omega, by omega, Below.refl _ _⟩
  case round =>
    obtain ⟨i, rfl, hi, hgk, HB⟩ := hrel
    have hTr := HT3.out.stays HB.out
    by_cases hlt : i < n
    · have hltz : (i : Int) < (n : Int) := by omega
      obtain ⟨g, off, rfl⟩ := HK.out.rowv.some_of hlt
      have hil : i < F.length := by rw [← HN.out]; exact hlt
      obtain ⟨y, hy⟩ : ∃ y, us[i]? = some y := ⟨_, List.getElem?_eq_getElem (by rw [HK.out.len]; exact hil)⟩
      obtain ⟨u, hu⟩ : ∃ u, F[i]? = some u := ⟨_, List.getElem?_eq_getElem hil⟩
      have hpl := (HK.out.place hy).under HB.out
      have hra := (HK.out.each i y u hy hu).under HB.out
      obtain ⟨g1, g2, g3⟩ := HF2.out u (List.mem_of_getElem? hu)
      have c4 := right_any wr y u hTr hra (by omega) (by omega)
      rw [rightB_true g1 hra.ok] at c4
      obtain ⟨k, a, b, c, d, q', m, cp'⟩ := y
      obtain ⟨p0, p1, p2, p3, p4, p5⟩ := hpl.six
      simp only at p0 p1 p2 p3 p4 p5
      unfold ReV.val at c4
      simp only at c4
      have HPL := Lib.hid hpl
      have HRA := Lib.hid hra
      have HG := Lib.hid (And.intro g1 (And.intro g2 g3))
      have HTR := Lib.hid hTr
      clear hpl hra g1 g2 g3 hy hu hil hTr
      go_wp2_with fail
      ((with_reducible refine c4.mono ?_))
      rintro _ w5 ⟨rfl, hb5⟩
      have HB5 : Hid (Below w3.heap.size w3 w5) := HB.out.trans (hb5.mono HB.out.size)
      have HR5 := Lib.hid (HRA.out.under hb5)
      obtain ⟨s0, s1, s2, s3, s4, s5⟩ := (HPL.out.under hb5).six
      simp only at s0 s1 s2 s3 s4 s5
      have c5 := star_any w5 ⟨k, a, b, c, d, q', m, cp'⟩ u HR5.out
      unfold ReV.val at c5
      simp only at c5
      have HT5 := Lib.hid (HTR.out.stays hb5)
      clear hb5 c4 p0 p1 p2 p3 p4 p5
      go_wp2_with fail
      ((with_reducible refine c5.mono ?_))
      rintro _ w6 ⟨x, rfl, hx, hb6⟩
      have g4 := good_star HG.out.1
      have g5 := dep_star HG.out.2.2
      have g6 := sz_star u
      have g7 := HG.out.2.1
      have c6 := right_any w6 x (starM u) (HT5.out.stays hb6) hx (by omega) (by omega)
      rw [rightB_true g4 hx.ok] at c6
      have HB6 : Hid (Below w3.heap.size w3 w6) := HB5.out.trans (hb6.mono HB5.out.size)
      clear hx hb6 c5 g4 g5 g6 g7 s0 s1 s2 s3 s4 s5
      go_wp2_with fail
      ((with_reducible refine c6.mono ?_))
      rintro _ w7 ⟨rfl, hb7⟩
      have HB7 : Hid (Below w3.heap.size w3 w7) := HB6.out.trans (hb7.mono HB6.out.size)
      clear hb7 c6
      go_wp2
      go_roundg (n - (i + 1))
      case measure => omega
      case rel => exact ⟨i + 1, by go_num, by omega, Nat.le_refl _, HB7.out⟩
    · have hltz : ¬ (i : Int) < (n : Int) := by omega
      have hkr := HK.out.under HB.out
      have hF3 := HF3.out
      have c4 := cat_any wr hkr (by omega)
      have HKR := Lib.hid hkr
      have HTR := Lib.hid hTr
      have HD4 : Hid (∀ t ∈ F, t.dep ≤ 4) := fun t ht => (HF2.out t ht).2.2
      have HGD : Hid (∀ t ∈ F, good t) := fun t ht => (HF2.out t ht).1
      clear hkr hTr hF3
      go_wp2_with fail
      ((with_reducible refine c4.mono ?_))
      rintro _ w5 ⟨x, rfl, hx, hb5⟩
      have g4 := good_cat HGD.out
      have g5 := dep_cat HD4.out
      have g6 := sz_cat F
      have g7 := HF3.out
      have c5 := right_any w5 x (catM F) (HTR.out.stays hb5) hx (by omega) (by omega)
      rw [rightB_true g4 hx.ok] at c5
      have HB5 : Hid (Below wr.heap.size wr w5) := hb5
      clear hx hb5 c4 g4 g5 g6 g7
      go_wp2_with fail
      ((with_reducible refine c5.mono ?_))
      rintro _ w6 ⟨rfl, hb6⟩
      have HB6 : Hid (Below wr.heap.size wr w6) := HB5.out.trans (hb6.mono HB5.out.size)
      have g7 := HF3.out
      have c6 := either_any w6 (HKR.out.under HB6.out) (HTR.out.stays HB6.out) (fun t ht => by have := HD4.out t ht; omega) (by omega)
      clear hb6 c5 g7
      go_wp2_with fail
      ((with_reducible refine c6.mono ?_))
      rintro _ w7 ⟨x, rfl, hx, hb7⟩
      have g4 := good_either HGD.out
      have g5 := dep_either (by decide) HD4.out
      have g6 := sz_either F
      have g7 := HF3.out
      have HB7 : Hid (Below wr.heap.size wr w7) := HB6.out.trans (hb7.mono HB6.out.size)
      have c7 := right_any w7 x (eitherM F) (HTR.out.stays HB7.out) hx (by omega) (by omega)
      rw [rightB_true g4 hx.ok] at c7
      clear hx hb7 c6 g4 g5 g6 g7
      go_wp2_with fail
      ((with_reducible refine c7.mono ?_))
      rintro _ w8 ⟨rfl, hb8⟩
      have HB8 : Hid (Below wr.heap.size wr w8) := HB7.out.trans (hb8.mono HB7.out.size)
      have hb38 : Below w3.heap.size w3 w8 := HB.out.trans (HB8.out.mono HB.out.size)
      have h8S := (hb38.block SB (Array.getElem?_eq_some_iff.1 H3S.out).1).trans H3S.out
      have t0 : w8.cell? ⟨SB, 0, none⟩ = some (.int .u64 a0) := by simp [World.cell?, h8S]
      have t1 : w8.cell? ⟨SB, 1, none⟩ = some (.int .u64 a1) := by simp [World.cell?, h8S]
      have t2 : w8.cell? ⟨SB, 2, none⟩ = some (.int .u64 a2) := by simp [World.cell?, h8S]
      have t3 : w8.cell? ⟨SB, 3, none⟩ = some (.int .u64 a3) := by simp [World.cell?, h8S]
      have c8 := of_any (P := fun _ => True) w8 a0 a1 a2 a3 HOK.out
      clear hb8 hb38 h8S c7
      go_wp2_with fail
      ((with_reducible refine c8.mono ?_))
      rintro _ w9 ⟨x, rfl, hx, hb9⟩
      have HB9 : Hid (Below wr.heap.size wr w9) := HB8.out.trans (hb9.mono HB8.out.size)
      have c9 := right_any w9 x (ofM ⟨a0, a1, a2, a3⟩) (HTR.out.stays HB9.out) hx (by rw [ofM_dep]; decide) (by rw [ofM_sz]; decide)
      rw [rightB_true (good_of _) hx.ok] at c9
      clear hx hb9 c8 t0 t1 t2 t3
      go_wp2_with fail
      ((with_reducible refine c9.mono ?_))
      rintro _ w10 ⟨rfl, hb10⟩
      have HB10 : Hid (Below wr.heap.size wr w10) := HB9.out.trans (hb10.mono HB9.out.size)
      clear hb10 c9
      go_wp2
      go_ret
      exact ⟨rfl, HB3.out.trans ((HB.out.trans (HB10.out.mono HB.out.size)).mono HB3.out.size)⟩

set_option maxRecDepth 100000 in
set_option maxHeartbeats 1000000 in
theorem lifted (os : Os) (started : os.Started) (H : Type) (enc : TypeId × Value → H) :
    ReturnsInHanded {} Tryd.checked os 5 .any (fun w args => (Rows.regexRightSpec.pre enc Tryd.prog Tryd.f5 Rows.regexRightRow.domain false w args ∧ laidMetH Tryd.prog Rows.regexRightRow.laid w) ∧ sizedMet enc Tryd.prog Tryd.f5 (OpenSpec.ofChange Rows.regexRightSpec) false w args)
      (Rows.regexRightSpec.post enc Tryd.prog Tryd.f5 false true false false) := by
  refine returnsInHanded_of_change_and (C := Tryd.checked) (X := fun w _ => laidMetH Tryd.prog Rows.regexRightRow.laid w) (fun _ _ _ hh h => h.of_heap hh) noKnob started (by kernel_rfl) Tryd.func5
    (ChangeSpec.witness_shaped (enc := enc) (C := Tryd.checked) (os := os) (X := fun w _ => laidMetH Tryd.prog Rows.regexRightRow.laid w) false (World.laidAll Tryd.prog os Rows.regexRightRow.laid) #[.slice none 0 0, .agg #[.int .u64 0, .int .u64 0, .int .u64 0, .int .u64 0]] 8 (World.laidAll_os _ _ _)
      (World.shaped_of_ZipB (by kernel_rfl) (by kernel_rfl)) (by kernel_rfl) (by kernel_rfl) (by kernel_rfl)
      (by rw [MakeChecks.laidMetH_plain _ _ _ (by kernel_rfl)]; exact laidMet_laidAll _ (by kernel_rfl) (by kernel_rfl))) ?_
  intro W base args ds gs before hval0 hW hcnd _ hL _
  have hval : ∀ (j : Nat) t v, Tryd.f5.params[j]? = some t → args[j]? = some v → Value.okWide Tryd.prog W .any base t v := hval0
  have hW' := hW
  obtain ⟨p, q, hA0, hV, rfl, hfz, hnd⟩ := hW
  have hA : DataW.TrodAll enc Tryd.prog W 0 (fun _ => true) true Tryd.f5.params.toList args.toList ds p := hA0
  rw [Tryd.params5] at hA hval
  obtain ⟨v0, vs0, d0, ds0, p0, q0, hargs, rfl, rfl, h0, r0⟩ := trodAll_cons hA
  obtain ⟨v1, vs1, d1, ds1, p1, q1, rfl, rfl, rfl, h1, r1⟩ := trodAll_cons r0
  obtain ⟨rfl, rfl, rfl⟩ := trodAll_nil r1
  obtain rfl : args = #[v0, v1] := by cases args; simp_all
  obtain ⟨rfl, rfl⟩ := trodVars_none hV
  clear hA0 hval0 hA
  simp only [List.append_nil] at hW'
  have hlt := hW'.lt
  obtain ⟨z0, b0⟩ := open_bytes (hval 0 34 v0 rfl rfl) h0
  obtain ⟨a0, a1, a2, a3, rfl, rfl, rfl, w1, _⟩ := open_set (hval 1 25 v1 rfl rfl) h1
  have b1 : (⟨a0, a1, a2, a3⟩ : W4).Ok := ⟨wfu64r w1.1, wfu64r w1.2.1, wfu64r w1.2.2.1, wfu64r w1.2.2.2⟩
  refine (walk v0 z0 a0 a1 a2 a3 W (tabs_of_laid hL (MakeChecks.laidMetH_plain _ _ _ (by kernel_rfl)) (by kernel_rfl) (by kernel_rfl)) b0 b1).mono fun e W' ⟨he, hg⟩ => ?_
  subst he
  exact ⟨_, rfl, post_of_old (pv := []) hW' (fun _ _ _ => trodAll_cons_mk (shut_bool Tryd.underlying4 _) trodAll_mk0) (trodAll_cons_mk (Below.trod laidOutP (by kernel_rfl) (of_decide_eq_true (by kernel_rfl)) h0 hg (fun x hx => by simpa using hlt x (by simp [hx]))) (trodAll_cons_mk (Below.trod laidOutP (by kernel_rfl) (of_decide_eq_true (by kernel_rfl)) h1 hg (fun x hx => by simp at hx)) (trodAll_mk0))) (fun _ => rfl) (by simp) hg⟩

theorem over : Rows.regexRightRow.holds Tryd.pinned (OpenSpec.ofChange Rows.regexRightSpec) :=
  OpenClaim.holds_of_wide 5 Tryd.f5 rfl rfl rfl rfl rfl rfl rfl ⟨rfl, rfl, rfl, rfl, rfl⟩ rfl rfl rfl rfl rfl (by kernel_rfl) Tryd.func5 (by kernel_rfl)
    (of_decide_eq_true (by kernel_rfl)) (by unfold Func.isWrapper; first | (rw [if_pos (by decide +kernel)]; kernel_rfl) | (rw [if_neg (by decide +kernel)]; exact ⟨rfl, rfl⟩))
    (fun os started H enc _ => lifted os started H enc)

/-- No parameter wants a stand-in. -/
theorem plain (f : FuncId) (fn : Func) (hf : Tryd.pinned.checked.prog.funcNamed "reglet/regletlaw07.RegexRight" = some f) (hfn : Tryd.pinned.checked.prog.funcs[f]? = some fn) :
    false = Tryd.pinned.checked.prog.looks [] ∧ ∀ (j : Nat) t, fn.params[j]? = some t → Tryd.pinned.checked.prog.wantsStandIn t = false := by
  obtain rfl : f = 5 := Option.some.inj ((show Tryd.prog.funcNamed "reglet/regletlaw07.RegexRight" = some 5 by kernel_rfl).symm.trans hf) |>.symm
  obtain rfl : fn = Tryd.f5 := (Option.some.inj (Tryd.func5.symm.trans hfn)).symm
  refine ⟨by kernel_rfl, fun j t ht => ?_⟩
  rw [Tryd.params5] at ht
  have hm : t ∈ [34, 25] := by simpa using Array.mem_of_getElem? ht
  have hall : ([34, 25].all fun u => !Tryd.prog.wantsStandIn u) = true := by kernel_rfl
  exact (show Tryd.prog.wantsStandIn t = false by simpa using List.all_eq_true.1 hall t hm)

/-- The statement. -/
theorem proved : Rows.RegexRightCardSaid :=
  Claim7.holds_tied_plain_at .later [] _ _ _ _ over (fun _ h => by cases h) (by kernel_rfl) (fun _ h => by cases h) regexRight_row_tie rfl ⟨rfl, rfl⟩ (by kernel_rfl) rfl plain (by kernel_rfl)

#print axioms proved
end Go.Proofs.YtcaeanploocmkaaDoor.regexRight
