/- BytesetOf is true for every input: for all bytes lo, hi and b, without any condition: a range has the bytes from its first to its last one, and is one range. -/
import Derived.Test.YtchicecmoknkjaaDoorFrame
namespace Go.Proofs.YtchicecmoknkjaaDoor.bytesetOf
open Go.ChangeShapes Go.WideShapes Go.ChangeAt Go.RowKit Go.Proofs.YtchicecmoknkjaaDoor
set_option linter.unusedVariables false

theorem rng_nat (l h b : Nat) : rng (l : Int) (h : Int) b = (decide (l ≤ b) && decide (b ≤ h)) := by simp [rng]

theorem rgs_rng (l h : Nat) (hlh : l ≤ h) : ∀ k, rgs (rng (l : Int) (h : Int)) k = if k ≤ l then [] else [(l, min h (k - 1))]
  | 0 => by simp [rgs]
  | k + 1 => by
    have ih := rgs_rng l h hlh k
    unfold rgs
    rw [rng_nat, ih]
    by_cases h1 : l ≤ k
    · by_cases h2 : k ≤ h
      · have e1 : ¬ k + 1 ≤ l := by omega
        by_cases h3 : k ≤ l
        · obtain rfl : k = l := by omega
          simp [e1, h2, ext]
        · have e2 : min h (k - 1) + 1 = k := by omega
          have e3 : min h k = k := by omega
          simp [h1, h2, h3, e1, ext, e2, e3]
      · have e1 : ¬ k + 1 ≤ l := by omega
        have h3 : ¬ k ≤ l := by omega
        have e2 : min h (k - 1) = min h k := by omega
        simp [h1, h2, h3, e1, e2]
    · have e1 : k + 1 ≤ l := by omega
      have h3 : k ≤ l := by omega
      simp [h1, h3, e1]

theorem cnt_rng (l h : Nat) (hlh : l ≤ h) : ∀ k, cnt (rng (l : Int) (h : Int)) k = min (h + 1) k - l
  | 0 => by simp [cnt]
  | k + 1 => by
    have ih := cnt_rng l h hlh k
    unfold cnt
    rw [rng_nat, ih]
    by_cases h1 : l ≤ k
    · by_cases h2 : k ≤ h
      · simp [h1, h2]; omega
      · simp [h1, h2]; omega
    · simp [h1]; omega

theorem rgs_no (l h : Nat) (hlh : h < l) : ∀ k, rgs (rng (l : Int) (h : Int)) k = []
  | 0 => rfl
  | k + 1 => by
    have ih := rgs_no l h hlh k
    unfold rgs
    rw [rng_nat, ih]
    have : (decide (l ≤ k) && decide (k ≤ h)) = false := by simp; omega
    simp [this]

theorem cnt_no (l h : Nat) (hlh : h < l) : ∀ k, cnt (rng (l : Int) (h : Int)) k = 0
  | 0 => rfl
  | k + 1 => by
    have ih := cnt_no l h hlh k
    unfold cnt
    rw [rng_nat, ih]
    have : (decide (l ≤ k) && decide (k ≤ h)) = false := by simp; omega
    simp [this]

theorem own_one {W : World} {base size : Nat} {e : TypeId} {v : Value} {xs : List Value} (h : W.ownsRow base e size v 1 xs) : ∃ g cap, v = .slice (some ⟨g, 0, none⟩) 1 cap := by
  rcases own_forms h with ⟨_, h0⟩ | h0
  · omega
  · exact h0

set_option maxRecDepth 100000 in
set_option maxHeartbeats 8000000 in
theorem walk_no (lo hi b : Int) (l0 : 0 ≤ lo) (l1 : lo ≤ 255) (h0 : 0 ≤ hi) (h1 : hi ≤ 255) (b0 : 0 ≤ b) (b1 : b ≤ 255) (hlt : hi < lo) (w : World) (hTD : TabD w) :
    Calls Tryd.prog 11 #[.int .u8 lo, .int .u8 hi, .int .u8 b] w (RetBool true w) := by
  have HT := Lib.hid hTD
  clear hTD
  have e1 : rgs (rng lo hi) 256 = [] := by
    have := rgs_no lo.toNat hi.toNat (by omega) 256
    rwa [show ((lo.toNat : Nat) : Int) = lo from by omega, show ((hi.toNat : Nat) : Int) = hi from by omega] at this
  have e2 : cnt (rng lo hi) 256 = 0 := by
    have := cnt_no lo.toNat hi.toNat (by omega) 256
    rwa [show ((lo.toNat : Nat) : Int) = lo from by omega, show ((hi.toNat : Nat) : Int) = hi from by omega] at this
  have E1 := Lib.hid e1
  have E2 := Lib.hid e2.symm
  clear e1 e2
  go_enter Tryd.func11, Tryd.ntmps11
  go_wp2_with fail
  refine (awake_any _ HT.out).mono ?_
  rintro e w1 ⟨rfl, hb1⟩
  go_wp2_with fail
  refine (of_any _ _ _ (by omega) (by omega) (by omega) (by omega)).mono ?_
  rintro e w2 ⟨s0, s1, s2, s3, hs, rfl, hb2⟩
  have HW0 := below_alloc (hb1.trans (hb2.mono hb1.size)) (.cells #[.int .u64 s0, .int .u64 s1, .int .u64 s2, .int .u64 s3] 24)
  have hx := Box4.new w2 s0 s1 s2 s3
  clear hb1 hb2
  go_wp2_with fail
  refine (ranges_any _ _ _ _ _ _ hs (HT.out.stays HW0)).mono ?_
  rw [E1.out]
  rintro e w3 ⟨v, rfl, hv, hb3⟩
  have hx3 := hx.below hb3 hx.lt
  have HW3 := below_step HW0 hb3
  have d0 := hx3.cell0
  have d1 := hx3.cell1
  have d2 := hx3.cell2
  have d3 := hx3.cell3
  clear hx HW0 hb3
  rcases own_forms hv with ⟨rfl, _⟩ | ⟨g, cap, rfl⟩
  · go_wp2_with fail
    refine (count_h _ _ _ _ _ 0 _ hs E2 (HT.out.stays HW3)).mono ?_
    rintro e w4 ⟨rfl, hb4⟩
    have HW4 := below_step HW3 hb4
    go_wp2
    go_ret
    exact ⟨rfl, HW4⟩
  · go_wp2_with fail
    refine (count_h _ _ _ _ _ 0 _ hs E2 (HT.out.stays HW3)).mono ?_
    rintro e w4 ⟨rfl, hb4⟩
    have HW4 := below_step HW3 hb4
    go_wp2
    go_ret
    exact ⟨rfl, HW4⟩

set_option maxRecDepth 100000 in
set_option maxHeartbeats 8000000 in
theorem walk_yes (lo hi b : Int) (l0 : 0 ≤ lo) (l1 : lo ≤ 255) (h0 : 0 ≤ hi) (h1 : hi ≤ 255) (b0 : 0 ≤ b) (b1 : b ≤ 255) (hle : lo ≤ hi) (w : World) (hTD : TabD w) :
    Calls Tryd.prog 11 #[.int .u8 lo, .int .u8 hi, .int .u8 b] w (RetBool true w) := by
  have HT := Lib.hid hTD
  clear hTD
  have e1 : rgs (rng lo hi) 256 = [(lo.toNat, hi.toNat)] := by
    have := rgs_rng lo.toNat hi.toNat (by omega) 256
    rw [show ((lo.toNat : Nat) : Int) = lo from by omega, show ((hi.toNat : Nat) : Int) = hi from by omega] at this
    rw [this, if_neg (by omega), show min hi.toNat (256 - 1) = hi.toNat from by omega]
  have e2 : cnt (rng lo hi) 256 = (hi - lo + 1).toNat := by
    have := cnt_rng lo.toNat hi.toNat (by omega) 256
    rw [show ((lo.toNat : Nat) : Int) = lo from by omega, show ((hi.toNat : Nat) : Int) = hi from by omega] at this
    rw [this]; omega
  have e3 : hasB (rng lo hi) b = (decide (lo ≤ b) && decide (b ≤ hi)) := by
    rw [hasB_in _ _ (by omega) (by omega)]
    simp only [rng]
    rw [show ((b.toNat : Nat) : Int) = b from by omega]
  have E1 := Lib.hid e1
  have E2 := Lib.hid e2.symm
  have E3 := Lib.hid e3
  clear e1 e2 e3
  have ht : (b < lo ∧ b ≤ hi) ∨ (lo ≤ b ∧ b ≤ hi) ∨ (lo ≤ b ∧ hi < b) := by omega
  rcases ht with ⟨t1, t2⟩ | ⟨t1, t2⟩ | ⟨t1, t2⟩
  all_goals
    go_enter Tryd.func11, Tryd.ntmps11
    go_wp2_with fail
    refine (awake_any _ HT.out).mono ?_
    rintro e w1 ⟨rfl, hb1⟩
    go_wp2_with fail
    refine (of_any _ _ _ (by omega) (by omega) (by omega) (by omega)).mono ?_
    rintro e w2 ⟨s0, s1, s2, s3, hs, rfl, hb2⟩
    have HW0 := below_alloc (hb1.trans (hb2.mono hb1.size)) (.cells #[.int .u64 s0, .int .u64 s1, .int .u64 s2, .int .u64 s3] 24)
    have hx := Box4.new w2 s0 s1 s2 s3
    clear hb1 hb2
    go_wp2_with fail
    refine (ranges_any _ _ _ _ _ _ hs (HT.out.stays HW0)).mono ?_
    rw [E1.out]
    rintro e w3 ⟨v, rfl, hv, hb3⟩
    have hx3 := hx.below hb3 hx.lt
    have HW3 := below_step HW0 hb3
    have d0 := hx3.cell0
    have d1 := hx3.cell1
    have d2 := hx3.cell2
    have d3 := hx3.cell3
    clear hx HW0 hb3
    obtain ⟨g, cap, rfl⟩ := own_one hv
    obtain ⟨_, hg2, _⟩ := own_base hv
    go_wp2_with fail
    refine (has_b _ _ _ _ _ _ _ hs).mono ?_
    rw [E3.out]
    rintro e w4 ⟨rfl, hb4⟩
    have hx4 := hx3.below hb4 hx3.lt
    have HW4 := below_step HW3 hb4
    have hv4 := own_below hv hb4
    clear d0 d1 d2 d3
    have d0 := hx4.cell0
    have d1 := hx4.cell1
    have d2 := hx4.cell2
    have d3 := hx4.cell3
    have g0 := own_cell hv4 (rcells_lo [(lo.toNat, hi.toNat)] 0 (by simp))
    have g1 := own_cell hv4 (rcells_hi [(lo.toNat, hi.toNat)] 0 (by simp))
    simp only [List.getElem_cons_zero, Nat.zero_mul, Nat.zero_add] at g0 g1
    rw [show ((lo.toNat : Nat) : Int) = lo from by omega] at g0
    rw [show ((hi.toNat : Nat) : Int) = hi from by omega] at g1
    go_wp2_with fail
    refine (count_h _ _ _ _ _ (hi - lo + 1).toNat _ hs E2 (HT.out.stays HW4)).mono ?_
    rintro e w5 ⟨he, hb5⟩
    rw [show (((hi - lo + 1).toNat : Nat) : Int) = hi - lo + 1 from by omega] at he
    subst he
    have HW5 := below_step HW4 hb5
    clear hb4 hb5 HW4 HW3 d0 d1 d2 d3 hx3 hx4
    go_wp2
    go_ret
    exact ⟨rfl, HW5⟩

theorem walk (lo hi b : Int) (l : 0 ≤ lo ∧ lo ≤ 255) (h : 0 ≤ hi ∧ hi ≤ 255) (hb : 0 ≤ b ∧ b ≤ 255) (w : World) (hTD : TabD w) :
    Calls Tryd.prog 11 #[.int .u8 lo, .int .u8 hi, .int .u8 b] w (RetBool true w) := by
  have HT := Lib.hid hTD
  clear hTD
  by_cases hlt : hi < lo
  · exact walk_no lo hi b l.1 l.2 h.1 h.2 hb.1 hb.2 hlt w HT.out
  · exact walk_yes lo hi b l.1 l.2 h.1 h.2 hb.1 hb.2 (by omega) w HT.out

set_option maxRecDepth 100000 in
set_option maxHeartbeats 1000000 in
theorem lifted (os : Os) (started : os.Started) (H : Type) (enc : TypeId × Value → H) :
    ReturnsInHanded {} Tryd.checked os 11 .any (fun w args => (Rows.bytesetOfSpec.pre enc Tryd.prog Tryd.f11 Rows.bytesetOfRow.domain false w args ∧ laidMetH Tryd.prog Rows.bytesetOfRow.laid w) ∧ sizedMet enc Tryd.prog Tryd.f11 (OpenSpec.ofChange Rows.bytesetOfSpec) false w args)
      (Rows.bytesetOfSpec.post enc Tryd.prog Tryd.f11 false true false false) := by
  refine returnsInHanded_of_change_and (C := Tryd.checked) (X := fun w _ => laidMetH Tryd.prog Rows.bytesetOfRow.laid w) (fun _ _ _ hh h => h.of_heap hh) noKnob started (by kernel_rfl) Tryd.func11
    (ChangeSpec.witness_shaped (enc := enc) (C := Tryd.checked) (os := os) (X := fun w _ => laidMetH Tryd.prog Rows.bytesetOfRow.laid w) false (World.laidAll Tryd.prog os Rows.bytesetOfRow.laid) #[.int .u8 0, .int .u8 0, .int .u8 0] 8 (World.laidAll_os _ _ _)
      (World.shaped_of_ZipB (by kernel_rfl) (by kernel_rfl)) (by kernel_rfl) (by kernel_rfl) (by kernel_rfl)
      (by rw [MakeChecks.laidMetH_plain _ _ _ (by kernel_rfl)]; exact laidMet_laidAll _ (by kernel_rfl) (by kernel_rfl))) ?_
  intro W base args ds gs before hval0 hW hcnd _ hL _
  have hval : ∀ (j : Nat) t v, Tryd.f11.params[j]? = some t → args[j]? = some v → Value.okWide Tryd.prog W .any base t v := hval0
  have hW' := hW
  obtain ⟨p, q, hA0, hV, rfl, hfz, hnd⟩ := hW
  have hA : DataW.TrodAll enc Tryd.prog W 0 (fun _ => true) true Tryd.f11.params.toList args.toList ds p := hA0
  rw [Tryd.params11] at hA hval
  obtain ⟨v0, vs0, d0, ds0, p0, q0, hargs, rfl, rfl, h0, r0⟩ := trodAll_cons hA
  obtain ⟨v1, vs1, d1, ds1, p1, q1, rfl, rfl, rfl, h1, r1⟩ := trodAll_cons r0
  obtain ⟨v2, vs2, d2, ds2, p2, q2, rfl, rfl, rfl, h2, r2⟩ := trodAll_cons r1
  obtain ⟨rfl, rfl, rfl⟩ := trodAll_nil r2
  obtain rfl : args = #[v0, v1, v2] := by cases args; simp_all
  obtain ⟨rfl, rfl⟩ := trodVars_none hV
  clear hA0 hval0 hA
  simp only [List.append_nil] at hW'
  have hlt := hW'.lt
  obtain ⟨x0, rfl, rfl, rfl, w0⟩ := open_int Tryd.underlying5 (hval 0 5 v0 rfl rfl) h0
  have b0 := bounds_u8 w0
  obtain ⟨x1, rfl, rfl, rfl, w1⟩ := open_int Tryd.underlying5 (hval 1 5 v1 rfl rfl) h1
  have b1 := bounds_u8 w1
  obtain ⟨x2, rfl, rfl, rfl, w2⟩ := open_int Tryd.underlying5 (hval 2 5 v2 rfl rfl) h2
  have b2 := bounds_u8 w2
  have hTD := tab_of_laid hL (MakeChecks.laidMetH_plain _ _ _ (by kernel_rfl)) (by kernel_rfl)
  refine (walk x0 x1 x2 b0 b1 b2 W hTD).mono fun e W' ⟨he, hg⟩ => ?_
  subst he
  exact ⟨_, rfl, post_of_old (pv := []) hW' (fun _ _ _ => trodAll_cons_mk (shut_bool Tryd.underlying4 _) trodAll_mk0) (trodAll_cons_mk (Below.trod laidOutP (by kernel_rfl) (of_decide_eq_true (by kernel_rfl)) h0 hg (fun x hx => by simp at hx)) (trodAll_cons_mk (Below.trod laidOutP (by kernel_rfl) (of_decide_eq_true (by kernel_rfl)) h1 hg (fun x hx => by simp at hx)) (trodAll_cons_mk (Below.trod laidOutP (by kernel_rfl) (of_decide_eq_true (by kernel_rfl)) h2 hg (fun x hx => by simp at hx)) (trodAll_mk0)))) (fun _ => rfl) (by simp) hg⟩

theorem over : Rows.bytesetOfRow.holds Tryd.pinned (OpenSpec.ofChange Rows.bytesetOfSpec) :=
  OpenClaim.holds_of_wide 11 Tryd.f11 rfl rfl rfl rfl rfl rfl rfl ⟨rfl, rfl, rfl, rfl, rfl⟩ rfl rfl rfl rfl rfl (by kernel_rfl) Tryd.func11 (by kernel_rfl)
    (of_decide_eq_true (by kernel_rfl)) (by unfold Func.isWrapper; first | (rw [if_pos (by decide +kernel)]; kernel_rfl) | (rw [if_neg (by decide +kernel)]; exact ⟨rfl, rfl⟩))
    (fun os started H enc _ => lifted os started H enc)

/-- No parameter wants a stand-in. -/
theorem plain (f : FuncId) (fn : Func) (hf : Tryd.pinned.checked.prog.funcNamed "reglet/regletlaw01.BytesetOf" = some f) (hfn : Tryd.pinned.checked.prog.funcs[f]? = some fn) :
    false = Tryd.pinned.checked.prog.looks [] ∧ ∀ (j : Nat) t, fn.params[j]? = some t → Tryd.pinned.checked.prog.wantsStandIn t = false := by
  obtain rfl : f = 11 := Option.some.inj ((show Tryd.prog.funcNamed "reglet/regletlaw01.BytesetOf" = some 11 by kernel_rfl).symm.trans hf) |>.symm
  obtain rfl : fn = Tryd.f11 := (Option.some.inj (Tryd.func11.symm.trans hfn)).symm
  refine ⟨by kernel_rfl, fun j t ht => ?_⟩
  rw [Tryd.params11] at ht
  have hm : t ∈ [5, 5, 5] := by simpa using Array.mem_of_getElem? ht
  have hall : ([5, 5, 5].all fun u => !Tryd.prog.wantsStandIn u) = true := by kernel_rfl
  exact (show Tryd.prog.wantsStandIn t = false by simpa using List.all_eq_true.1 hall t hm)

/-- The statement. -/
theorem proved : Rows.BytesetOfCardSaid :=
  Claim7.holds_tied_plain_at .later [] _ _ _ _ over (fun _ h => by cases h) (by kernel_rfl) (fun _ h => by cases h) bytesetOf_row_tie rfl ⟨rfl, rfl⟩ (by kernel_rfl) rfl plain (by kernel_rfl)

#print axioms proved
end Go.Proofs.YtchicecmoknkjaaDoor.bytesetOf
