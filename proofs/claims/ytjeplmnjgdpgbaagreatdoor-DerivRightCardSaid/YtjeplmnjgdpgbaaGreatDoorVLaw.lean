/- What the program's Deriv leaves of expressions by at most 150 numbers, behind each letter of a text of at most 4 letters, is right, as the document says what right is. No condition. -/
import Derived.Test.YtjeplmnjgdpgbaaGreatDoorW6
import Derived.Test.YtjeplmnjgdpgbaaGreatDoorV0
namespace Go.Proofs.YtjeplmnjgdpgbaaGreatDoor.derivRight
open Go.ChangeShapes Go.WideShapes Go.ChangeAt Go.RowKit Go.Proofs.YtjeplmnjgdpgbaaGreatDoor
open Go.ChangeMaps (open_string shut_string)
set_option linter.unusedVariables false
set_option linter.unusedSimpArgs false

open Go.Lib

set_option maxRecDepth 100000 in
set_option maxHeartbeats 8000000 in
theorem walk (x0 : Value) (z0 : List Int) (x1 : Value) (z1 : List Int) (w : World) (hT : Tab1 w) (h0 : BytesAt w x0 z0) (h1 : BytesAt w x1 z1) :
    Calls Tryz.prog 4 #[x0, x1] w (GivesBool true w) := by
  obtain ⟨av, nv, cv, rfl⟩ : ∃ a n c, x0 = .slice a n c := by obtain ⟨a, c, h, _⟩ := h0; exact ⟨a, _, c, h⟩
  obtain ⟨am, nm, cm, rfl⟩ : ∃ a n c, x1 = .slice a n c := by obtain ⟨a, c, h, _⟩ := h1; exact ⟨a, _, c, h⟩
  have HT := Lib.hid hT
  clear hT
  go_enter Tryz.func4, Tryz.ntmps4
  go_wp2_with fail
  ((with_reducible refine (awaked_any w HT.out).mono ?_))
  rintro _ w2 ⟨rfl, hb2⟩
  have HB2 := Lib.hid hb2
  obtain ⟨hnz, hlow⟩ := h0.low hb2
  subst hnz
  have c2 := made_any w2 av cv z0 0 (by decide) hlow
  rw [show ((0 : Nat) : Int) = 0 from rfl] at c2
  clear hb2 hlow h0
  go_wp2_with fail
  ((with_reducible refine c2.mono ?_))
  rintro _ w3 ⟨x, rfl, hx, hb3⟩
  have HB3 : Hid (Below w.heap.size w w3) := HB2.out.trans (hb3.mono HB2.out.size)
  obtain ⟨r, hr⟩ : ∃ r, r = (reM z0 4 0).1 := ⟨_, rfl⟩
  rw [← hr] at hx
  have HLV : Hid (Lv 161 4842888568831 5008 5766931476091 4966 r) := by rw [hr]; exact re4_lv z0 0
  have HDEP : Hid (r.dep ≤ 5) := by rw [hr]; exact (re_facts z0 4 0).2.2.1
  obtain ⟨y0, y1, y2, y3, y4, y5, y6, y7⟩ := x
  obtain ⟨C, hC⟩ : ∃ C, C = w3.heap.size := ⟨_, rfl⟩
  obtain ⟨w4, hw4⟩ : ∃ w4 : World, w4 = w3.alloc (.cells #[.int .i64 y0, .int .u64 y1, .int .u64 y2, .int .u64 y3, .int .u64 y4, .slice y5 y6 y7] 29) := ⟨_, rfl⟩
  have hb34 : Below w3.heap.size w3 w4 := by rw [hw4]; exact (Below.refl _ _).alloc (Nat.le_refl _) _
  have H4C : Hid (w4.heap[C]? = some (.cells #[.int .i64 y0, .int .u64 y1, .int .u64 y2, .int .u64 y3, .int .u64 y4, .slice y5 y6 y7] 29 (0, 0))) := by unfold Hid; rw [hw4, hC]; exact heap_alloc_new _ _
  have HX4 : Hid (RAt w4 (fun b => b ≠ C) ⟨y0, y1, y2, y3, y4, y5, y6, y7⟩ r) := (hx.weak fun b _ hl => by omega).under hb34
  have HB4 : Hid (Below w.heap.size w w4) := HB3.out.trans (hb34.mono HB3.out.size)
  have HW4 := Lib.hid hw4
  have HCC := Lib.hid hC
  obtain ⟨hnz, hlow⟩ := h1.low HB4.out
  subst hnz
  have c3 := letters_any hlow 4 (by decide)
  rw [show ((4 : Nat) : Int) = 4 from rfl] at c3
  clear hx hb3 hb34 hr hw4 hC hlow h1 c2
  unfold ReV.val
  go_wp2_with fail
  rw [← HW4.out, ← HCC.out]
  ((with_reducible refine c3.mono ?_))
  rintro _ w5 ⟨s, hs, rfl, hb5⟩
  have HB5 : Hid (Below w4.heap.size w4 w5) := hb5
  have HS := Lib.hid hs
  clear hb5 hs c3
  have h5C := (HB5.out.block C (Array.getElem?_eq_some_iff.1 H4C.out).1).trans H4C.out
  have H5C := Lib.hid h5C
  have HX5 := Lib.hid (HX4.out.under HB5.out)
  have HBW : Hid (Below w.heap.size w w5) := HB4.out.trans (HB5.out.mono HB4.out.size)
  have HWC : Hid (w.heap.size ≤ C) := by unfold Hid; rw [HCC.out]; exact HB3.out.size
  obtain ⟨N, hN⟩ : ∃ N, N = s.size := ⟨_, rfl⟩
  have hN2 := hN.symm
  have hNb : N ≤ 4 := by have := HS.out; omega
  have hlen : (byteL s).length = N := by rw [byteL_len, hN]
  have HLEN := Lib.hid hlen
  have HNS := Lib.hid hN
  have HF0 : Hid (FitM r ((byteL s).drop 0)) := fitM_lv HLV.out (by have := HDEP.out; omega) _ (by rw [List.drop_zero, hlen]; omega)
  clear h5C hN hlen
  go_wp2_with fail
  go_loopg [8] N (fun gk v wr => ∃ (i : Nat) (k a b c d : Int) (p : Option Addr) (n cap : Nat) (u : RT), v = .int .i64 (i : Int) ∧ i ≤ N ∧ N - i ≤ gk ∧ Hid (Below w.heap.size w wr) ∧ Hid (wr.heap[C]? = some (.cells #[.int .i64 k, .int .u64 a, .int .u64 b, .int .u64 c, .int .u64 d, .slice p n cap] 29 (0, 0))) ∧ Hid (RAt wr (fun g => g ≠ C) ⟨k, a, b, c, d, p, n, cap⟩ u) ∧ Hid (FitM u ((byteL s).drop i)) ∧ Hid (u = dersM r ((byteL s).take i)))
  case atStart => exact ⟨0, y0, y1, y2, y3, y4, y5, y6, y7, r, rfl, by omega, by omega, HBW.out, H5C.out, HX5.out, HF0.out, rfl⟩
  case round =>
    obtain ⟨i, k, a, b, c, d, p, n, cap, u, rfl, hi, hgk, HB, HR6, HU, HFM, HUE⟩ := hrel
    by_cases hlt : i < N
    · have hltz : (i : Int) < (N : Int) := by omega
      obtain ⟨⟨c0, c1, c2, c3, c4, c5⟩, _⟩ := six_facts HR6.out
      have hRl : C < wr.heap.size := (Array.getElem?_eq_some_iff.1 HR6.out).1
      have HRL := Lib.hid hRl
      obtain ⟨cb, hcb⟩ : ∃ cb, s.data.toList[i]? = some cb := ⟨_, List.getElem?_eq_getElem (by have := HNS.out; simp; omega)⟩
      have hSc : ∀ h : i < s.size, s[i]'h = cb := fun h => by
        have h1 := (List.getElem?_eq_some_iff.1 hcb).2
        rw [← h1]
        rfl
      have hg : (byteL s)[i]? = some cb.toNat := by unfold byteL; rw [List.getElem?_map, hcb]; rfl
      have hdr : (byteL s).drop i = cb.toNat :: (byteL s).drop (i + 1) := by
        have hl := (List.getElem?_eq_some_iff.1 hg).1
        rw [List.drop_eq_getElem_cons hl]
        congr 1
        exact (List.getElem?_eq_some_iff.1 hg).2
      have HUE2 : Hid (derivM cb.toNat u = dersM r ((byteL s).take (i + 1))) := by
        unfold Hid
        rw [List.take_add_one, hg, HUE.out]
        exact (ders_snoc r _ _).symm
      have hfm := HFM.out
      rw [hdr] at hfm
      obtain ⟨f1, f2, f3⟩ := hfm
      have HF3 := Lib.hid f3
      have hdr2 : Below wr.heap.size wr wr.drew := below_drawn (Below.refl _ _) 1
      have con := deriv_any wr.drew cb.toNat (UInt8.toNat_lt cb) _ u (HU.out.under hdr2) ((HT.out.stays HB.out).stays hdr2) f1 f2
      unfold ReV.val at con
      simp only [] at con
      have HDR2 := Lib.hid hdr2
      have hwz : IntKind.i64.wrap (cb.toNat : Int) = (cb.toNat : Int) := by have := UInt8.toNat_lt cb; rw [IntKind.wrap_i64]; omega
      clear hcb hdr hg f1 f2 f3 hdr2 hRl
      go_wp2_with fail
      go_cut [9, 10] from 9 to 10 (fun s9 s10 W => s9 = .bool true ∧ s10 = .bool true ∧ ∃ (e0 e1 e2 e3 e4 : Int) (q6 : Option Addr) (m6 cp6 : Nat), Hid (Below w.heap.size w W) ∧ Hid (W.heap[C]? = some (.cells #[.int .i64 e0, .int .u64 e1, .int .u64 e2, .int .u64 e3, .int .u64 e4, .slice q6 m6 cp6] 29 (0, 0))) ∧ Hid (RAt W (fun g => g ≠ C) ⟨e0, e1, e2, e3, e4, q6, m6, cp6⟩ (derivM cb.toNat u)))
      · go_region_law (first | (go_simp; go_at_call 9; (with_reducible (refine con.mono ?_)); rintro _ w6 ⟨x6, rfl, hx6, hb6⟩; obtain ⟨e0, e1, e2, e3, e4, q6, m6, cp6⟩ := x6; unfold ReV.val; have h6 := (hb6.block C (Nat.lt_of_lt_of_le HRL.out HDR2.out.size)).trans ((HDR2.out.block C HRL.out).trans HR6.out); obtain ⟨⟨z0, z1, z2, z3, z4, z5⟩, y0, y1, y2, y3, y4, y5⟩ := six_facts h6; have HX6 := Lib.hid hx6; have HB6 := Lib.hid hb6; have H6 := Lib.hid h6; clear hx6 hb6 h6) | fail)
        all_goals (go_wp2_with fail; go_meet)
        all_goals
          have hall : Below w.heap.size w w6 := HB.out.trans ((HDR2.out.trans (HB6.out.mono HDR2.out.size)).mono HB.out.size)
          refine ⟨rfl, rfl, e0, e1, e2, e3, e4, q6, m6, cp6, ?_, ?_, ?_⟩
          · first | exact six_set hall HWC.out _ _ _ _ _ _ | exact below_drawn (six_set hall HWC.out _ _ _ _ _ _) 1
          · exact set6_heap H6.out _ _ _ _ _ _
          · have hk := HX6.out.kept (W' := ((((((w6.setCell ⟨C, 0, none⟩ (.int .i64 e0)).setCell ⟨C, 1, none⟩ (.int .u64 e1)).setCell ⟨C, 2, none⟩ (.int .u64 e2)).setCell ⟨C, 3, none⟩ (.int .u64 e3)).setCell ⟨C, 4, none⟩ (.int .u64 e4)).setCell ⟨C, 5, none⟩ (.slice q6 m6 cp6))) (P' := fun g => g ≠ C) (Keeps.of (by simp [World.setCell]) fun z hz _ => ?_)
            · first | exact hk | exact hk.kept (Keeps.of (Nat.le_refl _) fun b hp hl => ⟨rfl, hp⟩)
            · have h1 := HRL.out
              have h2 : wr.heap.size ≤ wr.drew.heap.size := HDR2.out.size
              have hne : z ≠ C := by rcases hz with hz | hz; exact hz; omega
              exact ⟨six_ne hne _ _ _ _ _ _, hne⟩
      obtain ⟨rfl, rfl, e0, e1, e2, e3, e4, q6, m6, cp6, HBc, HCc, HXc⟩ := hcut
      obtain ⟨⟨z0, z1, z2, z3, z4, z5⟩, _⟩ := six_facts HCc.out
      obtain ⟨hgd, hsz⟩ := ders_fit HLV.out ((byteL s).take (i + 1)) (by rw [List.length_take, HLEN.out]; omega)
      rw [← HUE2.out] at hgd hsz
      have c6 := refright_any _ _ _ wc (Nat.le_refl _) (by omega) HXc.out
      rw [rightB_true hgd HXc.out.ok] at c6
      unfold ReV.val at c6
      simp only [] at c6
      clear hgd hsz
      go_wp2_with fail
      ((with_reducible refine c6.mono ?_))
      rintro _ w8 ⟨rfl, hb8⟩
      have HB8 : Hid (Below w.heap.size w w8) := HBc.out.trans (hb8.mono HBc.out.size)
      have HC8 := Lib.hid ((hb8.block C (Array.getElem?_eq_some_iff.1 HCc.out).1).trans HCc.out)
      have HX8 := Lib.hid (HXc.out.under hb8)
      clear hb8 c6
      go_wp2
      go_roundg (N - (i + 1))
      case measure => omega
      case rel => exact ⟨i + 1, e0, e1, e2, e3, e4, q6, m6, cp6, _, by go_num, by omega, Nat.le_refl _, HB8.out, HC8.out, HX8.out, HF3.out, HUE2.out⟩
    · have hltz : ¬ (i : Int) < (N : Int) := by omega
      go_wp2
      go_ret
      exact ⟨rfl, HB.out⟩

set_option maxRecDepth 100000 in
set_option maxHeartbeats 1000000 in
theorem lifted (os : Os) (started : os.Started) (H : Type) (enc : TypeId × Value → H) :
    ReturnsInHanded {} Tryz.checked os 4 .any (fun w args => (Rows.derivRightSpec.pre enc Tryz.prog Tryz.f4 Rows.derivRightRow.domain false w args ∧ laidMetH Tryz.prog Rows.derivRightRow.laid w) ∧ sizedMet enc Tryz.prog Tryz.f4 (OpenSpec.ofChange Rows.derivRightSpec) false w args)
      (Rows.derivRightSpec.post enc Tryz.prog Tryz.f4 false true false false) := by
  refine returnsInHanded_of_change_and (C := Tryz.checked) (X := fun w _ => laidMetH Tryz.prog Rows.derivRightRow.laid w) (fun _ _ _ hh h => h.of_heap hh) noKnob started (by kernel_rfl) Tryz.func4
    (ChangeSpec.witness_shaped (enc := enc) (C := Tryz.checked) (os := os) (X := fun w _ => laidMetH Tryz.prog Rows.derivRightRow.laid w) false (World.laidAll Tryz.prog os Rows.derivRightRow.laid) #[.slice none 0 0, .slice none 0 0] 8 (World.laidAll_os _ _ _)
      (World.shaped_of_ZipB (by kernel_rfl) (by kernel_rfl)) (by kernel_rfl) (by kernel_rfl) (by kernel_rfl)
      (by rw [MakeChecks.laidMetH_plain _ _ _ (by kernel_rfl)]; exact laidMet_laidAll _ (by kernel_rfl) (by kernel_rfl))) ?_
  intro W base args ds gs before hval0 hW hcnd _ hL _
  have hval : ∀ (j : Nat) t v, Tryz.f4.params[j]? = some t → args[j]? = some v → Value.okWide Tryz.prog W .any base t v := hval0
  have hW' := hW
  obtain ⟨p, q, hA0, hV, rfl, hfz, hnd⟩ := hW
  have hA : DataW.TrodAll enc Tryz.prog W 0 (fun _ => true) true Tryz.f4.params.toList args.toList ds p := hA0
  rw [Tryz.params4] at hA hval
  obtain ⟨v0, vs0, d0, ds0, p0, q0, hargs, rfl, rfl, h0, r0⟩ := trodAll_cons hA
  obtain ⟨v1, vs1, d1, ds1, p1, q1, rfl, rfl, rfl, h1, r1⟩ := trodAll_cons r0
  obtain ⟨rfl, rfl, rfl⟩ := trodAll_nil r1
  obtain rfl : args = #[v0, v1] := by cases args; simp_all
  obtain ⟨rfl, rfl⟩ := trodVars_none hV
  clear hA0 hval0 hA
  simp only [List.append_nil] at hW'
  have hlt := hW'.lt
  obtain ⟨z0, b0⟩ := open_bytes (hval 0 22 v0 rfl rfl) h0
  obtain ⟨z1, b1⟩ := open_bytes (hval 1 22 v1 rfl rfl) h1
  refine (walk v0 z0 v1 z1 W (tabs_of_laid hL (MakeChecks.laidMetH_plain _ _ _ (by kernel_rfl)) (by kernel_rfl) (by kernel_rfl)) b0 b1).mono fun e W' ⟨he, hg⟩ => ?_
  subst he
  exact ⟨_, rfl, post_of_old (pv := []) hW' (fun _ _ _ => trodAll_cons_mk (shut_bool Tryz.underlying4 _) trodAll_mk0) (trodAll_cons_mk (Below.trod laidOutP (by kernel_rfl) (of_decide_eq_true (by kernel_rfl)) h0 hg (fun x hx => by simpa using hlt x (by simp [hx]))) (trodAll_cons_mk (Below.trod laidOutP (by kernel_rfl) (of_decide_eq_true (by kernel_rfl)) h1 hg (fun x hx => by simpa using hlt x (by simp [hx]))) (trodAll_mk0))) (fun _ => rfl) (by simp) hg⟩

theorem over : Rows.derivRightRow.holds Tryz.pinned (OpenSpec.ofChange Rows.derivRightSpec) :=
  OpenClaim.holds_of_wide 4 Tryz.f4 rfl rfl rfl rfl rfl rfl rfl ⟨rfl, rfl, rfl, rfl, rfl⟩ rfl rfl rfl rfl rfl (by kernel_rfl) Tryz.func4 (by kernel_rfl)
    (of_decide_eq_true (by kernel_rfl)) (by unfold Func.isWrapper; first | (rw [if_pos (by decide +kernel)]; kernel_rfl) | (rw [if_neg (by decide +kernel)]; exact ⟨rfl, rfl⟩))
    (fun os started H enc _ => lifted os started H enc)

/-- No parameter wants a stand-in. -/
theorem plain (f : FuncId) (fn : Func) (hf : Tryz.pinned.checked.prog.funcNamed "reglet/regletlaw08.DerivRight" = some f) (hfn : Tryz.pinned.checked.prog.funcs[f]? = some fn) :
    false = Tryz.pinned.checked.prog.looks [] ∧ ∀ (j : Nat) t, fn.params[j]? = some t → Tryz.pinned.checked.prog.wantsStandIn t = false := by
  obtain rfl : f = 4 := Option.some.inj ((show Tryz.prog.funcNamed "reglet/regletlaw08.DerivRight" = some 4 by kernel_rfl).symm.trans hf) |>.symm
  obtain rfl : fn = Tryz.f4 := (Option.some.inj (Tryz.func4.symm.trans hfn)).symm
  refine ⟨by kernel_rfl, fun j t ht => ?_⟩
  rw [Tryz.params4] at ht
  have hm : t ∈ [22, 22] := by simpa using Array.mem_of_getElem? ht
  have hall : ([22, 22].all fun u => !Tryz.prog.wantsStandIn u) = true := by kernel_rfl
  exact (show Tryz.prog.wantsStandIn t = false by simpa using List.all_eq_true.1 hall t hm)

/-- The statement. -/
theorem proved : Rows.DerivRightCardSaid :=
  Claim7.holds_tied_plain_at .later [] _ _ _ _ over (fun _ h => by cases h) (by kernel_rfl) (fun _ h => by cases h) derivRight_row_tie rfl ⟨rfl, rfl⟩ (by kernel_rfl) rfl plain (by kernel_rfl)

#print axioms proved
end Go.Proofs.YtjeplmnjgdpgbaaGreatDoor.derivRight
