/- What the program's Deriv and Nullable answer of expressions by at most 150 numbers, letter by letter, at most 5 of them, is what the document says. No condition. -/
import Derived.Test.YtfgaadhacifhiaaGreatDoorV0
import Derived.Test.YtfgaadhacifhiaaGreatDoorV1
namespace Go.Proofs.YtfgaadhacifhiaaGreatDoor.derivMade
open Go.ChangeShapes Go.WideShapes Go.ChangeAt Go.RowKit Go.Proofs.YtfgaadhacifhiaaGreatDoor
open Go.ChangeMaps (open_string shut_string)
set_option linter.unusedVariables false
set_option linter.unusedSimpArgs false

open Go.Lib

set_option maxRecDepth 100000 in
set_option maxHeartbeats 8000000 in
theorem walk (x0 : Value) (z0 : List Int) (x1 : Value) (z1 : List Int) (w : World) (hT : Tab1 w) (h0 : BytesAt w x0 z0) (h1 : BytesAt w x1 z1) :
    Calls Tryz.prog 3 #[x0, x1] w (GivesBool true w) := by
  obtain ⟨av, nv, cv, rfl⟩ : ∃ a n c, x0 = .slice a n c := by obtain ⟨a, c, h, _⟩ := h0; exact ⟨a, _, c, h⟩
  obtain ⟨am, nm, cm, rfl⟩ : ∃ a n c, x1 = .slice a n c := by obtain ⟨a, c, h, _⟩ := h1; exact ⟨a, _, c, h⟩
  have HT := Lib.hid hT
  have hb2 := Below.refl w.heap.size w
  have HB2 := Lib.hid hb2
  obtain ⟨hnz, hlow⟩ := h0.low hb2
  subst hnz
  have c2 := made_any w av cv z0 0 (by decide) hlow
  rw [show ((0 : Nat) : Int) = 0 from rfl] at c2
  clear hb2 hlow h0 hT
  go_enter Tryz.func3, Tryz.ntmps3
  go_wp2_with fail
  ((with_reducible refine c2.mono ?_))
  rintro _ w3 ⟨x, rfl, hx, hb3⟩
  have HB3 : Hid (Below w.heap.size w w3) := HB2.out.trans (hb3.mono HB2.out.size)
  obtain ⟨r, hr⟩ : ∃ r, r = (reM z0 4 0).1 := ⟨_, rfl⟩
  rw [← hr] at hx
  have HLV : Hid (Lv 161 4842888568831 5008 5766931476091 4966 r) := by rw [hr]; exact re4_lv z0 0
  have HDEP : Hid (r.dep ≤ 5) := by rw [hr]; exact (re_facts z0 4 0).2.2.1
  obtain ⟨y0, y1, y2, y3, y4, y5, y6, y7⟩ := x
  obtain ⟨C, hC⟩ : ∃ C, C = w3.heap.size := ⟨_, rfl⟩
  obtain ⟨w4, hw4⟩ : ∃ w4 : World, w4 = w3.alloc (.cells #[.int .i64 y0, .int .u64 y1, .int .u64 y2, .int .u64 y3, .int .u64 y4, .slice y5 y6 y7] 28) := ⟨_, rfl⟩
  have hb34 : Below w3.heap.size w3 w4 := by rw [hw4]; exact (Below.refl _ _).alloc (Nat.le_refl _) _
  have H4C : Hid (w4.heap[C]? = some (.cells #[.int .i64 y0, .int .u64 y1, .int .u64 y2, .int .u64 y3, .int .u64 y4, .slice y5 y6 y7] 28 (0, 0))) := by unfold Hid; rw [hw4, hC]; exact heap_alloc_new _ _
  have HX4 : Hid (RAt w4 (fun b => b ≠ C) ⟨y0, y1, y2, y3, y4, y5, y6, y7⟩ r) := (hx.weak fun b _ hl => by omega).under hb34
  have HB4 : Hid (Below w.heap.size w w4) := HB3.out.trans (hb34.mono HB3.out.size)
  have HW4 := Lib.hid hw4
  have HCC := Lib.hid hC
  obtain ⟨hnz, hlow⟩ := h1.low HB4.out
  subst hnz
  have c3 := letters_any hlow 5 (by decide)
  rw [show ((5 : Nat) : Int) = 5 from rfl] at c3
  clear hx hb3 hb34 hr hw4 hC hlow h1 c2
  unfold ReV.val
  go_wp2_with fail
  rw [← HW4.out, ← HCC.out]
  ((with_reducible refine c3.mono ?_))
  rintro _ w5 ⟨s, hs, rfl, hb5⟩
  have HB5 : Hid (Below w4.heap.size w4 w5) := hb5
  have HS := Lib.hid hs
  clear hb5 hs c3
  have h5C := (HB5.out.block C (Array.getElem?_eq_some_iff.1 H4C.out).1).trans H4C.out
  have H5C := Lib.hid h5C
  have HX5 := Lib.hid (HX4.out.under HB5.out)
  have HBW : Hid (Below w.heap.size w w5) := HB4.out.trans (HB5.out.mono HB4.out.size)
  have HWC : Hid (w.heap.size ≤ C) := by unfold Hid; rw [HCC.out]; exact HB3.out.size
  obtain ⟨N, hN⟩ : ∃ N, N = s.size := ⟨_, rfl⟩
  have hN2 := hN.symm
  have hNb : N ≤ 5 := by have := HS.out; omega
  have hlen : (byteL s).length = N := by rw [byteQ_size, hN]
  have HLEN := Lib.hid hlen
  have HNS := Lib.hid hN
  have HF0 : Hid (FitM r ((byteL s).drop 0)) := fitM_lv HLV.out (by have := HDEP.out; omega) _ (by rw [List.drop_zero, hlen]; omega)
  clear h5C hN hlen
  go_wp2_with fail
  go_loopg [7] N (fun gk v wr => ∃ (i : Nat) (k a b c d : Int) (p : Option Addr) (n cap : Nat) (u : RT), v = .int .i64 (i : Int) ∧ i ≤ N ∧ N - i ≤ gk ∧ Hid (Below w.heap.size w wr) ∧ Hid (wr.heap[C]? = some (.cells #[.int .i64 k, .int .u64 a, .int .u64 b, .int .u64 c, .int .u64 d, .slice p n cap] 28 (0, 0))) ∧ Hid (RAt wr (fun g => g ≠ C) ⟨k, a, b, c, d, p, n, cap⟩ u) ∧ Hid (FitM u ((byteL s).drop i)) ∧ Hid (u = dersM r ((byteL s).take i)))
  case atStart => exact ⟨0, y0, y1, y2, y3, y4, y5, y6, y7, r, rfl, by omega, by omega, HBW.out, H5C.out, HX5.out, HF0.out, rfl⟩
  case round =>
    obtain ⟨i, k, a, b, c, d, p, n, cap, u, rfl, hi, hgk, HB, HR6, HU, HFM, HUE⟩ := hrel
    by_cases hlt : i < N
    · have hltz : (i : Int) < (N : Int) := by omega
      obtain ⟨⟨c0, c1, c2, c3, c4, c5⟩, _⟩ := six_facts HR6.out
      have hRl : C < wr.heap.size := (Array.getElem?_eq_some_iff.1 HR6.out).1
      have HRL := Lib.hid hRl
      obtain ⟨cb, hcb⟩ : ∃ cb, s.data.toList[i]? = some cb := ⟨_, List.getElem?_eq_getElem (by have := HNS.out; simp; omega)⟩
      have hSc : ∀ h : i < s.size, s[i]'h = cb := fun h => by
        have h1 := (List.getElem?_eq_some_iff.1 hcb).2
        rw [← h1]
        rfl
      have hg : (byteL s)[i]? = some cb.toNat := by unfold byteL; rw [List.getElem?_map, hcb]; rfl
      have hdr : (byteL s).drop i = cb.toNat :: (byteL s).drop (i + 1) := by
        have hl := (List.getElem?_eq_some_iff.1 hg).1
        rw [List.drop_eq_getElem_cons hl]
        congr 1
        exact (List.getElem?_eq_some_iff.1 hg).2
      have HUE2 : Hid (derivM cb.toNat u = dersM r ((byteL s).take (i + 1))) := by
        unfold Hid
        rw [List.take_add_one, hg, HUE.out]
        exact (dersQ_snoc r _ _).symm
      have hfm := HFM.out
      rw [hdr] at hfm
      obtain ⟨f1, f2, f3⟩ := hfm
      have HF3 := Lib.hid f3
      have hlow5 : ((byteL s).take i).length ≤ 4 := by rw [List.length_take, HLEN.out]; omega
      obtain ⟨hgd, hdm⟩ := dersQ_fit HLV.out ((byteL s).take i) hlow5
      rw [← HUE.out] at hgd hdm
      have hH : HMd (fun g => g ≠ C) C ⟨k, a, b, c, d, p, n, cap⟩ u (derivM cb.toNat u) (derivM cb.toNat u) s i cb wr :=
        ⟨HR6.out, HU.out, fun g hg => by omega, by have := HNS.out; omega, hSc, fun A w' y hb hy => deriv_any w' cb.toNat (UInt8.toNat_lt cb) y u hy ((HT.out.stays HB.out).stays hb) f1 f2, fun A w' y hb hy => refderiv_any cb.toNat (UInt8.toNat_lt cb) u.dep A u y w' (Nat.le_refl _) hgd (by omega) hy⟩
      have hgd2 := good_deriv cb.toNat u hgd
      obtain ⟨dd, hdd⟩ : ∃ dd, dd = derivM cb.toNat u := ⟨_, rfl⟩
      have hds : dd.sz ≤ 1000000000 := by
        have h1 := (sz_left (c := cb.toNat) hgd []).1
        have h2 : T 0 ([] : List RT) = 0 := rfl
        rw [hdd]
        omega
      rw [← hdd] at hH HUE2 HF3
      have HH := Lib.hid hH
      clear hcb hdr hg f1 f2 f3 hRl hH hgd hdm hgd2 hdd hlow5 hSc c0 c1 c2 c3 c4 c5
      go_wp2_with fail
      refine regMd HH.out (by kernel_rfl) rfl rfl rfl rfl ?_
      intro tm w6 D E ya za htm hfix h8 h9 hne hD hE hyD hy hzE hz hb6
      obtain ⟨tl⟩ := tm
      obtain ⟨t0, t1, t2, t3, t4, t5, t6, t7, t8, t9, t10, t11, t12, t13, t14, t15, t16, t17, t18, t19, t20, t21, t22, t23, t24, t25, t26, t27, t28, t29, t30, t31, t32, t33, t34, t35, t36, t37, t38, t39, t40, t41, t42, t43, t44, rfl⟩ := list45 tl htm
      rw [show (⟨[t0, t1, t2, t3, t4, t5, t6, t7, t8, t9, t10, t11, t12, t13, t14, t15, t16, t17, t18, t19, t20, t21, t22, t23, t24, t25, t26, t27, t28, t29, t30, t31, t32, t33, t34, t35, t36, t37, t38, t39, t40, t41, t42, t43, t44]⟩ : Array Value) = #[t0, t1, t2, t3, t4, t5, t6, t7, t8, t9, t10, t11, t12, t13, t14, t15, t16, t17, t18, t19, t20, t21, t22, t23, t24, t25, t26, t27, t28, t29, t30, t31, t32, t33, t34, t35, t36, t37, t38, t39, t40, t41, t42, t43, t44] from rfl]
      have q0 : t0 = .slice av z0.length cv := hfix 0 (by decide) (by decide) (by decide)
      have q1 : t1 = .slice am z1.length cm := hfix 1 (by decide) (by decide) (by decide)
      have q2 : t2 = undef := hfix 2 (by decide) (by decide) (by decide)
      have q3 : t3 = undef := hfix 3 (by decide) (by decide) (by decide)
      have q5 : t5 = .pointer (some ⟨C, 0, none⟩) := hfix 5 (by decide) (by decide) (by decide)
      have q6 : t6 = .string s := hfix 6 (by decide) (by decide) (by decide)
      have q7 : t7 = .int .i64 (i : Int) := hfix 7 (by decide) (by decide) (by decide)
      have q10 : t10 = .slice av z0.length cv := hfix 10 (by decide) (by decide) (by decide)
      have q11 : t11 = .agg #[.int .i64 y0, .int .u64 y1, .int .u64 y2, .int .u64 y3, .int .u64 y4, .slice y5 y6 y7] := hfix 11 (by decide) (by decide) (by decide)
      have q12 : t12 = .slice am z1.length cm := hfix 12 (by decide) (by decide) (by decide)
      have q13 : t13 = .string s := hfix 13 (by decide) (by decide) (by decide)
      have q44 : t44 = undef := hfix 44 (by decide) (by decide) (by decide)
      have q8 : t8 = .pointer (some ⟨D, 0, none⟩) := h8
      have q9 : t9 = .pointer (some ⟨E, 0, none⟩) := h9
      subst q0 q1 q2 q3 q5 q6 q7 q8 q9 q10 q11 q12 q13 q44
      refine (by assumption : ∀ (a : Act) (w : World), Code.wp Tryz.prog _ _ a w → _) _ _ ?_
      have HB6 : Hid (Below wr.heap.size wr w6) := hb6
      have HY := Lib.hid hy
      have HZ := Lib.hid hz
      obtain ⟨g0, g1, g2, g3, g4, g5, g6, g7⟩ := ya
      obtain ⟨e0, e1, e2, e3, e4, e5, e6, e7⟩ := za
      have HYD : Hid (w6.heap[D]? = some (.cells #[.int .i64 g0, .int .u64 g1, .int .u64 g2, .int .u64 g3, .int .u64 g4, .slice g5 g6 g7] 28 (0, 0))) := hyD
      have HZE : Hid (w6.heap[E]? = some (.cells #[.int .i64 e0, .int .u64 e1, .int .u64 e2, .int .u64 e3, .int .u64 e4, .slice e5 e6 e7] 28 (0, 0))) := hzE
      obtain ⟨⟨a0, a1, a2, a3, a4, a5⟩, _⟩ := six_facts HYD.out
      obtain ⟨⟨b0, b1, b2, b3, b4, b5⟩, _⟩ := six_facts HZE.out
      have hdr : Below w6.heap.size w6 w6.drew := below_drawn (Below.refl _ _) 1
      have con7 := sameg_any dd.dep dd dd _ _ w6.drew (Nat.le_refl _) (by omega) (HY.out.under hdr) (HZ.out.under hdr)
      rw [show sameB dd dd = true from (sameB_iff _ _).2 rfl] at con7
      unfold ReV.val at con7
      simp only [] at con7
      obtain ⟨m, hm⟩ : ∃ m, m = nullM dd := ⟨_, rfl⟩
      have HN8 : Hid (∀ W, Below w6.heap.size w6 W → Calls Tryz.prog 12 #[.agg #[.int .i64 g0, .int .u64 g1, .int .u64 g2, .int .u64 g3, .int .u64 g4, .slice g5 g6 g7]] W (GivesBool m W)) := fun W hb => by rw [hm]; exact nullable_any W ⟨g0, g1, g2, g3, g4, g5, g6, g7⟩ dd (HY.out.under hb) (by omega)
      have HN9 : Hid (∀ W, Below w6.heap.size w6 W → Calls Tryz.prog 13 #[.agg #[.int .i64 e0, .int .u64 e1, .int .u64 e2, .int .u64 e3, .int .u64 e4, .slice e5 e6 e7]] W (GivesBool m W)) := fun W hb => by rw [hm]; exact refnull_any dd.dep dd ⟨e0, e1, e2, e3, e4, e5, e6, e7⟩ W (Nat.le_refl _) (by omega) (HZ.out.under hb)
      have HCON7 := Lib.hid con7
      have HDR := Lib.hid hdr
      have HNE : Hid (D ≠ C) := by unfold Hid; have := HRL.out; omega
      have HDl : Hid (D < w6.heap.size) := (Array.getElem?_eq_some_iff.1 hyD).1
      have HCW : Hid (w6.heap[C]? = some (.cells #[.int .i64 k, .int .u64 a, .int .u64 b, .int .u64 c, .int .u64 d, .slice p n cap] 28 (0, 0))) := (hb6.block C HRL.out).trans HR6.out
      clear htm hfix h8 h9 hne hD hE hyD hy hzE hz hb6 con7 hdr hm
      go_wp2_with fail
      go_region_law (first
        | (go_simp; go_at_call 11; (with_reducible (refine HCON7.out.mono ?_)); rintro _ w7 ⟨rfl, hb7⟩; have HB7 : Hid (Below w6.heap.size w6 w7) := HDR.out.trans (hb7.mono HDR.out.size); obtain ⟨⟨i0, i1, i2, i3, i4, i5⟩, _⟩ := six_facts ((HB7.out.block D HDl.out).trans HYD.out); obtain ⟨⟨n0, n1, n2, n3, n4, n5⟩, _⟩ := six_facts ((HB7.out.block E (Array.getElem?_eq_some_iff.1 HZE.out).1).trans HZE.out); have con8 := HN8.out w7 HB7.out; clear hb7)
        | (go_simp; go_at_call 12; (with_reducible (refine con8.mono ?_)); rintro _ w8 ⟨rfl, hb8⟩; have HB8 : Hid (Below w6.heap.size w6 w8) := HB7.out.trans (hb8.mono HB7.out.size); obtain ⟨⟨j0, j1, j2, j3, j4, j5⟩, _⟩ := six_facts ((HB8.out.block E (Array.getElem?_eq_some_iff.1 HZE.out).1).trans HZE.out); have con9 := HN9.out w8 HB8.out; clear hb8)
        | (go_simp; go_at_call 13; (with_reducible (refine con9.mono ?_)); rintro _ w9 ⟨rfl, hb9⟩; have HB9 : Hid (Below w6.heap.size w6 w9) := HB8.out.trans (hb9.mono HB8.out.size); obtain ⟨⟨k0, k1, k2, k3, k4, k5⟩, _⟩ := six_facts ((HB9.out.block D HDl.out).trans HYD.out); obtain ⟨⟨l0, l1, l2, l3, l4, l5⟩, m0, m1, m2, m3, m4, m5⟩ := six_facts ((HB9.out.block C (Array.getElem?_eq_some_iff.1 HCW.out).1).trans HCW.out); clear hb9)
        | fail)
      all_goals go_wp2
      all_goals
        go_roundg (N - (i + 1))
        case measure => omega
        case rel =>
          have hall : Below w.heap.size w w9 := HB.out.trans ((HB6.out.trans (HB9.out.mono HB6.out.size)).mono HB.out.size)
          have h9C := (HB9.out.block C (Array.getElem?_eq_some_iff.1 HCW.out).1).trans HCW.out
          refine ⟨i + 1, g0, g1, g2, g3, g4, g5, g6, g7, dd, by go_num, by omega, Nat.le_refl _, ?_, set6_heap h9C _ _ _ _ _ _, ?_, HF3.out, HUE2.out⟩
          · exact six_set hall HWC.out _ _ _ _ _ _
          · refine (HY.out.under HB9.out).kept (Keeps.of (by simp [World.setCell]) fun z hz _ => ⟨six_ne hz.2 _ _ _ _ _ _, hz.2⟩)
    · have hltz : ¬ (i : Int) < (N : Int) := by omega
      have con := awaked_any wr (HT.out.stays HB.out)
      go_wp2_with fail
      ((with_reducible refine con.mono ?_))
      rintro _ w9 ⟨rfl, hb9⟩
      have HB9 : Hid (Below w.heap.size w w9) := HB.out.trans (hb9.mono HB.out.size)
      clear hb9 con
      go_wp2
      go_ret
      exact ⟨rfl, HB9.out⟩

set_option maxRecDepth 100000 in
set_option maxHeartbeats 1000000 in
theorem lifted (os : Os) (started : os.Started) (H : Type) (enc : TypeId × Value → H) :
    ReturnsInHanded {} Tryz.checked os 3 .any (fun w args => (Rows.derivMadeSpec.pre enc Tryz.prog Tryz.f3 Rows.derivMadeRow.domain false w args ∧ laidMetH Tryz.prog Rows.derivMadeRow.laid w) ∧ sizedMet enc Tryz.prog Tryz.f3 (OpenSpec.ofChange Rows.derivMadeSpec) false w args)
      (Rows.derivMadeSpec.post enc Tryz.prog Tryz.f3 false true false false) := by
  refine returnsInHanded_of_change_and (C := Tryz.checked) (X := fun w _ => laidMetH Tryz.prog Rows.derivMadeRow.laid w) (fun _ _ _ hh h => h.of_heap hh) noKnob started (by kernel_rfl) Tryz.func3
    (ChangeSpec.witness_shaped (enc := enc) (C := Tryz.checked) (os := os) (X := fun w _ => laidMetH Tryz.prog Rows.derivMadeRow.laid w) false (World.laidAll Tryz.prog os Rows.derivMadeRow.laid) #[.slice none 0 0, .slice none 0 0] 8 (World.laidAll_os _ _ _)
      (World.shaped_of_ZipB (by kernel_rfl) (by kernel_rfl)) (by kernel_rfl) (by kernel_rfl) (by kernel_rfl)
      (by rw [MakeChecks.laidMetH_plain _ _ _ (by kernel_rfl)]; exact laidMet_laidAll _ (by kernel_rfl) (by kernel_rfl))) ?_
  intro W base args ds gs before hval0 hW hcnd _ hL _
  have hval : ∀ (j : Nat) t v, Tryz.f3.params[j]? = some t → args[j]? = some v → Value.okWide Tryz.prog W .any base t v := hval0
  have hW' := hW
  obtain ⟨p, q, hA0, hV, rfl, hfz, hnd⟩ := hW
  have hA : DataW.TrodAll enc Tryz.prog W 0 (fun _ => true) true Tryz.f3.params.toList args.toList ds p := hA0
  rw [Tryz.params3] at hA hval
  obtain ⟨v0, vs0, d0, ds0, p0, q0, hargs, rfl, rfl, h0, r0⟩ := trodAll_cons hA
  obtain ⟨v1, vs1, d1, ds1, p1, q1, rfl, rfl, rfl, h1, r1⟩ := trodAll_cons r0
  obtain ⟨rfl, rfl, rfl⟩ := trodAll_nil r1
  obtain rfl : args = #[v0, v1] := by cases args; simp_all
  obtain ⟨rfl, rfl⟩ := trodVars_none hV
  clear hA0 hval0 hA
  simp only [List.append_nil] at hW'
  have hlt := hW'.lt
  obtain ⟨z0, b0⟩ := open_bytes (hval 0 22 v0 rfl rfl) h0
  obtain ⟨z1, b1⟩ := open_bytes (hval 1 22 v1 rfl rfl) h1
  refine (walk v0 z0 v1 z1 W (tabs_of_laid hL (MakeChecks.laidMetH_plain _ _ _ (by kernel_rfl)) (by kernel_rfl) (by kernel_rfl)) b0 b1).mono fun e W' ⟨he, hg⟩ => ?_
  subst he
  exact ⟨_, rfl, post_of_old (pv := []) hW' (fun _ _ _ => trodAll_cons_mk (shut_bool Tryz.underlying4 _) trodAll_mk0) (trodAll_cons_mk (Below.trod laidOutP (by kernel_rfl) (of_decide_eq_true (by kernel_rfl)) h0 hg (fun x hx => by simpa using hlt x (by simp [hx]))) (trodAll_cons_mk (Below.trod laidOutP (by kernel_rfl) (of_decide_eq_true (by kernel_rfl)) h1 hg (fun x hx => by simpa using hlt x (by simp [hx]))) (trodAll_mk0))) (fun _ => rfl) (by simp) hg⟩

theorem over : Rows.derivMadeRow.holds Tryz.pinned (OpenSpec.ofChange Rows.derivMadeSpec) :=
  OpenClaim.holds_of_wide 3 Tryz.f3 rfl rfl rfl rfl rfl rfl rfl ⟨rfl, rfl, rfl, rfl, rfl⟩ rfl rfl rfl rfl rfl (by kernel_rfl) Tryz.func3 (by kernel_rfl)
    (of_decide_eq_true (by kernel_rfl)) (by unfold Func.isWrapper; first | (rw [if_pos (by decide +kernel)]; kernel_rfl) | (rw [if_neg (by decide +kernel)]; exact ⟨rfl, rfl⟩))
    (fun os started H enc _ => lifted os started H enc)

/-- No parameter wants a stand-in. -/
theorem plain (f : FuncId) (fn : Func) (hf : Tryz.pinned.checked.prog.funcNamed "reglet/regletlaw08.DerivMade" = some f) (hfn : Tryz.pinned.checked.prog.funcs[f]? = some fn) :
    false = Tryz.pinned.checked.prog.looks [] ∧ ∀ (j : Nat) t, fn.params[j]? = some t → Tryz.pinned.checked.prog.wantsStandIn t = false := by
  obtain rfl : f = 3 := Option.some.inj ((show Tryz.prog.funcNamed "reglet/regletlaw08.DerivMade" = some 3 by kernel_rfl).symm.trans hf) |>.symm
  obtain rfl : fn = Tryz.f3 := (Option.some.inj (Tryz.func3.symm.trans hfn)).symm
  refine ⟨by kernel_rfl, fun j t ht => ?_⟩
  rw [Tryz.params3] at ht
  have hm : t ∈ [22, 22] := by simpa using Array.mem_of_getElem? ht
  have hall : ([22, 22].all fun u => !Tryz.prog.wantsStandIn u) = true := by kernel_rfl
  exact (show Tryz.prog.wantsStandIn t = false by simpa using List.all_eq_true.1 hall t hm)

/-- The statement. -/
theorem proved : Rows.DerivMadeCardSaid :=
  Claim7.holds_tied_plain_at .later [] _ _ _ _ over (fun _ h => by cases h) (by kernel_rfl) (fun _ h => by cases h) derivMade_row_tie rfl ⟨rfl, rfl⟩ (by kernel_rfl) rfl plain (by kernel_rfl)

#print axioms proved
end Go.Proofs.YtfgaadhacifhiaaGreatDoor.derivMade
