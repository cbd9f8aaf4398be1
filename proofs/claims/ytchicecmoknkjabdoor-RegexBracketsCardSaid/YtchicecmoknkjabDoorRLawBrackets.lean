/- Brackets make no difference to the program's Cat and Either, nor, to Either, order, and what is there twice: of expressions by at most 150 numbers, cut wherever. No condition. -/
import Derived.Test.YtchicecmoknkjabDoorZE
namespace Go.Proofs.YtchicecmoknkjabDoor.regexBrackets
open Go.ChangeShapes Go.WideShapes Go.ChangeAt Go.RowKit Go.Proofs.YtchicecmoknkjabDoor
open Go.ChangeMaps (open_string shut_string)
set_option linter.unusedVariables false
set_option linter.unusedSimpArgs false

open Go.Lib
theorem w64_in (x : Int) (h : -9223372036854775808 ≤ x ∧ x ≤ 9223372036854775807) : wrap64 x = x := by unfold wrap64; omega

set_option maxRecDepth 100000 in
set_option maxHeartbeats 8000000 in
theorem walk (x0 : Value) (z0 : List Int) (x1 : Int) (w : World) (hT : Tab1 w) (h0 : BytesAt w x0 z0) (h1 : 0 ≤ x1 ∧ x1 ≤ 255) :
    Calls Tryd.prog 3 #[x0, .int .u8 x1] w (GivesBool true w) := by
  obtain ⟨av, nv, cv, rfl⟩ : ∃ a n c, x0 = .slice a n c := by obtain ⟨a, c, h, _⟩ := h0; exact ⟨a, _, c, h⟩
  have hb1 := Below.refl w.heap.size w
  have HB1 := Lib.hid hb1
  have HT1 := Lib.hid hT
  have HX1 := Lib.hid h1
  clear hb1 h1
  go_enter Tryd.func3, Tryd.ntmps3
  go_wp2_with fail
  ((with_reducible refine (awaker_any _ (HT1.out)).mono ?_))
  rintro _ w2 ⟨rfl, hb2⟩
  have HB2 : Hid (Below w.heap.size w w2) := HB1.out.trans (hb2.mono HB1.out.size)
  obtain ⟨hnz, hlow⟩ := h0.low HB2.out
  subst hnz
  have c2 := few_any w2 av cv z0 hlow
  have HTW := Lib.hid (hT.stays HB2.out)
  clear hb2 hlow h0 hT HT1
  go_wp2_with fail
  ((with_reducible refine c2.mono ?_))
  rintro _ w3 ⟨q, n, cp, us, rfl, hn, ho, hl, he, hb3⟩
  have hk := kids_of_own hn ho hl he
  obtain ⟨f1, f2, f3⟩ := few_facts z0
  obtain ⟨F, hF⟩ : ∃ F, F = fewM z0 := ⟨_, rfl⟩
  rw [← hF] at hk hn f1 f2 f3
  have HK := Lib.hid hk
  have HN := Lib.hid hn
  have HF2 := Lib.hid f2
  have HF3 := Lib.hid f3
  have HB3 : Hid (Below w.heap.size w w3) := HB2.out.trans (hb3.mono HB2.out.size)
  have HT3 := Lib.hid (HTW.out.stays hb3)
  have hn4 : n ≤ 4 := by omega
  have HFF := Lib.hid hF
  clear hk hn ho hl he hb3 f1 f2 f3 hF c2
  by_cases hn2 : n < 2
  · have hn2z : (n : Int) < 2 := by omega
    go_wp2_with fail
    go_ret
    exact ⟨rfl, HB3.out⟩
  have hn2z : ¬ (n : Int) < 2 := by omega
  obtain ⟨k, hk0, hk1, hk2⟩ : ∃ k : Nat, (x1.tmod ((n : Int) - 1)) + 1 = (k : Int) ∧ 1 ≤ k ∧ k < n := by
    have h1 := HX1.out
    have h2 := Int.tmod_nonneg (a := x1) ((n : Int) - 1) h1.1
    have h3 := Int.tmod_lt_of_pos x1 (b := (n : Int) - 1) (by omega)
    exact ⟨(x1.tmod ((n : Int) - 1) + 1).toNat, by omega, by omega, by omega⟩
  have hnz : ((n : Int) - 1 == 0) = false := by simp; omega
  go_wp2_with fail
  have hk9 : wrap64 (1 + (wrap64 x1).tmod ((n : Int) - 1)) = (k : Int) := by
    have h1 := HX1.out
    rw [show wrap64 x1 = x1 from w64_in x1 (by omega), show 1 + x1.tmod ((n : Int) - 1) = (k : Int) by omega]
    exact w64_in _ (by omega)
  rw [hk9]
  have HKK := Lib.hid (And.intro hk1 hk2)
  clear hk0 hk9 hnz
  obtain ⟨i0, hi0, hz0, hz1, hz2⟩ := re_parts
  go_loopg [8, 9] n (fun gk v8 vi wr => ∃ (j : Nat) (q8 : Option Addr) (N c8 : Nat) (us8 : List ReV) (L : List RT), v8 = .slice q8 N c8 ∧ vi = .int .i64 ((n : Int) - 1 - (j : Int)) ∧ j ≤ n ∧ n - j ≤ gk ∧ Hid (N = 2 * j) ∧ N ≤ 8 ∧ Hid (Below w3.heap.size w3 wr) ∧ Hid (OwnRe w3 wr (fun b => w2.heap.size ≤ b) (.slice q8 N c8) us8 L) ∧ Hid (L.length = N) ∧ Hid (∀ x ∈ L, x ∈ F) ∧ Hid (∀ t : Nat, n - j ≤ t → ∀ x, F[t]? = some x → x ∈ L))
  case atStart => exact ⟨0, none, 0, 0, [], [], rfl, by rw [show ((n : Int) - 1 - ((0 : Nat) : Int)) = (n : Int) - 1 by omega], by omega, by omega, rfl, by omega, Below.refl _ _, ⟨World.ownsRow_nil _ _ _ _, rfl, fun i y t hy => by simp at hy⟩, rfl, fun x hx => by simp at hx, fun t ht x hx => by have := (List.getElem?_eq_some_iff.1 hx).1; have := HN.out; omega⟩
  case round =>
    obtain ⟨j, q8, N, c8, us8, L, rfl, rfl, hj, hgk, HNN, hN8, HB, HO, HLL, HLF, HLT⟩ := hrel
    obtain ⟨g, off, rfl⟩ := HK.out.rowv.some_of (show 0 < n by omega)
    by_cases hlt : j < n
    · obtain ⟨i, hi⟩ : ∃ i : Nat, (i : Int) = (n : Int) - 1 - (j : Int) := ⟨n - 1 - j, by omega⟩
      rw [← hi]
      have hin : i < n := by omega
      have hgez : (i : Int) ≥ 0 := by omega
      have hn0z : (0 : Int) < (n : Int) := by omega
      have hn0n : 0 < n := by omega
      have hinz : (i : Int) < (n : Int) := by omega
      have hil : i < F.length := by rw [← HN.out]; exact hin
      have hil0 : 0 < F.length := by omega
      obtain ⟨y, hy⟩ : ∃ y, us[i]? = some y := ⟨_, List.getElem?_eq_getElem (by rw [HK.out.len]; exact hil)⟩
      obtain ⟨u, hu⟩ : ∃ u, F[i]? = some u := ⟨_, List.getElem?_eq_getElem hil⟩
      obtain ⟨z, hz⟩ : ∃ z, us[0]? = some z := ⟨_, List.getElem?_eq_getElem (by rw [HK.out.len]; exact hil0)⟩
      obtain ⟨v, hv⟩ : ∃ v, F[0]? = some v := ⟨_, List.getElem?_eq_getElem hil0⟩
      have HRA := Lib.hid (HK.out.each i y u hy hu)
      have HRZ := Lib.hid (HK.out.each 0 z v hz hv)
      have HU := Lib.hid hu
      have HV := Lib.hid hv
      have HI := Lib.hid hi
      have hpl := (HK.out.place hy).under HB.out
      have hpz := (HK.out.place hz).under HB.out
      have hN6 : N ≤ 6 := by have := HNN.out; omega
      obtain ⟨y0, y1, y2, y3, y4, y5, y6, y7⟩ := y
      obtain ⟨zk, z1, z2, z3, z4, z5, z6, z7⟩ := z
      obtain ⟨e0, e1, e2, e3, e4, e5⟩ := hpl.six
      obtain ⟨f0, f1, f2, f3, f4, f5⟩ := hpz.six
      simp only [Nat.zero_mul, Nat.add_zero] at e0 e1 e2 e3 e4 e5 f0 f1 f2 f3 f4 f5
      have HOB : Hid ((wr.drew.alloc (.cells #[.int .i64 y0, .int .u64 y1, .int .u64 y2, .int .u64 y3, .int .u64 y4, .slice y5 y6 y7, .int .i64 zk, .int .u64 z1, .int .u64 z2, .int .u64 z3, .int .u64 z4, .slice z5 z6 z7] 30)).ownsRow w3.heap.size 30 6 (.slice q8 N c8) N (us8.flatMap ReV.cells)) := by
        have h := (HO.out.drewAlloc (.cells #[.int .i64 y0, .int .u64 y1, .int .u64 y2, .int .u64 y3, .int .u64 y4, .slice y5 y6 y7, .int .i64 zk, .int .u64 z1, .int .u64 z2, .int .u64 z3, .int .u64 z4, .slice z5 z6 z7] 30)).own
        rw [HLL.out] at h
        exact h
      have HAB : Hid (∀ b, (Value.slice q8 N c8).ownBlock = some b → w3.heap.size ≤ b) := own_above HOB.out
      have hwle : w3.heap.size ≤ wr.heap.size := HB.out.size
      clear hpl hpz hy hu hz hv hi hil hil0
      go_wp2_with fail
      go_region_law (refine step_append_lies _ (by rfl) _ _ _ (by rfl) w3.heap.size 30 i0 _ 6 64 Tryd.underlying24 hi0 hz0 hz1 hz2 rfl (by omega) (.slice q8 N c8) N (us8.flatMap ReV.cells) (by rfl) HOB.out ⟨wr.drew.heap.size, 0, none⟩ 2 2 [.int .i64 y0, .int .u64 y1, .int .u64 y2, .int .u64 y3, .int .u64 y4, .slice y5 y6 y7, .int .i64 zk, .int .u64 z1, .int .u64 z2, .int .u64 z3, .int .u64 z4, .slice z5 z6 z7] (by rfl) (by rfl) (new3 wr.drew #[.int .i64 y0, .int .u64 y1, .int .u64 y2, .int .u64 y3, .int .u64 y4, .slice y5 y6 y7, .int .i64 zk, .int .u64 z1, .int .u64 z2, .int .u64 z3, .int .u64 z4, .slice z5 z6 z7] 30 [.int .i64 y0, .int .u64 y1, .int .u64 y2, .int .u64 y3, .int .u64 y4, .slice y5 y6 y7, .int .i64 zk, .int .u64 z1, .int .u64 z2, .int .u64 z3, .int .u64 z4, .slice z5 z6 z7] rfl) (flat6_one [⟨y0, y1, y2, y3, y4, y5, y6, y7⟩, ⟨zk, z1, z2, z3, z4, z5, z6, z7⟩]) (by omega) (by unfold maxLen; omega) (by omega) (by simp; omega) (wr.heap.size + 1) (by simp) ?_; intro gO capO w5 hown hgrow hat hlt7; have HOWN := Lib.hid hown; have HGROW := Lib.hid hgrow; clear hown hgrow hat hlt7)
      all_goals
        have HB5 : Hid (Below w3.heap.size w3 w5) := ((below_drawn HB.out 1).alloc HB.out.size _).grown HGROW.out (by simp; omega) HAB.out
        have HON : Hid (OwnRe w3 w5 (fun b => w2.heap.size ≤ b) (.slice (some ⟨gO, 0, none⟩) (N + 2) capO) (us8 ++ [⟨y0, y1, y2, y3, y4, y5, y6, y7⟩, ⟨zk, z1, z2, z3, z4, z5, z6, z7⟩]) (L ++ [u, v])) := by
          refine HO.out.push2 HRA.out HRZ.out ?_
          rw [HLL.out]
          exact HOWN.out
        clear HOWN HGROW e0 e1 e2 e3 e4 e5 f0 f1 f2 f3 f4 f5 hwle
        go_wp2_with fail
        go_roundg (n - (j + 1))
        case measure => omega
        case rel =>
          refine ⟨j + 1, _, N + 2, _, _, _, rfl, ?_, by omega, Nat.le_refl _, by unfold Hid; rw [HNN.out]; omega, by omega, HB5, HON, by unfold Hid; rw [List.length_append, HLL.out]; rfl, fun x hx => ?_, fun t ht x hx => ?_⟩
          · have := HI.out
            first
              | (congr 1; omega)
              | (go_num; omega)
              | (rw [w64_in _ (by omega)]; congr 1; omega)
          · rcases List.mem_append.1 hx with q | q
            · exact HLF.out x q
            · simp at q
              rcases q with rfl | rfl
              · exact List.mem_of_getElem? HU.out
              · exact List.mem_of_getElem? HV.out
          · by_cases e : n - j ≤ t
            · exact List.mem_append_left _ (HLT.out t e x hx)
            · have : t = i := by have := HI.out; omega
              subst this
              have := Option.some.inj (hx.symm.trans HU.out)
              subst this
              simp
    · have hgez : ¬ ((n : Int) - 1 - (j : Int)) ≥ 0 := by omega
      have hjn : j = n := by omega
      have HM : Hid (∀ x, x ∈ L ↔ x ∈ F) := fun x => ⟨HLF.out x, fun hx => by
        obtain ⟨t, ht⟩ := List.mem_iff_getElem?.1 hx
        exact HLT.out t (by omega) x ht⟩
      have HSL : Hid ((L.map RT.sz).sum ≤ 4096) := by
        have := sum_all (l := L) (B := 512) fun t ht => (HF2.out t (HLF.out t ht)).2.1
        rw [HLL.out] at this
        unfold Hid
        omega
      have HKR := Lib.hid (HK.out.under HB.out)
      have HKL := Lib.hid (HO.out.kidsAt HB.out)
      have HTR := Lib.hid (HT3.out.stays HB.out)
      have HGD : Hid (∀ t ∈ F, good t) := fun t ht => (HF2.out t ht).1
      have HD4 : Hid (∀ t ∈ F, t.dep ≤ 4) := fun t ht => (HF2.out t ht).2.2
      have HZ : Hid (∀ t ∈ F, t.sz ≤ 512) := fun t ht => (HF2.out t ht).2.1
      have hab : F.take k ++ F.drop k = F := List.take_append_drop k F
      have hA : ∀ t ∈ F.take k, t ∈ F := fun t ht => List.mem_of_mem_take ht
      have hB : ∀ t ∈ F.drop k, t ∈ F := fun t ht => List.mem_of_mem_drop ht
      have hsA : ((F.take k).map RT.sz).sum ≤ 2048 := by
        have := sum_all (l := F.take k) (B := 512) fun t ht => HZ.out t (hA t ht)
        have h2 : (F.take k).length ≤ 4 := by rw [List.length_take, ← HN.out]; omega
        omega
      have hsB : ((F.drop k).map RT.sz).sum ≤ 2048 := by
        have := sum_all (l := F.drop k) (B := 512) fun t ht => HZ.out t (hB t ht)
        have h2 : (F.drop k).length ≤ 4 := by rw [List.length_drop, ← HN.out]; omega
        omega
      have hcat := cat_two (a := F.take k) (b := F.drop k) (fun t ht => HGD.out t (hA t ht)) (fun t ht => HGD.out t (hB t ht))
      have heit := either_two (a := F.take k) (b := F.drop k) (fun t ht => HGD.out t (hA t ht)) (fun t ht => HGD.out t (hB t ht))
      rw [hab] at hcat heit
      have hbk := either_back HM.out
      have s1 := sz_cat (F.take k)
      have s2 := sz_cat (F.drop k)
      have s3 := sz_either (F.take k)
      have s4 := sz_either (F.drop k)
      have s5 := sz_cat F
      have s6 := sz_either F
      have s7 := sz_either L
      have s8 := sz_either [eitherM (F.take k), eitherM (F.drop k)]
      have d1 : (eitherM (F.take k)).dep ≤ 5 := dep_either (by decide) fun t ht => HD4.out t (hA t ht)
      have d2 : (eitherM (F.drop k)).dep ≤ 5 := dep_either (by decide) fun t ht => HD4.out t (hB t ht)
      have d3 : (eitherM [eitherM (F.take k), eitherM (F.drop k)]).dep ≤ 6 := dep_either (by decide) fun t ht => by
        simp at ht
        rcases ht with rfl | rfl
        · exact d1
        · exact d2
      have d4 := dep_cat HD4.out
      have d5 := dep_either (by decide) HD4.out
      have d6 : (eitherM L).dep ≤ 5 := dep_either (by decide) fun t ht => HD4.out t (HLF.out t ht)
      have h3 := HF3.out
      have h4 := HSL.out
      have h8 : ([eitherM (F.take k), eitherM (F.drop k)].map RT.sz).sum ≤ 5000 := by simp; omega
      obtain ⟨TA, hTA⟩ : ∃ T, T = catM (F.take k) := ⟨_, rfl⟩
      obtain ⟨TB, hTB⟩ : ∃ T, T = catM (F.drop k) := ⟨_, rfl⟩
      obtain ⟨EA, hEA⟩ : ∃ T, T = eitherM (F.take k) := ⟨_, rfl⟩
      obtain ⟨EB, hEB⟩ : ∃ T, T = eitherM (F.drop k) := ⟨_, rfl⟩
      obtain ⟨TF, hTF⟩ : ∃ T, T = catM F := ⟨_, rfl⟩
      obtain ⟨EF, hEF⟩ : ∃ T, T = eitherM F := ⟨_, rfl⟩
      obtain ⟨EL, hEL⟩ : ∃ T, T = eitherM L := ⟨_, rfl⟩
      obtain ⟨E2, hE2⟩ : ∃ T, T = eitherM [eitherM (F.take k), eitherM (F.drop k)] := ⟨_, rfl⟩
      obtain ⟨S1, hS1⟩ : ∃ S : ByteArray, S = ⟨(txt TF).toArray⟩ := ⟨_, rfl⟩
      obtain ⟨S2, hS2⟩ : ∃ S : ByteArray, S = ⟨(txt EF).toArray⟩ := ⟨_, rfl⟩
      have hS3 : S2 = ⟨(txt E2).toArray⟩ := by rw [hS2, hEF, hE2, heit]
      have hS4 : S2 = ⟨(txt EL).toArray⟩ := by rw [hS2, hEF, hEL, hbk]
      have HA1 : Hid (∀ W, Below wr.heap.size wr W → Calls Tryd.prog 8 #[.slice (some ⟨g, off, none⟩) k cp] W (GivesT TA W)) := fun W hb => by rw [hTA]; exact catT ((HKR.out.under hb).takeK (by omega)) (by omega)
      have HA2 : Hid (∀ W, Below wr.heap.size wr W → Calls Tryd.prog 8 #[.slice (some ⟨g, off + k * 6, none⟩) (n - k) (cp - k)] W (GivesT TB W)) := fun W hb => by rw [hTB]; exact catT ((HKR.out.under hb).dropK (by omega)) (by omega)
      have HA3 : Hid (∀ (W : World) (q : Option Addr) (m cp : Nat) (vs : List ReV), KidsR W (fun _ => True) q m cp vs [TA, TB] → Calls Tryd.prog 8 #[.slice q m cp] W (GivesT TF W)) := fun W q m cp vs hk => by
        have h := catT hk (two_sum _ _ (by rw [hTA]; omega) (by rw [hTB]; omega))
        rw [hTA, hTB, hcat, ← hTF] at h
        exact h
      have HA4 : Hid (∀ (W : World) (k a b c d : Int) (q : Option Addr) (m cp : Nat), Below wr.heap.size wr W → RAt W (fun _ => True) ⟨k, a, b, c, d, q, m, cp⟩ TF → Calls Tryd.prog 7 #[.agg #[.int .i64 k, .int .u64 a, .int .u64 b, .int .u64 c, .int .u64 d, .slice q m cp]] W fun e w' => e = .returned (.string S1) ∧ Below W.heap.size W w') := fun W k a b c d q m cp hb hr => textT hr (HTR.out.stays hb) (by rw [hTF]; omega) (by rw [hTF]; omega) hS1
      have HE0 : Hid (∀ W, Below wr.heap.size wr W → Calls Tryd.prog 9 #[.slice (some ⟨g, off, none⟩) n cp] W (GivesT EF W)) := fun W hb => by rw [hEF]; exact eitherT (HKR.out.under hb) (HTR.out.stays hb) (fun t ht => by have := HD4.out t ht; omega) (by omega)
      have HC0 : Hid (∀ W, Below wr.heap.size wr W → Calls Tryd.prog 8 #[.slice (some ⟨g, off, none⟩) n cp] W (GivesT TF W)) := fun W hb => by rw [hTF]; exact catT (HKR.out.under hb) (by omega)
      have HE1 : Hid (∀ W, Below wr.heap.size wr W → Calls Tryd.prog 9 #[.slice (some ⟨g, off, none⟩) k cp] W (GivesT EA W)) := fun W hb => by rw [hEA]; exact eitherT ((HKR.out.under hb).takeK (by omega)) (HTR.out.stays hb) (fun t ht => by have := HD4.out t (hA t ht); omega) (by omega)
      have HE2 : Hid (∀ W, Below wr.heap.size wr W → Calls Tryd.prog 9 #[.slice (some ⟨g, off + k * 6, none⟩) (n - k) (cp - k)] W (GivesT EB W)) := fun W hb => by rw [hEB]; exact eitherT ((HKR.out.under hb).dropK (by omega)) (HTR.out.stays hb) (fun t ht => by have := HD4.out t (hB t ht); omega) (by omega)
      have HE3 : Hid (∀ (W : World) (q : Option Addr) (m cp : Nat) (vs : List ReV), Below wr.heap.size wr W → KidsR W (fun _ => True) q m cp vs [EA, EB] → Calls Tryd.prog 9 #[.slice q m cp] W (GivesT E2 W)) := fun W q m cp vs hb hk => by
        have h := eitherT hk (HTR.out.stays hb) (fun t ht => by
          simp at ht
          rcases ht with rfl | rfl
          · rw [hEA]; omega
          · rw [hEB]; omega) (two_sum _ _ (by rw [hEA]; omega) (by rw [hEB]; omega))
        rw [hE2, ← hEA, ← hEB]
        exact h
      have HE4 : Hid (∀ (W : World) (k a b c d : Int) (q : Option Addr) (m cp : Nat), Below wr.heap.size wr W → RAt W (fun _ => True) ⟨k, a, b, c, d, q, m, cp⟩ E2 → Calls Tryd.prog 7 #[.agg #[.int .i64 k, .int .u64 a, .int .u64 b, .int .u64 c, .int .u64 d, .slice q m cp]] W fun e w' => e = .returned (.string S2) ∧ Below W.heap.size W w') := fun W k a b c d q m cp hb hr => textT hr (HTR.out.stays hb) (by rw [hE2]; omega) (by rw [hE2]; omega) hS3
      have HE5 : Hid (∀ W, Below wr.heap.size wr W → Calls Tryd.prog 9 #[.slice q8 N c8] W (GivesT EL W)) := fun W hb => by rw [hEL]; exact eitherT (HKL.out.under hb) (HTR.out.stays hb) (fun t ht => by have := HD4.out t (HLF.out t ht); omega) (by omega)
      have HE6 : Hid (∀ (W : World) (k a b c d : Int) (q : Option Addr) (m cp : Nat), Below wr.heap.size wr W → RAt W (fun _ => True) ⟨k, a, b, c, d, q, m, cp⟩ EL → Calls Tryd.prog 7 #[.agg #[.int .i64 k, .int .u64 a, .int .u64 b, .int .u64 c, .int .u64 d, .slice q m cp]] W fun e w' => e = .returned (.string S2) ∧ Below W.heap.size W w') := fun W k a b c d q m cp hb hr => textT hr (HTR.out.stays hb) (by rw [hEL]; omega) (by rw [hEL]; omega) hS4
      have HE7 : Hid (∀ (W : World) (k a b c d : Int) (q : Option Addr) (m cp : Nat), Below wr.heap.size wr W → RAt W (fun _ => True) ⟨k, a, b, c, d, q, m, cp⟩ EF → Calls Tryd.prog 7 #[.agg #[.int .i64 k, .int .u64 a, .int .u64 b, .int .u64 c, .int .u64 d, .slice q m cp]] W fun e w' => e = .returned (.string S2) ∧ Below W.heap.size W w') := fun W k a b c d q m cp hb hr => textT hr (HTR.out.stays hb) (by rw [hEF]; omega) (by rw [hEF]; omega) hS2
      have hnc : n ≤ cp := by
        rcases HK.out.row with ⟨h, _⟩ | ⟨_, _, _, h, _⟩
        · omega
        · exact h
      have hkcz : (k : Int) ≤ (cp : Int) := by have := HKK.out; omega
      have hknz : (k : Int) ≤ (n : Int) := by have := HKK.out; omega
      have hncz : (n : Int) ≤ (cp : Int) := by omega
      have hk0z : (0 : Int) ≤ (k : Int) := by omega
      have hkc : k ≤ cp := by omega
      have hkn : k ≤ n := by omega
      clear hjn hab hA hB hsA hsB hcat heit hbk s1 s2 s3 s4 s5 s6 s7 s8 d1 d2 d3 d4 d5 d6 h3 h4 h8 hTA hTB hEA hEB hTF hEF hEL hE2 hS1 hS2 hS3 hS4
      go_wp2_with fail
      ((with_reducible refine (HC0.out wr (Below.refl _ _)).mono ?_))
      rintro _ v1 ⟨kx, ax, bx, cx, dx, qx, mx, px, rfl, hx, hb⟩
      have HV1 := Lib.hid hb
      have c2 := HA4.out v1 kx ax bx cx dx qx mx px hb hx
      clear hx hb
      go_wp2_with fail
      ((with_reducible refine c2.mono ?_))
      rintro _ v2 ⟨rfl, hb⟩
      have HV2 : Hid (Below wr.heap.size wr v2) := HV1.out.trans (hb.mono HV1.out.size)
      clear hb c2
      go_wp2_with fail
      ((with_reducible refine (HE0.out v2 HV2.out).mono ?_))
      rintro _ v3 ⟨kz, az, bz, cz, dz, qz, mz, pz, rfl, hx, hb⟩
      have HV3 : Hid (Below wr.heap.size wr v3) := HV2.out.trans (hb.mono HV2.out.size)
      have c4 := HE7.out v3 kz az bz cz dz qz mz pz HV3.out hx
      clear hx hb
      go_wp2_with fail
      ((with_reducible refine c4.mono ?_))
      rintro _ w8 ⟨rfl, hb⟩
      have HU8 : Hid (Below wr.heap.size wr w8) := HV3.out.trans (hb.mono HV3.out.size)
      clear hb c4
      go_wp2_with fail
      have hup : ∀ W, Below w8.heap.size w8 W → Below wr.heap.size wr W := fun W hb => HU8.out.trans (hb.mono HU8.out.size)
      have hn8 : n ≤ cp := hnc
      refine brk_region (p := ⟨.slice (some ⟨g, off, none⟩) n cp, .slice (some ⟨g, off, none⟩) k cp, .slice (some ⟨g, off + k * 6, none⟩) (n - k) (cp - k), .slice q8 N c8, .int .i64 (k : Int), .string S1, .string S2, TA, TB, TF, EA, EB, E2, EL⟩) (g := g) (off := off) (k := k) (n := n) (cp := cp) (S1 := S1) (S2 := S2)
        { hF := rfl, hK := rfl, hA := rfl, hB := rfl, h1 := rfl, h2 := rfl, kn := hk2, nc := hn8
          hA1 := fun W hb => HA1.out W (hup W hb)
          hA2 := fun W hb => HA2.out W (hup W hb)
          hA3 := fun W hb q m cp vs h => HA3.out W q m cp vs h
          hA4 := fun W hb k x c e f q m cp h => HA4.out W k x c e f q m cp (hup W hb) h
          hE1 := fun W hb => HE1.out W (hup W hb)
          hE2 := fun W hb => HE2.out W (hup W hb)
          hE3 := fun W hb q m cp vs h => HE3.out W q m cp vs (hup W hb) h
          hE4 := fun W hb k x c e f q m cp h => HE4.out W k x c e f q m cp (hup W hb) h
          hE5 := fun W hb => HE5.out W (hup W hb)
          hE6 := fun W hb k x c e f q m cp h => HE6.out W k x c e f q m cp (hup W hb) h } (by kernel_rfl) rfl ?_ ?_
      · intro x hx
        simp only [BP.f, List.mem_cons, List.not_mem_nil, or_false] at hx
        rcases hx with rfl | rfl | rfl | rfl | rfl | rfl <;> rfl
      intro tm w9 htm h4 hb9
      have hres : (results Tryd.f3 tm).run Tryd.prog w9 = .ok (.bool true) w9 := by
        have hf : Tryd.f3.results = #[.tmp 4] := by kernel_rfl
        simp [results, hf]
        rw [← Array.getD_eq_getD_getElem?]
        exact h4
      refine (by assumption : ∀ (a : Act) (w : World), Code.wp Tryd.prog Code.ret _ a w → _) _ _ ?_
      have hend : GivesBool true w (.returned (.bool true)) w9 := ⟨rfl, HB3.out.trans ((HB.out.trans ((hup w9 hb9).mono HB.out.size)).mono HB3.out.size)⟩
      exact wp_ret (bodyPost_ret_by (P := Tryd.prog) (fn := Tryd.f3) (R := GivesBool true w) (a := ⟨tm, []⟩) hres rfl hend)

set_option maxRecDepth 100000 in
set_option maxHeartbeats 1000000 in
theorem lifted (os : Os) (started : os.Started) (H : Type) (enc : TypeId × Value → H) :
    ReturnsInHanded {} Tryd.checked os 3 .any (fun w args => (Rows.regexBracketsSpec.pre enc Tryd.prog Tryd.f3 Rows.regexBracketsRow.domain false w args ∧ laidMetH Tryd.prog Rows.regexBracketsRow.laid w) ∧ sizedMet enc Tryd.prog Tryd.f3 (OpenSpec.ofChange Rows.regexBracketsSpec) false w args)
      (Rows.regexBracketsSpec.post enc Tryd.prog Tryd.f3 false true false false) := by
  refine returnsInHanded_of_change_and (C := Tryd.checked) (X := fun w _ => laidMetH Tryd.prog Rows.regexBracketsRow.laid w) (fun _ _ _ hh h => h.of_heap hh) noKnob started (by kernel_rfl) Tryd.func3
    (ChangeSpec.witness_shaped (enc := enc) (C := Tryd.checked) (os := os) (X := fun w _ => laidMetH Tryd.prog Rows.regexBracketsRow.laid w) false (World.laidAll Tryd.prog os Rows.regexBracketsRow.laid) #[.slice none 0 0, .int .u8 0] 8 (World.laidAll_os _ _ _)
      (World.shaped_of_ZipB (by kernel_rfl) (by kernel_rfl)) (by kernel_rfl) (by kernel_rfl) (by kernel_rfl)
      (by rw [MakeChecks.laidMetH_plain _ _ _ (by kernel_rfl)]; exact laidMet_laidAll _ (by kernel_rfl) (by kernel_rfl))) ?_
  intro W base args ds gs before hval0 hW hcnd _ hL _
  have hval : ∀ (j : Nat) t v, Tryd.f3.params[j]? = some t → args[j]? = some v → Value.okWide Tryd.prog W .any base t v := hval0
  have hW' := hW
  obtain ⟨p, q, hA0, hV, rfl, hfz, hnd⟩ := hW
  have hA : DataW.TrodAll enc Tryd.prog W 0 (fun _ => true) true Tryd.f3.params.toList args.toList ds p := hA0
  rw [Tryd.params3] at hA hval
  obtain ⟨v0, vs0, d0, ds0, p0, q0, hargs, rfl, rfl, h0, r0⟩ := trodAll_cons hA
  obtain ⟨v1, vs1, d1, ds1, p1, q1, rfl, rfl, rfl, h1, r1⟩ := trodAll_cons r0
  obtain ⟨rfl, rfl, rfl⟩ := trodAll_nil r1
  obtain rfl : args = #[v0, v1] := by cases args; simp_all
  obtain ⟨rfl, rfl⟩ := trodVars_none hV
  clear hA0 hval0 hA
  simp only [List.append_nil] at hW'
  have hlt := hW'.lt
  obtain ⟨z0, b0⟩ := open_bytes (hval 0 22 v0 rfl rfl) h0
  obtain ⟨x1, rfl, rfl, rfl, w1⟩ := open_int Tryd.underlying5 (hval 1 5 v1 rfl rfl) h1
  have b1 := bounds_u8 w1
  refine (walk v0 z0 x1 W (tabs_of_laid hL (MakeChecks.laidMetH_plain _ _ _ (by kernel_rfl)) (by kernel_rfl) (by kernel_rfl)) b0 b1).mono fun e W' ⟨he, hg⟩ => ?_
  subst he
  exact ⟨_, rfl, post_of_old (pv := []) hW' (fun _ _ _ => trodAll_cons_mk (shut_bool Tryd.underlying4 _) trodAll_mk0) (trodAll_cons_mk (Below.trod laidOutP (by kernel_rfl) (of_decide_eq_true (by kernel_rfl)) h0 hg (fun x hx => by simpa using hlt x (by simp [hx]))) (trodAll_cons_mk (Below.trod laidOutP (by kernel_rfl) (of_decide_eq_true (by kernel_rfl)) h1 hg (fun x hx => by simp at hx)) (trodAll_mk0))) (fun _ => rfl) (by simp) hg⟩

theorem over : Rows.regexBracketsRow.holds Tryd.pinned (OpenSpec.ofChange Rows.regexBracketsSpec) :=
  OpenClaim.holds_of_wide 3 Tryd.f3 rfl rfl rfl rfl rfl rfl rfl ⟨rfl, rfl, rfl, rfl, rfl⟩ rfl rfl rfl rfl rfl (by kernel_rfl) Tryd.func3 (by kernel_rfl)
    (of_decide_eq_true (by kernel_rfl)) (by unfold Func.isWrapper; first | (rw [if_pos (by decide +kernel)]; kernel_rfl) | (rw [if_neg (by decide +kernel)]; exact ⟨rfl, rfl⟩))
    (fun os started H enc _ => lifted os started H enc)

/-- No parameter wants a stand-in. -/
theorem plain (f : FuncId) (fn : Func) (hf : Tryd.pinned.checked.prog.funcNamed "reglet/regletlaw07.RegexBrackets" = some f) (hfn : Tryd.pinned.checked.prog.funcs[f]? = some fn) :
    false = Tryd.pinned.checked.prog.looks [] ∧ ∀ (j : Nat) t, fn.params[j]? = some t → Tryd.pinned.checked.prog.wantsStandIn t = false := by
  obtain rfl : f = 3 := Option.some.inj ((show Tryd.prog.funcNamed "reglet/regletlaw07.RegexBrackets" = some 3 by kernel_rfl).symm.trans hf) |>.symm
  obtain rfl : fn = Tryd.f3 := (Option.some.inj (Tryd.func3.symm.trans hfn)).symm
  refine ⟨by kernel_rfl, fun j t ht => ?_⟩
  rw [Tryd.params3] at ht
  have hm : t ∈ [22, 5] := by simpa using Array.mem_of_getElem? ht
  have hall : ([22, 5].all fun u => !Tryd.prog.wantsStandIn u) = true := by kernel_rfl
  exact (show Tryd.prog.wantsStandIn t = false by simpa using List.all_eq_true.1 hall t hm)

/-- The statement. -/
theorem proved : Rows.RegexBracketsCardSaid :=
  Claim7.holds_tied_plain_at .later [] _ _ _ _ over (fun _ h => by cases h) (by kernel_rfl) (fun _ h => by cases h) regexBrackets_row_tie rfl ⟨rfl, rfl⟩ (by kernel_rfl) rfl plain (by kernel_rfl)

#print axioms proved
end Go.Proofs.YtchicecmoknkjabDoor.regexBrackets
