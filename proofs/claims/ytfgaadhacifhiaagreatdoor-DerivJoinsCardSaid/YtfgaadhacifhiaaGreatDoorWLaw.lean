/- What the program's Match answers of a Cat and an Either of two expressions by at most 150 numbers each, and texts of at most 5 letters, is what its answers for the two make together. No condition. -/
import Derived.Test.YtfgaadhacifhiaaGreatDoorW6
import Derived.Test.YtfgaadhacifhiaaGreatDoorW5
namespace Go.Proofs.YtfgaadhacifhiaaGreatDoor.derivJoins
open Go.ChangeShapes Go.WideShapes Go.ChangeAt Go.RowKit Go.Proofs.YtfgaadhacifhiaaGreatDoor
open Go.ChangeMaps (open_string shut_string)
set_option linter.unusedVariables false
set_option linter.unusedSimpArgs false

open Go.Lib

set_option maxRecDepth 100000 in
set_option maxHeartbeats 8000000 in
theorem walk (x0 : Value) (z0 : List Int) (x1 : Value) (z1 : List Int) (x2 : Value) (z2 : List Int) (w : World) (hT : Tab1 w) (h0 : BytesAt w x0 z0) (h1 : BytesAt w x1 z1) (h2 : BytesAt w x2 z2) :
    Calls Tryz.prog 6 #[x0, x1, x2] w (GivesBool true w) := by
  obtain ⟨av, nv, cv, rfl⟩ : ∃ a n c, x0 = .slice a n c := by obtain ⟨a, c, h, _⟩ := h0; exact ⟨a, _, c, h⟩
  obtain ⟨bv, mv, dv, rfl⟩ : ∃ a n c, x1 = .slice a n c := by obtain ⟨a, c, h, _⟩ := h1; exact ⟨a, _, c, h⟩
  obtain ⟨am, nm, cm, rfl⟩ : ∃ a n c, x2 = .slice a n c := by obtain ⟨a, c, h, _⟩ := h2; exact ⟨a, _, c, h⟩
  have HT := Lib.hid hT
  clear hT
  go_enter Tryz.func6, Tryz.ntmps6
  go_wp2_with fail
  ((with_reducible refine (awaked_any w HT.out).mono ?_))
  rintro _ w2 ⟨rfl, hb2⟩
  have HB2 := Lib.hid hb2
  obtain ⟨hnz, hlow⟩ := h0.low hb2
  subst hnz
  have c2 := made_any w2 av cv z0 0 (by decide) hlow
  rw [show ((0 : Nat) : Int) = 0 from rfl] at c2
  clear hb2 hlow h0
  go_wp2_with fail
  ((with_reducible refine c2.mono ?_))
  rintro _ w3 ⟨x, rfl, hx, hb3⟩
  have HB3 : Hid (Below w.heap.size w w3) := HB2.out.trans (hb3.mono HB2.out.size)
  obtain ⟨r, hr⟩ : ∃ r, r = (reM z0 4 0).1 := ⟨_, rfl⟩
  rw [← hr] at hx
  have HLV : Hid (Lv 161 4842888568831 5008 5766931476091 4966 r) := by rw [hr]; exact re4_lv z0 0
  have HDEP : Hid (r.dep ≤ 5) := by rw [hr]; exact (re_facts z0 4 0).2.2.1
  obtain ⟨y0, y1, y2, y3, y4, y5, y6, y7⟩ := x
  have HX3 : Hid (RAt w3 (fun _ => True) ⟨y0, y1, y2, y3, y4, y5, y6, y7⟩ r) := hx.weak fun _ _ _ => trivial
  obtain ⟨hnz, hlow⟩ := h1.low HB3.out
  subst hnz
  have c3 := made_any w3 bv dv z1 0 (by decide) hlow
  rw [show ((0 : Nat) : Int) = 0 from rfl] at c3
  clear hx hb3 hr hlow h1 c2
  unfold ReV.val
  go_wp2_with fail
  ((with_reducible refine c3.mono ?_))
  rintro _ w4 ⟨x, rfl, hx, hb4⟩
  have HB4 : Hid (Below w.heap.size w w4) := HB3.out.trans (hb4.mono HB3.out.size)
  obtain ⟨u, hu⟩ : ∃ u, u = (reM z1 4 0).1 := ⟨_, rfl⟩
  rw [← hu] at hx
  have HLV2 : Hid (Lv 161 4842888568831 5008 5766931476091 4966 u) := by rw [hu]; exact re4_lv z1 0
  have HDEP2 : Hid (u.dep ≤ 5) := by rw [hu]; exact (re_facts z1 4 0).2.2.1
  obtain ⟨t0, t1, t2, t3, t4, t5, t6, t7⟩ := x
  have HY4 : Hid (RAt w4 (fun _ => True) ⟨t0, t1, t2, t3, t4, t5, t6, t7⟩ u) := hx.weak fun _ _ _ => trivial
  have HX4 := Lib.hid (HX3.out.under hb4)
  obtain ⟨A, hA⟩ : ∃ A, A = w4.heap.size := ⟨_, rfl⟩
  obtain ⟨w5, hw5⟩ : ∃ w5 : World, w5 = (w4.alloc (.cells #[.int .i64 y0, .int .u64 y1, .int .u64 y2, .int .u64 y3, .int .u64 y4, .slice y5 y6 y7] 28)).alloc (.cells #[.int .i64 t0, .int .u64 t1, .int .u64 t2, .int .u64 t3, .int .u64 t4, .slice t5 t6 t7] 28) := ⟨_, rfl⟩
  have h5A : w5.heap[A]? = some (.cells #[.int .i64 y0, .int .u64 y1, .int .u64 y2, .int .u64 y3, .int .u64 y4, .slice y5 y6 y7] 28 (0, 0)) := by rw [hw5, hA, @heap_alloc_old _ _ _ (by simp)]; exact heap_alloc_new _ _
  have h5B : w5.heap[A + 1]? = some (.cells #[.int .i64 t0, .int .u64 t1, .int .u64 t2, .int .u64 t3, .int .u64 t4, .slice t5 t6 t7] 28 (0, 0)) := by rw [hw5, hA]; exact two_new w4 _ _
  have hb45 : Below w4.heap.size w4 w5 := by rw [hw5]; exact ((Below.refl _ _).alloc (Nat.le_refl _) _).alloc (by simp) _
  have HB5 : Hid (Below w.heap.size w w5) := HB4.out.trans (hb45.mono HB4.out.size)
  have HX5 := Lib.hid (HX4.out.under hb45)
  have HY5 := Lib.hid (HY4.out.under hb45)
  have H5A := Lib.hid h5A
  have H5B := Lib.hid h5B
  have HAA := Lib.hid hA
  have HW5 := Lib.hid hw5
  obtain ⟨hnz, hlow⟩ := h2.low HB5.out
  subst hnz
  have c4 := letters_any hlow 5 (by decide)
  rw [show ((5 : Nat) : Int) = 5 from rfl] at c4
  clear hx hb4 hu hA hw5 h5A h5B hb45 hlow h2 c3
  unfold ReV.val
  go_wp2_with fail
  rw [← HW5.out, ← HAA.out]
  ((with_reducible refine c4.mono ?_))
  rintro _ w6 ⟨s, hs, rfl, hb6⟩
  have HB6 : Hid (Below w.heap.size w w6) := HB5.out.trans (hb6.mono HB5.out.size)
  have HT6 := Lib.hid (HT.out.stays HB6.out)
  have H6A : Hid (w6.heap[A]? = some (.cells #[.int .i64 y0, .int .u64 y1, .int .u64 y2, .int .u64 y3, .int .u64 y4, .slice y5 y6 y7] 28 (0, 0))) := (hb6.block A (Array.getElem?_eq_some_iff.1 H5A.out).1).trans H5A.out
  have H6B : Hid (w6.heap[A + 1]? = some (.cells #[.int .i64 t0, .int .u64 t1, .int .u64 t2, .int .u64 t3, .int .u64 t4, .slice t5 t6 t7] 28 (0, 0))) := (hb6.block (A + 1) (Array.getElem?_eq_some_iff.1 H5B.out).1).trans H5B.out
  have HX6 := Lib.hid (HX5.out.under hb6)
  have HY6 := Lib.hid (HY5.out.under hb6)
  have HS := Lib.hid hs
  obtain ⟨N, hN⟩ : ∃ N, N = s.size := ⟨_, rfl⟩
  have hN2 := hN.symm
  have hNb : N ≤ 5 := by omega
  have HNS := Lib.hid hN
  have HLEN : Hid ((byteL s).length = N) := by unfold Hid; rw [byteL_size, hN]
  obtain ⟨l, hl⟩ : ∃ l, l = byteL s := ⟨_, rfl⟩
  have HL := Lib.hid hl
  have HCA : Hid (∀ (W : World) (S : ByteArray), Below w6.heap.size w6 W → S.size ≤ 5 → Calls Tryz.prog 15 #[.agg #[.int .i64 y0, .int .u64 y1, .int .u64 y2, .int .u64 y3, .int .u64 y4, .slice y5 y6 y7], .string S] W (GivesBool (nullM (dersM r (byteL S))) W)) := fun W S hb hS => match_any W ⟨y0, y1, y2, y3, y4, y5, y6, y7⟩ r S (HX6.out.under hb) (HT6.out.stays hb) (fitM_lv HLV.out (by have := HDEP.out; omega) _ (by rw [byteL_size]; omega)) (by omega)
  have HCB : Hid (∀ (W : World) (S : ByteArray), Below w6.heap.size w6 W → S.size ≤ 5 → Calls Tryz.prog 15 #[.agg #[.int .i64 t0, .int .u64 t1, .int .u64 t2, .int .u64 t3, .int .u64 t4, .slice t5 t6 t7], .string S] W (GivesBool (nullM (dersM u (byteL S))) W)) := fun W S hb hS => match_any W ⟨t0, t1, t2, t3, t4, t5, t6, t7⟩ u S (HY6.out.under hb) (HT6.out.stays hb) (fitM_lv HLV2.out (by have := HDEP2.out; omega) _ (by rw [byteL_size]; omega)) (by omega)
  clear hb6 hs c4 hN hl
  go_wp2_with fail
  go_loopg [11, 12] (N + 1) (fun gk vc vi wr => ∃ i : Nat, vi = .int .i64 (i : Int) ∧ i ≤ N + 1 ∧ N + 1 - i ≤ gk ∧ vc = .bool (splB r u l i) ∧ Hid (Below w6.heap.size w6 wr))
  case atStart => exact ⟨0, rfl, by omega, by omega, rfl, Below.refl _ _⟩
  case round =>
    obtain ⟨i, rfl, hi, hgk, rfl, HB⟩ := hrel
    obtain ⟨⟨a0, a1, a2, a3, a4, a5⟩, _⟩ := six_facts ((HB.out.block A (Array.getElem?_eq_some_iff.1 H6A.out).1).trans H6A.out)
    obtain ⟨⟨b0, b1, b2, b3, b4, b5⟩, _⟩ := six_facts ((HB.out.block (A + 1) (Array.getElem?_eq_some_iff.1 H6B.out).1).trans H6B.out)
    by_cases hlt : i ≤ N
    · have hltz : (i : Int) ≤ (N : Int) := by omega
      have hiz : (0 : Int) ≤ (i : Int) := by omega
      have hdr2 : Below wr.heap.size wr wr.drew := below_drawn (Below.refl _ _) 1
      have hbd : Below w6.heap.size w6 wr.drew := HB.out.trans (hdr2.mono HB.out.size)
      have con := HCA.out wr.drew (s.extract 0 i) hbd (by rw [ByteArray.size_extract]; have := HNS.out; omega)
      rw [byteL_head s i (by have := HNS.out; omega), ← HL.out] at con
      have CON := Lib.hid con
      have HDR2 := Lib.hid hdr2
      have HBD := Lib.hid hbd
      obtain ⟨m1, hm1⟩ : ∃ m1, m1 = nullM (dersM r (l.take i)) := ⟨_, rfl⟩
      obtain ⟨m2, hm2⟩ : ∃ m2, m2 = nullM (dersM u (l.drop i)) := ⟨_, rfl⟩
      obtain ⟨c0, hc0⟩ : ∃ c0, c0 = splB r u l i := ⟨_, rfl⟩
      have HSP : Hid (splB r u l (i + 1) = (c0 || (m1 && m2))) := by unfold Hid; rw [splB_succ, hm1, hm2, hc0]
      have HM2 := Lib.hid hm2
      have HEX : Hid (byteL (s.extract i N) = l.drop i) := by unfold Hid; rw [HNS.out, byteL_rest s i (by have := HNS.out; omega), ← HL.out]
      rw [← hm1] at CON
      rw [← hc0]
      clear con hdr2 hbd hm1 hm2 hc0
      go_wp2_with fail
      go_cut [10, 11, 12, 13, 14] from 10 to 11 (fun s10 s11 s12 s13 s14 W => s10 = .string s ∧ s11 = .bool c0 ∧ s12 = .int .i64 (i : Int) ∧ s13 = .bool m1 ∧ s14 = .bool m2 ∧ Hid (Below w6.heap.size w6 W))
      · go_region_law (first
          | (go_simp; go_at_call 15; (with_reducible (refine CON.out.mono ?_)); rintro _ w7 ⟨rfl, hb7⟩; have HB7 : Hid (Below w6.heap.size w6 w7) := HBD.out.trans (hb7.mono HBD.out.size); obtain ⟨⟨p0, p1, p2, p3, p4, p5⟩, _⟩ := six_facts ((HB7.out.block (A + 1) (Array.getElem?_eq_some_iff.1 H6B.out).1).trans H6B.out); have con2 := HCB.out w7 (s.extract i N) HB7.out (by rw [ByteArray.size_extract]; have := HNS.out; omega); rw [HEX.out, ← HM2.out] at con2; have CON2 := Lib.hid con2; clear hb7 con2)
          | (go_simp; go_at_call 15; (with_reducible (refine CON2.out.mono ?_)); rintro _ w8 ⟨rfl, hb8⟩; have HB8 : Hid (Below w6.heap.size w6 w8) := HB7.out.trans (hb8.mono HB7.out.size); clear hb8)
          | fail)
        all_goals (go_wp2_with fail; go_meet)
        all_goals exact ⟨rfl, rfl, rfl, rfl, rfl, HB8.out⟩
      obtain ⟨rfl, rfl, rfl, rfl, rfl, HBc⟩ := hcut
      have hfin : Hid (splB r u l (i + 1) = (c0 || (m1 && m2))) := HSP
      cases c0 <;> cases m1
      all_goals
        go_wp2_with fail
        go_roundg (N + 1 - (i + 1))
        case measure => omega
        case rel => exact ⟨i + 1, by go_num, by omega, Nat.le_refl _, by rw [hfin.out]; rfl, HBc.out⟩
    · have hltz : ¬ (i : Int) ≤ (N : Int) := by omega
      obtain rfl : i = N + 1 := by omega
      clear hlt hltz hgk hi
      have hltz : ¬ ((N + 1 : Nat) : Int) ≤ (N : Int) := by omega
      obtain ⟨ct, hct⟩ : ∃ ct, ct = splB r u l (N + 1) := ⟨_, rfl⟩
      rw [← hct]
      have HCT := Lib.hid hct
      obtain ⟨m1, hm1⟩ : ∃ m1, m1 = nullM (dersM r l) := ⟨_, rfl⟩
      obtain ⟨m2, hm2⟩ : ∃ m2, m2 = nullM (dersM u l) := ⟨_, rfl⟩
      have HM1 := Lib.hid hm1
      have HM2 := Lib.hid hm2
      have con1 := HCA.out wr s HB.out HS.out
      rw [← HL.out, ← hm1] at con1
      have hdep1 := HDEP.out
      have hdep2 := HDEP2.out
      have hsz1 : r.sz ≤ 161 := HLV.out.sz
      have hsz2 : u.sz ≤ 161 := HLV2.out.sz
      have hlb : ∀ c ∈ l, c < 256 := by rw [HL.out]; exact byteL_lt s
      have hll : l.length = N := by rw [HL.out]; exact HLEN.out
      have hl5 : (byteL s).length ≤ 5 := by rw [HLEN.out]; exact hNb
      have HCAT : Hid (∀ (W : World), Below w6.heap.size w6 W → Calls Tryz.prog 17 #[.slice (some ⟨W.heap.size, 0, none⟩) 2 2] (W.alloc (.cells #[.int .i64 y0, .int .u64 y1, .int .u64 y2, .int .u64 y3, .int .u64 y4, .slice y5 y6 y7, .int .i64 t0, .int .u64 t1, .int .u64 t2, .int .u64 t3, .int .u64 t4, .slice t5 t6 t7] 28)) (GivesRe (fun _ => True) (catM [r, u]) (W.alloc (.cells #[.int .i64 y0, .int .u64 y1, .int .u64 y2, .int .u64 y3, .int .u64 y4, .slice y5 y6 y7, .int .i64 t0, .int .u64 t1, .int .u64 t2, .int .u64 t3, .int .u64 t4, .slice t5 t6 t7] 28)))) := fun W hb => by
        have hba : Below W.heap.size W (W.alloc (.cells #[.int .i64 y0, .int .u64 y1, .int .u64 y2, .int .u64 y3, .int .u64 y4, .slice y5 y6 y7, .int .i64 t0, .int .u64 t1, .int .u64 t2, .int .u64 t3, .int .u64 t4, .slice t5 t6 t7] 28)) := (Below.refl _ _).alloc (Nat.le_refl _) _
        exact (refcat_any (P := fun _ => True) _ (two_kids (B := W.heap.size) (x := ⟨y0, y1, y2, y3, y4, y5, y6, y7⟩) (y := ⟨t0, t1, t2, t3, t4, t5, t6, t7⟩) trivial (heap_alloc_new _ _) ((HX6.out.under hb).under hba) ((HY6.out.under hb).under hba)) (by simp; omega)).mono fun _ _ q => q.any
      have HEIT : Hid (∀ (W : World), Below w6.heap.size w6 W → Calls Tryz.prog 20 #[.slice (some ⟨W.heap.size, 0, none⟩) 2 2] (W.alloc (.cells #[.int .i64 y0, .int .u64 y1, .int .u64 y2, .int .u64 y3, .int .u64 y4, .slice y5 y6 y7, .int .i64 t0, .int .u64 t1, .int .u64 t2, .int .u64 t3, .int .u64 t4, .slice t5 t6 t7] 28)) (GivesRe (fun _ => True) (eitherM [r, u]) (W.alloc (.cells #[.int .i64 y0, .int .u64 y1, .int .u64 y2, .int .u64 y3, .int .u64 y4, .slice y5 y6 y7, .int .i64 t0, .int .u64 t1, .int .u64 t2, .int .u64 t3, .int .u64 t4, .slice t5 t6 t7] 28)))) := fun W hb => by
        have hba : Below W.heap.size W (W.alloc (.cells #[.int .i64 y0, .int .u64 y1, .int .u64 y2, .int .u64 y3, .int .u64 y4, .slice y5 y6 y7, .int .i64 t0, .int .u64 t1, .int .u64 t2, .int .u64 t3, .int .u64 t4, .slice t5 t6 t7] 28)) := (Below.refl _ _).alloc (Nat.le_refl _) _
        exact (refeither_any (P := fun _ => True) _ (two_kids (B := W.heap.size) (x := ⟨y0, y1, y2, y3, y4, y5, y6, y7⟩) (y := ⟨t0, t1, t2, t3, t4, t5, t6, t7⟩) trivial (heap_alloc_new _ _) ((HX6.out.under hb).under hba) ((HY6.out.under hb).under hba)) (by simp; omega)).mono fun _ _ q => q.any
      have hgc : good (catM [r, u]) := good_cat fun t ht => by simp at ht; rcases ht with rfl | rfl; exact HLV.out.good; exact HLV2.out.good
      have hge : good (eitherM [r, u]) := good_either fun t ht => by simp at ht; rcases ht with rfl | rfl; exact HLV.out.good; exact HLV2.out.good
      have hzc : (catM [r, u]).sz ≤ 1000 := by have := sz_cat [r, u]; simp at this; omega
      have hze : (eitherM [r, u]).sz ≤ 1000 := by have := sz_either [r, u]; simp at this; omega
      have hpc : (catM [r, u]).dep ≤ 125 := by have := dep_cat (l := [r, u]) (n := 5) (fun t ht => by simp at ht; rcases ht with rfl | rfl <;> assumption); omega
      have hpe : (eitherM [r, u]).dep ≤ 125 := by have := dep_either (l := [r, u]) (n := 5) (by decide) (fun t ht => by simp at ht; rcases ht with rfl | rfl <;> assumption); omega
      have HFC := Lib.hid (fitM_del5 hgc hzc (cat2_del HLV.out HLV2.out) hpc (byteL s) hl5)
      have HFE := Lib.hid (fitM_del5 hge hze (either2_del HLV.out HLV2.out) hpe (byteL s) hl5)
      have HJC : Hid (nullM (dersM (catM [r, u]) (byteL s)) = ct) := by unfold Hid; rw [← HL.out, joins_cat HLV.out.good HX6.out.ok HLV2.out.good HY6.out.ok l hlb, hll, hct]
      have HJE : Hid (nullM (dersM (eitherM [r, u]) (byteL s)) = (m1 || m2)) := by unfold Hid; rw [← HL.out, joins_either HLV.out.good HX6.out.ok HLV2.out.good HY6.out.ok l hlb, hm1, hm2]
      clear hct hm1 hm2 hdep1 hdep2 hsz1 hsz2 hlb hll hl5 hgc hge hzc hze hpc hpe
      go_wp2_with fail
      ((with_reducible refine con1.mono ?_))
      rintro _ w7 ⟨rfl, hb7⟩
      have HB7 : Hid (Below w6.heap.size w6 w7) := HB.out.trans (hb7.mono HB.out.size)
      clear a0 a1 a2 a3 a4 a5 b0 b1 b2 b3 b4 b5
      obtain ⟨⟨a0, a1, a2, a3, a4, a5⟩, _⟩ := six_facts ((HB7.out.block A (Array.getElem?_eq_some_iff.1 H6A.out).1).trans H6A.out)
      obtain ⟨⟨b0, b1, b2, b3, b4, b5⟩, _⟩ := six_facts ((HB7.out.block (A + 1) (Array.getElem?_eq_some_iff.1 H6B.out).1).trans H6B.out)
      have con2 := HCB.out w7 s HB7.out HS.out
      rw [← HL.out, ← HM2.out] at con2
      clear hb7 con1
      go_wp2_with fail
      ((with_reducible refine con2.mono ?_))
      rintro _ w8 ⟨rfl, hb8⟩
      have HB8 : Hid (Below w6.heap.size w6 w8) := HB7.out.trans (hb8.mono HB7.out.size)
      clear a0 a1 a2 a3 a4 a5 b0 b1 b2 b3 b4 b5
      obtain ⟨⟨a0, a1, a2, a3, a4, a5⟩, _⟩ := six_facts ((HB8.out.block A (Array.getElem?_eq_some_iff.1 H6A.out).1).trans H6A.out)
      obtain ⟨⟨b0, b1, b2, b3, b4, b5⟩, _⟩ := six_facts ((HB8.out.block (A + 1) (Array.getElem?_eq_some_iff.1 H6B.out).1).trans H6B.out)
      have con3 := HCAT.out w8 HB8.out
      clear hb8 con2
      go_wp2_with fail
      ((with_reducible refine con3.mono ?_))
      rintro _ w10 ⟨x10, rfl, hx10, hb10⟩
      obtain ⟨g0, g1, g2, g3, g4, q9, m9, cp9⟩ := x10
      have HB10 : Hid (Below w6.heap.size w6 w10) := (HB8.out.alloc HB8.out.size _).trans (hb10.mono (HB8.out.alloc HB8.out.size _).size)
      have con4 := match_any w10 ⟨g0, g1, g2, g3, g4, q9, m9, cp9⟩ (catM [r, u]) s hx10 (HT6.out.stays HB10.out) HFC.out (by have := HS.out; omega)
      rw [HJC.out] at con4
      clear a0 a1 a2 a3 a4 a5 b0 b1 b2 b3 b4 b5 hx10 hb10 con3
      unfold ReV.val at con4 ⊢
      simp only [] at con4
      go_wp2_with fail
      ((with_reducible refine con4.mono ?_))
      rintro _ w11 ⟨rfl, hb11⟩
      have HB11 : Hid (Below w6.heap.size w6 w11) := HB10.out.trans (hb11.mono HB10.out.size)
      obtain ⟨⟨a0, a1, a2, a3, a4, a5⟩, _⟩ := six_facts ((HB11.out.block A (Array.getElem?_eq_some_iff.1 H6A.out).1).trans H6A.out)
      obtain ⟨⟨b0, b1, b2, b3, b4, b5⟩, _⟩ := six_facts ((HB11.out.block (A + 1) (Array.getElem?_eq_some_iff.1 H6B.out).1).trans H6B.out)
      have con5 := HEIT.out w11 HB11.out
      clear hb11 con4
      go_wp2_with fail
      ((with_reducible refine con5.mono ?_))
      rintro _ w12 ⟨x12, rfl, hx12, hb12⟩
      obtain ⟨k0, k1, k2, k3, k4, q7, m7, cp7⟩ := x12
      have HB12 : Hid (Below w6.heap.size w6 w12) := (HB11.out.alloc HB11.out.size _).trans (hb12.mono (HB11.out.alloc HB11.out.size _).size)
      have con6 := match_any w12 ⟨k0, k1, k2, k3, k4, q7, m7, cp7⟩ (eitherM [r, u]) s hx12 (HT6.out.stays HB12.out) HFE.out (by have := HS.out; omega)
      rw [HJE.out] at con6
      clear a0 a1 a2 a3 a4 a5 b0 b1 b2 b3 b4 b5 hx12 hb12 con5
      unfold ReV.val at con6 ⊢
      simp only [] at con6
      cases m1 <;> simp only [Bool.false_or, Bool.true_or] at con6
      all_goals
        go_wp2_with fail
        ((with_reducible refine con6.mono ?_))
        rintro _ w13 ⟨rfl, hb13⟩
        have HB13 : Hid (Below w6.heap.size w6 w13) := HB12.out.trans (hb13.mono HB12.out.size)
        clear hb13 con6
        go_wp2
        go_ret
        exact ⟨rfl, HB6.out.trans (HB13.out.mono HB6.out.size)⟩

set_option maxRecDepth 100000 in
set_option maxHeartbeats 1000000 in
theorem lifted (os : Os) (started : os.Started) (H : Type) (enc : TypeId × Value → H) :
    ReturnsInHanded {} Tryz.checked os 6 .any (fun w args => (Rows.derivJoinsSpec.pre enc Tryz.prog Tryz.f6 Rows.derivJoinsRow.domain false w args ∧ laidMetH Tryz.prog Rows.derivJoinsRow.laid w) ∧ sizedMet enc Tryz.prog Tryz.f6 (OpenSpec.ofChange Rows.derivJoinsSpec) false w args)
      (Rows.derivJoinsSpec.post enc Tryz.prog Tryz.f6 false true false false) := by
  refine returnsInHanded_of_change_and (C := Tryz.checked) (X := fun w _ => laidMetH Tryz.prog Rows.derivJoinsRow.laid w) (fun _ _ _ hh h => h.of_heap hh) noKnob started (by kernel_rfl) Tryz.func6
    (ChangeSpec.witness_shaped (enc := enc) (C := Tryz.checked) (os := os) (X := fun w _ => laidMetH Tryz.prog Rows.derivJoinsRow.laid w) false (World.laidAll Tryz.prog os Rows.derivJoinsRow.laid) #[.slice none 0 0, .slice none 0 0, .slice none 0 0] 8 (World.laidAll_os _ _ _)
      (World.shaped_of_ZipB (by kernel_rfl) (by kernel_rfl)) (by kernel_rfl) (by kernel_rfl) (by kernel_rfl)
      (by rw [MakeChecks.laidMetH_plain _ _ _ (by kernel_rfl)]; exact laidMet_laidAll _ (by kernel_rfl) (by kernel_rfl))) ?_
  intro W base args ds gs before hval0 hW hcnd _ hL _
  have hval : ∀ (j : Nat) t v, Tryz.f6.params[j]? = some t → args[j]? = some v → Value.okWide Tryz.prog W .any base t v := hval0
  have hW' := hW
  obtain ⟨p, q, hA0, hV, rfl, hfz, hnd⟩ := hW
  have hA : DataW.TrodAll enc Tryz.prog W 0 (fun _ => true) true Tryz.f6.params.toList args.toList ds p := hA0
  rw [Tryz.params6] at hA hval
  obtain ⟨v0, vs0, d0, ds0, p0, q0, hargs, rfl, rfl, h0, r0⟩ := trodAll_cons hA
  obtain ⟨v1, vs1, d1, ds1, p1, q1, rfl, rfl, rfl, h1, r1⟩ := trodAll_cons r0
  obtain ⟨v2, vs2, d2, ds2, p2, q2, rfl, rfl, rfl, h2, r2⟩ := trodAll_cons r1
  obtain ⟨rfl, rfl, rfl⟩ := trodAll_nil r2
  obtain rfl : args = #[v0, v1, v2] := by cases args; simp_all
  obtain ⟨rfl, rfl⟩ := trodVars_none hV
  clear hA0 hval0 hA
  simp only [List.append_nil] at hW'
  have hlt := hW'.lt
  obtain ⟨z0, b0⟩ := open_bytes (hval 0 22 v0 rfl rfl) h0
  obtain ⟨z1, b1⟩ := open_bytes (hval 1 22 v1 rfl rfl) h1
  obtain ⟨z2, b2⟩ := open_bytes (hval 2 22 v2 rfl rfl) h2
  refine (walk v0 z0 v1 z1 v2 z2 W (tabs_of_laid hL (MakeChecks.laidMetH_plain _ _ _ (by kernel_rfl)) (by kernel_rfl) (by kernel_rfl)) b0 b1 b2).mono fun e W' ⟨he, hg⟩ => ?_
  subst he
  exact ⟨_, rfl, post_of_old (pv := []) hW' (fun _ _ _ => trodAll_cons_mk (shut_bool Tryz.underlying4 _) trodAll_mk0) (trodAll_cons_mk (Below.trod laidOutP (by kernel_rfl) (of_decide_eq_true (by kernel_rfl)) h0 hg (fun x hx => by simpa using hlt x (by simp [hx]))) (trodAll_cons_mk (Below.trod laidOutP (by kernel_rfl) (of_decide_eq_true (by kernel_rfl)) h1 hg (fun x hx => by simpa using hlt x (by simp [hx]))) (trodAll_cons_mk (Below.trod laidOutP (by kernel_rfl) (of_decide_eq_true (by kernel_rfl)) h2 hg (fun x hx => by simpa using hlt x (by simp [hx]))) (trodAll_mk0)))) (fun _ => rfl) (by simp) hg⟩

theorem over : Rows.derivJoinsRow.holds Tryz.pinned (OpenSpec.ofChange Rows.derivJoinsSpec) :=
  OpenClaim.holds_of_wide 6 Tryz.f6 rfl rfl rfl rfl rfl rfl rfl ⟨rfl, rfl, rfl, rfl, rfl⟩ rfl rfl rfl rfl rfl (by kernel_rfl) Tryz.func6 (by kernel_rfl)
    (of_decide_eq_true (by kernel_rfl)) (by unfold Func.isWrapper; first | (rw [if_pos (by decide +kernel)]; kernel_rfl) | (rw [if_neg (by decide +kernel)]; exact ⟨rfl, rfl⟩))
    (fun os started H enc _ => lifted os started H enc)

/-- No parameter wants a stand-in. -/
theorem plain (f : FuncId) (fn : Func) (hf : Tryz.pinned.checked.prog.funcNamed "reglet/regletlaw08.DerivJoins" = some f) (hfn : Tryz.pinned.checked.prog.funcs[f]? = some fn) :
    false = Tryz.pinned.checked.prog.looks [] ∧ ∀ (j : Nat) t, fn.params[j]? = some t → Tryz.pinned.checked.prog.wantsStandIn t = false := by
  obtain rfl : f = 6 := Option.some.inj ((show Tryz.prog.funcNamed "reglet/regletlaw08.DerivJoins" = some 6 by kernel_rfl).symm.trans hf) |>.symm
  obtain rfl : fn = Tryz.f6 := (Option.some.inj (Tryz.func6.symm.trans hfn)).symm
  refine ⟨by kernel_rfl, fun j t ht => ?_⟩
  rw [Tryz.params6] at ht
  have hm : t ∈ [22, 22, 22] := by simpa using Array.mem_of_getElem? ht
  have hall : ([22, 22, 22].all fun u => !Tryz.prog.wantsStandIn u) = true := by kernel_rfl
  exact (show Tryz.prog.wantsStandIn t = false by simpa using List.all_eq_true.1 hall t hm)

/-- The statement. -/
theorem proved : Rows.DerivJoinsCardSaid :=
  Claim7.holds_tied_plain_at .later [] _ _ _ _ over (fun _ h => by cases h) (by kernel_rfl) (fun _ h => by cases h) derivJoins_row_tie rfl ⟨rfl, rfl⟩ (by kernel_rfl) rfl plain (by kernel_rfl)

#print axioms proved
end Go.Proofs.YtfgaadhacifhiaaGreatDoor.derivJoins
