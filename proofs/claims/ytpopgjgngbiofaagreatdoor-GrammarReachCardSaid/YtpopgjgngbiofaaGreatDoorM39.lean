/- What the laws of the grammar rest on, part 39: made by tools/merge5.py out of GReachW. No condition but those that each says. -/
import Derived.Test.YtpopgjgngbiofaaGreatDoorM38
set_option linter.unusedVariables false
set_option linter.unusedSimpArgs false
set_option maxRecDepth 100000
set_option maxHeartbeats 8000000
namespace Go.Proofs.YtpopgjgngbiofaaGreatDoor
open Go.RowKit
theorem ReachTo.found {g : List GR} {x : List Int} {R : List (List Int)} (h : ReachTo g x R) (hh : ∀ (j : Nat) (r : GR), g[j]? = some r -> Has8 g (namesM r.expr)) : ∀ y ∈ R, findM g y ≠ none := by
 have step : ∀ {n i : Nat} {out R : List (List Int)}, Reaches g n i out R -> (∀ y ∈ out, findM g y ≠ none) -> ∀ y ∈ R, findM g y ≠ none := fun h => by
  induction h with
  | done h => exact id
  | @step n i z out R h1 _ ih =>
   intro ho
   refine ih (fun y hy => ?_)
   obtain ⟨_, _, _, _, hm⟩ := addU_more (needs g z) out
   rcases hm y hy with h2 | h2
   ·exact ho y h2
   ·unfold needs at h2
    cases hf : findM g z with
    | none => rw [hf] at h2; cases h2
    | some k =>
     rw [hf] at h2
     simp only [] at h2
     cases hr : g[k]? with
     | none => rw [hr] at h2; cases h2
     | some r =>
      rw [hr] at h2
      exact hh k r hr y h2
 rcases h with ⟨_, rfl⟩ | ⟨hf, n, hr⟩
 ·exact fun y hy => by cases hy
 ·exact step hr (fun y hy => by simp at hy; subst hy; exact hf)
theorem count_once {z : List Int} : ∀ {R : List (List Int)}, R.Nodup -> z ∈ R -> List.count z R = 1
 | [], _, h => by cases h
 | y :: R, hn, h => by
  rw [List.nodup_cons] at hn
  rw [List.count_cons]
  by_cases e : y = z
  ·subst e
   rw [List.count_eq_zero.2 hn.1]
   simp
  ·rw [if_neg (by simpa using e)]
   rcases List.mem_cons.1 h with h | h
   ·exact absurd h.symm e
   ·exact count_once hn.2 h
theorem count_step {z y : List Int} {R : List (List Int)} {j : Nat} (h : R[j]? = some y) : List.count z (R.take (j + 1)) = List.count z (R.take j) + if y = z then 1 else 0 := by
 rw [List.take_add_one, h, List.count_append]
 congr 1
 show List.count z [y] = _
 rw [List.count_cons, List.count_nil]
 simp
theorem reachW_any {w : World} {v : Value} {zs : List Int} {z1 : Int} (hT : Tabs w) (h : BytesAt w v zs) (h1 : 0 <= z1 /\ z1 <= 255) : Calls Tryz.prog 8 #[v, .int .u8 z1] w (GivesBool true w) := by
 have HT := hh9 hT
 have HH := hh9 h
 have HA := hh9 (awake_any hT)
 obtain ⟨a0, cap0, hv0, _⟩ := h
 obtain ⟨n0, hn0⟩ : ∃ n, n = zs.length := ⟨_, rfl⟩
 rw [<- hn0] at hv0
 subst hv0
 clear hT hn0
 go_enter Tryz.func8, Tryz.ntmps8
 go_wp2_with fail
 refine HA.out.mono ?_
 rintro e w1 ⟨rfl, hb1⟩
 have HB1 := hh9 hb1
 have HL := hh9 (lawlines_any (HH.out.below hb1))
 clear hb1
 go_wp2_with fail
 refine HL.out.mono ?_
 rintro e w2 ⟨v2, ys2, p, rfl, hp, hl2, hb2⟩
 have HB2 := hh9 (below_then HB1.out hb2)
 have htw := linesN_tw p
 have HJ := hh9 (join_any hl2 (HT.out.below HB2.out) (by omega))
 obtain ⟨a2, n2, c2, hv2⟩ : ∃ a n c, v2 = .slice a n c := by
  obtain ⟨a, c, h, _⟩ := hl2.1.slice
  exact ⟨a, _, c, h⟩
 subst hv2
 clear hb2 hl2
 go_wp2_with fail
 refine HJ.out.mono ?_
 rintro e w3 ⟨v3, ys3, g, er, rfl, hJ3, hR3, hb3⟩
 have HB3 := hh9 (below_then HB2.out hb3)
 clear hb3
 obtain ⟨a3, n3, c3, hv3, hn3⟩ : ∃ a n c, v3 = .slice a n c /\ n = g.length := by
  obtain ⟨a, c, h, _⟩ := hR3.1.slice
  exact ⟨a, _, c, h, rfl⟩
 subst hv3
 rcases hJ3.err with ⟨rfl, rfl⟩ | ⟨rfl, rfl⟩ | ⟨rfl, rfl⟩ | rfl
 ·obtain rfl : n3 = 0 := hn3
  clear hJ3 hR3
  go_wp2_with fail
  go_ret
  exact ⟨rfl, HB3.out⟩
 ·obtain rfl : n3 = 0 := hn3
  clear hJ3 hR3
  go_wp2_with fail
  go_ret
  exact ⟨rfl, HB3.out⟩
 ·obtain rfl : n3 = 0 := hn3
  clear hJ3 hR3
  go_wp2_with fail
  go_ret
  exact ⟨rfl, HB3.out⟩
 ·by_cases hz : n3 = 0
  ·subst hz
   clear hJ3 hR3 hn3
   go_wp2_with fail
   go_ret
   exact ⟨rfl, HB3.out⟩
  ·have HR3 := hh9 hR3
   have hsm := hJ3.small (by omega)
   obtain ⟨hon, hhas, _⟩ := hJ3.whole
   have HON := hh9 hon
   have HHAS := hh9 hhas
   have HSM := hh9 hsm
   have HN3 := hh9 hn3
   have hn9 : n3 <= 9016 := by omega
   obtain ⟨b, off, ha, hb0, hcs⟩ : ∃ b off, a3 = some ⟨b, off, none⟩ /\ b < w3.heap.size /\ ∀ (j : Nat) (u : Value), (ys3.flatMap RV.cells)[j]? = some u -> w3.cell? ⟨b, off + j, none⟩ = some u := by
    rcases hR3.1 with ⟨h0, _⟩ | ⟨b, off, cap, h1, _, _, h3, h4⟩
    ·omega
    ·injection h1 with h1
     exact ⟨b, off, h1, h3, h4⟩
   subst ha
   have CXA : Hid (∀ (W : World), Below w3.heap.size w3 W -> ∀ (i : Nat) (Y : RV), ys3[i]? = some Y -> ∀ (j : Nat) (u : Value), j < 7 -> Y.cells[j]? = some u -> W.cell? ⟨b, off + (i * 7 + j), none⟩ = some u) := fun W hW i Y hY j u hj hu =>
    (hW.cell (p := ⟨b, off + (i * 7 + j), none⟩) hb0).trans (hcs _ u ((flatR_at ys3 i j Y hY hj).trans hu))
   have hq0 : 0 <= z1 % (n3 : Int) := Int.emod_nonneg _ (by omega)
   have hq1 : z1 % (n3 : Int) < n3 := Int.emod_lt_of_pos _ (by omega)
   obtain ⟨i1, hi1⟩ : ∃ i1, i1 = (z1 % (n3 : Int)).toNat := ⟨_, rfl⟩
   have hi1l : i1 < n3 := by omega
   obtain ⟨Y, hY⟩ : ∃ y, ys3[i1]? = some y := ⟨_, List.getElem?_eq_getElem (by rw [HR3.out.2.1, <- HN3.out]; exact hi1l)⟩
   obtain ⟨r, hr⟩ : ∃ y, g[i1]? = some y := ⟨_, List.getElem?_eq_getElem (by rw [<- HN3.out]; exact hi1l)⟩
   obtain ⟨e1, e2, e3⟩ := HR3.out.2.2 i1 Y r hY hr
   obtain ⟨⟨na, nn, nc, hns⟩, ka, kn, kc, hks⟩ := e3.slices
   obtain ⟨nm, ⟨k, tx, nv, lo, hi2, kv⟩⟩ := Y
   simp only [] at hns hks e1
   subst hns hks
   have f0 := CXA.out _ (Below.refl _ _) i1 _ hY 0 _ (by omega) rfl
   have f1 := CXA.out _ (Below.refl _ _) i1 _ hY 1 _ (by omega) rfl
   have f2 := CXA.out _ (Below.refl _ _) i1 _ hY 2 _ (by omega) rfl
   have f3 := CXA.out _ (Below.refl _ _) i1 _ hY 3 _ (by omega) rfl
   have f4 := CXA.out _ (Below.refl _ _) i1 _ hY 4 _ (by omega) rfl
   have f5 := CXA.out _ (Below.refl _ _) i1 _ hY 5 _ (by omega) rfl
   have f6 := CXA.out _ (Below.refl _ _) i1 _ hY 6 _ (by omega) rfl
   rw [hi1, <- Nat.add_assoc] at f0 f1 f2 f3 f4 f5 f6
   rw [Nat.add_zero] at f0
   simp only [] at f0 f1 f2 f3 f4 f5 f6
   have hzw : wrap64 z1 = z1 := by unfold wrap64; omega
   have hn0 : ((n3 : Int) == 0) = false := by simpa using hz
   have hba : Below w3.heap.size w3 (w3.alloc (.cells #[.string nm, .int .i64 k, .string tx, .slice na nn nc, .int .i64 lo, .int .i64 hi2, .slice ka kn kc] 29)) := (Below.refl _ _).alloc (Nat.le_refl _) _
   have hff : findM g r.name ≠ none := by rw [once_find HON.out hr]; simp
   have HRC := hh9 (reach_any (HR3.out.below hba) e2 (by omega) HSM.out.2.1 HSM.out.2.2)
   rw [<- e1] at HRC
   have HBA := hh9 hba
   have HFF := hh9 hff
   have HE1 := hh9 e1
   clear hJ3 hR3 hsm hon hhas hn3 hcs hba hff e1 e2 e3 hr hY hi1
   go_wp2_with fail
   refine HRC.out.mono ?_
   rintro e w4 ⟨v4, R, rfl, hR4, hrow4, htx4, hb4⟩
   obtain ⟨hfirst, hnod, hclo⟩ := hR4.closed HFF.out
   have hfound := hR4.found HHAS.out
   have HB4 := hh9 (below_then HBA.out hb4)
   have HROW4 := hh9 hrow4
   have HNOD := hh9 hnod
   have HCLO := hh9 hclo
   have HFOUND := hh9 hfound
   have HTX := hh9 htx4
   obtain ⟨m4, hm4⟩ : ∃ m, m = R.length := ⟨_, rfl⟩
   have hm40 : 0 < m4 := by rw [hm4]; exact (List.getElem?_eq_some_iff.1 hfirst).1
   rw [<- hm4] at HROW4
   obtain ⟨g4, c4, hv4⟩ : ∃ g4 c, v4 = .slice (some ⟨g4, 0, none⟩) m4 c := by
    rcases row_forms HROW4.out with ⟨_, h0⟩ | ⟨g1, cap1, h3⟩
    ·omega
    ·exact ⟨_, _, h3⟩
   subst hv4
   have HM4 := hh9 hm4
   have hRC : Hid (∀ (W : World), Below w4.heap.size w4 W -> ∀ (j : Nat) (y : List Int), R[j]? = some y -> W.cell? ⟨g4, j, none⟩ = some (.string (strOf y))) := fun W hW j y hy =>
    (hW.cell (p := ⟨g4, j, none⟩) (row_base HROW4.out).2.2.2).trans (row_cell HROW4.out (by unfold scells; rw [List.getElem?_map, hy]; rfl))
   have c0 := hRC.out _ (Below.refl _ _) 0 _ hfirst
   rw [<- HE1.out] at c0
   have hbx : w4.cell? ⟨w3.heap.size, 0, none⟩ = some (.string nm) := by
    have h := (hb4.block w3.heap.size (by simp)).trans (heap_alloc_new w3 (.cells #[.string nm, .int .i64 k, .string tx, .slice na nn nc, .int .i64 lo, .int .i64 hi2, .slice ka kn kc] 29))
    unfold World.cell?
    simp only [h]
    rfl
   have hne := str_ne5 nm
   have hm41 : ((m4 : Int) == 0) = false := by simp; omega
   have hlm : m4 <= 1000000000 \/ True := .inr trivial
   have hmx : m4 <= maxLen := Nat.le_trans (row_base HROW4.out).2.1 (row_base HROW4.out).2.2.1
   unfold maxLen at hmx
   clear hR4 hrow4 htx4 hb4 hfirst hnod hclo hfound hm4 hlm f0 f1 f2 f3 f4 f5 f6
   go_wp2_with fail
   go_region
   go_wp2_with fail
   go_loopw [10] (fun v wr => ∃ i : Nat, v = .int .i64 i /\ i <= m4 /\ Hid (Below w4.heap.size w4 wr)) (fun v _ => m4 - (intOf v).toNat)
   case atStart => exact ⟨0, rfl, by omega, below_drawn (Below.refl _ _) 1⟩
   case round =>
    obtain ⟨i, rfl, hi, HBI⟩ := hrel
    by_cases hlt : i < m4
    ·obtain ⟨y, hy⟩ : ∃ y, R[i]? = some y := ⟨_, List.getElem?_eq_getElem (by rw [<- HM4.out]; exact hlt)⟩
     have hyR := List.mem_of_getElem? hy
     have hc := hRC.out _ HBI.out i y hy
     have HBW := hh9 (below_then HB4.out HBI.out)
     have HF := hh9 (find_any (HR3.out.below HBW.out).rules (HTX.out y hyR))
     cases hf : findM g y with
     | none => exact absurd hf (HFOUND.out y hyR)
     | some q =>
      rw [findI_some hf] at HF
      obtain ⟨⟨r2, hr2, hrn2⟩, _⟩ := findM_some.1 hf
      have hql := findM_lt hf
      rw [<- HN3.out] at hql
      have hneed : needs g y = namesM r2.expr := by unfold needs; rw [hf]; simp only [hr2]
      obtain ⟨Y2, hY2⟩ : ∃ y, ys3[q]? = some y := ⟨_, List.getElem?_eq_getElem (by rw [HR3.out.2.1, <- HN3.out]; exact hql)⟩
      obtain ⟨_, _, e3⟩ := HR3.out.2.2 q Y2 r2 hY2 hr2
      obtain ⟨⟨na2, nn2, nc2, hns2⟩, ka2, kn2, kc2, hks2⟩ := e3.slices
      obtain ⟨nm2, ⟨k2, tx2, nv2, lo2, hi22, kv2⟩⟩ := Y2
      simp only [] at hns2 hks2
      subst hns2 hks2
      have HE3 := hh9 e3
      have HY2 := hh9 hY2
      obtain ⟨NM, hNM⟩ : ∃ NM, NM = namesM r2.expr := ⟨_, rfl⟩
      have hs := HSM.out.2.1 r2 (List.mem_of_getElem? hr2)
      have hnin : Hid (∀ z ∈ NM, z ∈ R /\ TextOk z) := fun z hz => by
       rw [hNM, <- hneed] at hz
       have := HCLO.out y hyR z hz
       exact ⟨this, HTX.out z this⟩
      have HNM := hh9 hNM
      have HS := hh9 hs
      obtain ⟨SY, hSY⟩ : ∃ SY, SY = strOf y := ⟨_, rfl⟩
      rw [<- hSY] at hc HF
      have q1 : decide ((i : Int) < (m4 : Int)) = true := decide_eq_true (by omega)
      have q2 : max (q : Int) 0 = q := by omega
      clear hy hyR hf hr2 hrn2 hneed hY2 e3 hNM hs hSY
      go_wp2_with fail
      refine HF.out.mono ?_
      rintro e w5 ⟨rfl, hb5⟩
      have HB5 := hh9 (below_then HBI.out hb5)
      have HB35 := hh9 (below_then HBW.out hb5)
      have f1 := CXA.out _ HB35.out q _ HY2.out 1 _ (by omega) rfl
      have f2 := CXA.out _ HB35.out q _ HY2.out 2 _ (by omega) rfl
      have f3 := CXA.out _ HB35.out q _ HY2.out 3 _ (by omega) rfl
      have f4 := CXA.out _ HB35.out q _ HY2.out 4 _ (by omega) rfl
      have f5 := CXA.out _ HB35.out q _ HY2.out 5 _ (by omega) rfl
      have f6 := CXA.out _ HB35.out q _ HY2.out 6 _ (by omega) rfl
      rw [<- Nat.add_assoc] at f1 f2 f3 f4 f5 f6
      simp only [] at f1 f2 f3 f4 f5 f6
      have HNS := hh9 (nms_any (HE3.out.kept (M := fun _ => False) (P' := fun _ => True) (KeepsC.below HB35.out) (fun b _ _ => ⟨id, trivial⟩)) HS.out.1 (by have := HS.out.2; omega))
      rw [<- HNM.out] at HNS
      unfold XV.val at HNS
      simp only [] at HNS
      clear hb5
      go_wp2_with fail
      refine HNS.out.mono ?_
      rintro e w6 ⟨v6, rfl, hrow6, hb6⟩
      have HB6 := hh9 (below_then HB5.out hb6)
      obtain ⟨m6, hm6⟩ : ∃ m, m = NM.length := ⟨_, rfl⟩
      have hm66 : m6 <= 1000000 := by rw [hm6, HNM.out]; exact HS.out.2
      rw [<- hm6] at hrow6
      have HROW6 := hh9 hrow6
      obtain ⟨a6, c6, hv6⟩ := own_slice5 hrow6
      subst hv6
      have HM6 := hh9 hm6
      obtain ⟨wm, hwm⟩ : ∃ x : World, x = wr := ⟨_, rfl⟩
      subst hwm
      clear hrow6 hb6 hm6 f1 f2 f3 f4 f5 f6
      go_wp2_with fail
      go_loopw [12] (fun v wr => ∃ t : Nat, v = .int .i64 t /\ t <= m6 /\ Hid (Below w6.heap.size w6 wr)) (fun v _ => m6 - (intOf v).toNat)
      case atStart => exact ⟨0, rfl, by omega, Below.refl _ _⟩
      case round =>
       obtain ⟨t, rfl, ht, HBT⟩ := hrel
       by_cases hlt6 : t < m6
       ·obtain ⟨z, hz⟩ : ∃ z, NM[t]? = some z := ⟨_, List.getElem?_eq_getElem (by rw [<- HM6.out]; exact hlt6)⟩
        obtain ⟨hzR, hzT⟩ := hnin.out z (List.mem_of_getElem? hz)
        obtain ⟨g6, hg6⟩ : ∃ g6, a6 = some ⟨g6, 0, none⟩ := by
         rcases row_forms HROW6.out with ⟨_, h0⟩ | ⟨g1, cap1, h3⟩
         ·omega
         ·injection h3 with h3
          exact ⟨_, h3⟩
        subst hg6
        obtain ⟨SZ, hSZ⟩ : ∃ SZ, SZ = strOf z := ⟨_, rfl⟩
        have HZC : Hid (∀ (W : World), Below w6.heap.size w6 W -> W.cell? ⟨g6, t, none⟩ = some (.string SZ)) := fun W hW => by
         rw [hSZ]
         exact (hW.cell (p := ⟨g6, t, none⟩) (row_base HROW6.out).2.2.2).trans (row_cell HROW6.out (by unfold scells; rw [List.getElem?_map, hz]; rfl))
        have HSZ := hh9 hSZ
        have HZR := hh9 hzR
        have HZT := hh9 hzT
        have qt : decide ((t : Int) < (m6 : Int)) = true := decide_eq_true (by omega)
        obtain ⟨wn, hwn⟩ : ∃ x : World, x = wr := ⟨_, rfl⟩
        subst hwn
        clear hz hzR hzT hSZ
        go_wp2_with fail
        go_loopw [13, 14] (fun s v wr => ∃ (j cn : Nat), s = .int .i64 cn /\ v = .int .i64 j /\ j <= m4 /\ cn <= j /\ Hid (cn = List.count z (R.take j)) /\ Hid (Below w6.heap.size w6 wr)) (fun _ v _ => m4 - (intOf v).toNat)
        case atStart => exact ⟨0, 0, rfl, rfl, by omega, by omega, by simp [Hid], HBT⟩
        case round =>
         obtain ⟨j, cn, rfl, rfl, hj, hcn, HCN, HBJ⟩ := hrel
         by_cases hlj : j < m4
         ·obtain ⟨x, hx⟩ : ∃ x, R[j]? = some x := ⟨_, List.getElem?_eq_getElem (by rw [<- HM4.out]; exact hlj)⟩
          have hxT := HTX.out x (List.mem_of_getElem? hx)
          have d1 := hRC.out _ (below_then HB6.out HBJ.out) j x hx
          have d2 := HZC.out _ HBJ.out
          have hq := str_beqL hxT HZT.out
          rw [<- HSZ.out] at hq
          obtain ⟨SX, hSX⟩ : ∃ SX, SX = strOf x := ⟨_, rfl⟩
          rw [<- hSX] at hq d1
          have hst := count_step (z := z) hx
          have qj : decide ((j : Int) < (m4 : Int)) = true := decide_eq_true (by omega)
          have HBD : Hid (Below w6.heap.size w6 wr.drew) := HBJ.out.trans (below_drawn (Below.refl _ _) 1)
          clear hx hxT hSX
          by_cases hxz : x = z
          ·rw [decide_eq_true hxz] at hq
           rw [if_pos hxz] at hst
           have HST := hh9 hst
           clear hst hxz
           go_wp2_with fail
           go_region
           go_wp2_with fail
           go_roundw
           case rel => exact ⟨j + 1, cn + 1, by go_num, by go_num, by omega, by omega, by (unfold Hid; rw [HST.out, <- HCN.out]), HBD⟩
           case measure => (simp [intOf] <;> omega)
          ·rw [decide_eq_false hxz] at hq
           rw [if_neg hxz] at hst
           have HST := hh9 hst
           clear hst hxz
           go_wp2_with fail
           go_region
           go_wp2_with fail
           go_roundw
           case rel => exact ⟨j + 1, cn, rfl, by go_num, by omega, by omega, by (unfold Hid; rw [HST.out, <- HCN.out]; rfl), HBD⟩
           case measure => (simp [intOf] <;> omega)
         ·obtain rfl : j = m4 := by omega
          obtain rfl : cn = 1 := by
           rw [HCN.out, List.take_of_length_le (by rw [HM4.out]; exact Nat.le_refl _)]
           exact count_once HNOD.out HZR.out
          have qj : decide ((j : Int) < (j : Int)) = false := decide_eq_false (by omega)
          go_wp2_with fail
          go_roundw
          case rel => exact ⟨t + 1, by go_num, by omega, HBJ⟩
          case measure => (simp [intOf] <;> omega)
       ·obtain rfl : t = m6 := by omega
        have qt : decide ((t : Int) < (t : Int)) = false := decide_eq_false (by omega)
        have HBE := hh9 (below_then HB6.out HBT.out)
        go_wp2_with fail
        go_roundw
        case rel => exact ⟨i + 1, by go_num, by omega, HBE⟩
        case measure => (simp [intOf] <;> omega)
    ·obtain rfl : i = m4 := by omega
     have q1 : decide ((i : Int) < (i : Int)) = false := decide_eq_false (by omega)
     have HBE := hh9 (below_then (below_then HB3.out HB4.out) HBI.out)
     go_wp2_with fail
     go_ret
     exact ⟨rfl, HBE.out⟩
end Go.Proofs.YtpopgjgngbiofaaGreatDoor
