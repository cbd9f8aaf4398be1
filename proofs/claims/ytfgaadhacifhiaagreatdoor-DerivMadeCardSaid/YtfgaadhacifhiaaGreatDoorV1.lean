/- Joined texts; each begins with what it says. -/
import Derived.Test.YtfgaadhacifhiaaGreatDoorV0
import Derived.Test.YtfgaadhacifhiaaGreatDoorW1
import Derived.Test.YtfgaadhacifhiaaGreatDoorW4
import Derived.Test.YtfgaadhacifhiaaGreatDoorW5
/-! The document's Deriv, of any good expression. No condition but size. -/
namespace Go.Proofs.YtfgaadhacifhiaaGreatDoor
open Go.RowKit Go.Lib
set_option linter.unusedVariables false
set_option linter.unusedSimpArgs false

set_option maxRecDepth 100000 in
set_option maxHeartbeats 32000000 in
theorem refderiv_any (c : Nat) (hc : c < 256) : ∀ (N : Nat) (P : Nat → Prop) (t : RT) (x : ReV) (W : World), t.dep ≤ N → good t → Dm 0 t [] + t.sz + 1 ≤ 9000000000 → RAt W P x t →
    Calls Tryz.prog 10 #[x.val, .int .i64 (c : Int)] W (GivesRe (fun g => P g ∨ W.heap.size ≤ g) (derivM c t) W) := by
  intro N
  induction N with
  | zero => intro P t x W h; have := dep_pos t; omega
  | succ N ih =>
    intro P t x W hdep hg hsz ht
    obtain ⟨vs, et, hok, _⟩ := ht.kids
    obtain ⟨Q0, hQ0⟩ : ∃ Q0 : Nat → Prop, Q0 = fun g => P g ∧ g < W.heap.size := ⟨_, rfl⟩
    have ht0 : RAt W Q0 x t := by rw [hQ0]; exact ht.weak fun g hg hl => ⟨hg, hl⟩
    obtain ⟨vs, _, _, hk⟩ := ht0.kids
    have hkd : ∀ v ∈ t.kids, v.dep ≤ N := by
      obtain ⟨k', s', l'⟩ := t
      exact dep_mk.1 hdep
    have hkg : ∀ v ∈ t.kids, good v := fun v hv => good_kid hg hv
    have hks := kids_sum t
    have hcat : t.kind = 3 → (∀ v ∈ t.kids, good v ∧ v.kind ≠ 1 ∧ v.kind ≠ 3) ∧ Dm 0 t [] = Dq 0 t.kids [] := fun e => by
      obtain ⟨k', s', l'⟩ := t
      simp only [RT.kind] at e
      subst e
      exact ⟨fun v hv => ⟨hkg v hv, ((good_kinds hg).1 rfl v hv).2⟩, Dm_cat s' l'⟩
    have heit : t.kind = 4 → Dm 0 t [] = (t.kids.map fun x => Dm 0 x []).sum := fun e => Dm_either' 0 [] e
    have hsta : t.kind = 5 → ∃ u, t.kids = [u] ∧ Dm 0 u [] ≤ Dm 0 t [] := fun e => by
      obtain ⟨k', s', l'⟩ := t
      simp only [RT.kind] at e
      subst e
      obtain ⟨u, rfl⟩ := (good_kinds hg).2 rfl
      exact ⟨u, rfl, by rw [Dm_star]; exact Dm_more u _⟩
    obtain ⟨L, hL⟩ : ∃ L, L = t.kids := ⟨_, rfl⟩
    rw [← hL] at hk hkd hkg et hks hcat heit hsta
    obtain ⟨k, a, b, e, d, p, n, cap⟩ := x
    simp only [ReV.w4] at hok hk et
    obtain ⟨R, hR⟩ : ∃ R, R = derivM c t := ⟨_, rfl⟩
    rw [← hR]
    have hRM : R = if k = 2 then (if (⟨a, b, e, d⟩ : W4).mem c then emptyM else noneM) else if k = 3 then eitherM (catsM (L.map fun x => (x, derivM c x)))
        else if k = 4 then eitherM (L.map (derivM c)) else if k = 5 then (match L.map (derivM c) with | [d'] => catM [d', t] | _ => noneM) else noneM := by
      rw [hR]
      conv => lhs; rw [et, deriv_mk]
      rw [← et]
      rfl
    have hkind : t.kind = k := by rw [et]; rfl
    rw [hkind] at hcat heit hsta
    have hnum := hk.num
    obtain ⟨B0, hB0⟩ : ∃ B0, B0 = W.heap.size := ⟨_, rfl⟩
    obtain ⟨w1, hw1⟩ : ∃ w1 : World, w1 = (W.alloc (.cells #[.int .i64 k, .int .u64 a, .int .u64 b, .int .u64 e, .int .u64 d, .slice p n cap] 28)).alloc (.cells #[.int .i64 0, .int .u64 0, .int .u64 0, .int .u64 0, .int .u64 0, .slice none 0 0] 28) := ⟨_, rfl⟩
    have hb1 : Below W.heap.size W w1 := by rw [hw1]; exact ((Below.refl _ _).alloc (Nat.le_refl _) _).alloc (by simp) _
    have hn1 : w1.heap[B0]? = some (.cells #[.int .i64 k, .int .u64 a, .int .u64 b, .int .u64 e, .int .u64 d, .slice p n cap] 28 (0, 0)) := by rw [hw1, hB0, @heap_alloc_old _ _ _ (by simp)]; exact heap_alloc_new _ _
    have hnD : w1.heap[B0 + 1]? = some (.cells #[.int .i64 0, .int .u64 0, .int .u64 0, .int .u64 0, .int .u64 0, .slice none 0 0] 28 (0, 0)) := by rw [hw1, hB0]; exact two_new W _ _
    have hs1 : w1.heap.size = B0 + 2 := by rw [hw1, hB0]; simp
    have hnb : n ≤ 9000000000 := by have := kid_len_le L; omega
    have HRM := Lib.hid hRM
    have HK := Lib.hid (hk.under hb1)
    have HB1 := Lib.hid hb1
    have HN1 := Lib.hid hn1
    have HND := Lib.hid hnD
    have HS1 := Lib.hid hs1
    have HW1 := Lib.hid hw1
    have HB0 := Lib.hid hB0
    have HKS := Lib.hid hks
    have HSZ := Lib.hid hsz
    have HKD := Lib.hid hkd
    have HKG := Lib.hid hkg
    have HNU := Lib.hid hnum
    have HIH := Lib.hid ih
    have HCAT := Lib.hid hcat
    have HEIT := Lib.hid heit
    have HSTA := Lib.hid hsta
    have HOK := Lib.hid hok
    have HQ0 := Lib.hid hQ0
    have HT1 := Lib.hid (ht0.under hb1)
    obtain ⟨k0, k1, k2, k3, k4, k5⟩ := six_at hn1
    have k2' : w1.cell? ⟨B0, 1 + 1, none⟩ = some (.int .u64 b) := k2
    have k3' : w1.cell? ⟨B0, 1 + 2, none⟩ = some (.int .u64 e) := k3
    have k4' : w1.cell? ⟨B0, 1 + 3, none⟩ = some (.int .u64 d) := k4
    obtain ⟨⟨d0, d1, d2, d3, d4, d5⟩, f0, f1, f2, f3, f4, f5⟩ := zero_facts hnD
    clear et hok hk hnum hL ht ht0 hdep hsz hks ih hw1 hb1 hn1 hnD hB0 hs1 hkd hkg hR hRM hcat heit hsta hkind hg hQ0
    unfold ReV.val
    simp only []
    by_cases e2 : k = 2
    · subst e2
      have hr : R = if (⟨a, b, e, d⟩ : W4).mem c then emptyM else noneM := by rw [HRM.out, if_pos rfl]
      have hI := W4.isSet HOK.out
      have c1 := refhas_any a b e d (c : Int) _ w1 hI
      rw [hasB_nat _ c hc] at c1
      obtain ⟨m, hm⟩ : ∃ m, m = (⟨a, b, e, d⟩ : W4).mem c := ⟨_, rfl⟩
      rw [← hm] at hr c1
      clear hm hI
      obtain ⟨w2, hw2⟩ : ∃ w2 : World, w2 = w1.alloc (.cells #[.int .u64 a, .int .u64 b, .int .u64 e, .int .u64 d] 25) := ⟨_, rfl⟩
      have hb2 : Below w1.heap.size w1 w2 := by rw [hw2]; exact (Below.refl _ _).alloc (Nat.le_refl _) _
      rw [← hw2] at c1
      have HND2 := Lib.hid ((hb2.block (B0 + 1) (by rw [HS1.out]; omega)).trans HND.out)
      have HB2 : Hid (Below W.heap.size W w2) := HB1.out.trans (hb2.mono HB1.out.size)
      obtain ⟨⟨g0, g1, g2, g3, g4, g5⟩, h0, h1, h2, h3, h4, h5⟩ := zero_facts HND2.out
      clear hb2 hw2
      cases m with
      | true =>
        have hr : R = emptyM := by rw [hr]; rfl
        go_enter Tryz.func10, Tryz.ntmps10
        go_wp2_with fail
        rw [← HW1.out, ← HB0.out]
        go_wp2_with fail
        refine c1.mono ?_
        rintro _ _ ⟨rfl, rfl⟩
        go_wp2_with fail
        refine bodyPost_ret_by (results_cell_row rfl _ _ (B0 + 1) 28 #[.int .i64 1, .int .u64 0, .int .u64 0, .int .u64 0, .int .u64 0, .slice none 0 0] (0, 0) _ rfl (set6_heap HND2.out _ _ _ _ _ _) Tryz.underlying28 rfl (by kernel_rfl)) rfl ?_
        rw [hr]
        exact ⟨⟨1, 0, 0, 0, 0, none, 0, 0⟩, rfl, kids_empty.tree 1 W4.zero zero_ok, six_set HB2.out (by have := HB0.out; omega) _ _ _ _ _ _⟩
      | false =>
        have hr : R = noneM := by rw [hr]; rfl
        go_enter Tryz.func10, Tryz.ntmps10
        go_wp2_with fail
        rw [← HW1.out, ← HB0.out]
        go_wp2_with fail
        refine c1.mono ?_
        rintro _ _ ⟨rfl, rfl⟩
        go_wp2_with fail
        refine bodyPost_ret_by (results_cell_row rfl _ _ (B0 + 1) 28 #[.int .i64 0, .int .u64 0, .int .u64 0, .int .u64 0, .int .u64 0, .slice none 0 0] (0, 0) _ rfl (set6_heap HND2.out _ _ _ _ _ _) Tryz.underlying28 rfl (by kernel_rfl)) rfl ?_
        rw [hr]
        exact ⟨⟨0, 0, 0, 0, 0, none, 0, 0⟩, rfl, kids_empty.tree 0 W4.zero zero_ok, six_set HB2.out (by have := HB0.out; omega) _ _ _ _ _ _⟩
    have z2 : (k == 2) = false := by simpa using e2
    by_cases e3 : k = 3
    · subst e3
      have hr : R = eitherM (catsM (L.map fun x => (x, derivM c x))) := by rw [HRM.out, if_neg (by decide), if_pos rfl]
      have HR := Lib.hid hr
      have HKK := Lib.hid (HCAT.out rfl).1
      have HDM := Lib.hid (HCAT.out rfl).2
      obtain ⟨i0, hi0, hz0, hz1, hz2⟩ := re_parts
      obtain ⟨Q, hQ⟩ : ∃ Q : Nat → Prop, Q = fun g => Q0 g ∨ w1.heap.size ≤ g := ⟨_, rfl⟩
      have HQ := Lib.hid hQ
      clear hr hQ
      go_enter Tryz.func10, Tryz.ntmps10
      go_wp2_with fail
      rw [← HW1.out, ← HB0.out]
      go_wp2_with fail
      clear k0 k1 k2 k3 k4 k5 k2' k3' k4' d0 d1 d2 d3 d4 d5 f0 f1 f2 f3 f4 f5
      go_loopg [5, 6] n (fun gk v vi wr => ∃ (i : Nat) (q : Option Addr) (cp : Nat) (us : List ReV), v = .slice q i cp ∧ vi = .int .i64 (i : Int) ∧ i ≤ n ∧ n - i ≤ gk ∧ Hid (∀ j t, j < i → L[j]? = some t → nullM t = true) ∧ Hid (Below w1.heap.size w1 wr) ∧ Hid (OwnNew w1.heap.size wr Q (.slice q i cp) us (docTo c L i)))
      case atStart => exact ⟨0, none, 0, [], rfl, rfl, by omega, by omega, fun j t hj => absurd hj (Nat.not_lt_zero j), Below.refl _ _, by unfold Hid; rw [docTo]; exact ⟨World.ownsRow_nil _ _ _ _, rfl, fun i y t hy => by simp at hy⟩⟩
      case round =>
        obtain ⟨i, q, cp, us, rfl, rfl, hi, hgk, HE, HB, HO⟩ := hrel
        obtain ⟨k0, k1, k2, k3, k4, k5⟩ := six_at ((HB.out.block B0 (by rw [HS1.out]; omega)).trans HN1.out)
        by_cases hlt : i < n
        · have hltz : (i : Int) < (n : Int) := by omega
          obtain ⟨g, off, rfl⟩ := HK.out.rowv.some_of hlt
          have hil : i < L.length := by rw [← HNU.out]; exact hlt
          obtain ⟨y, hy⟩ : ∃ y, vs[i]? = some y := ⟨_, List.getElem?_eq_getElem (by rw [HK.out.len]; exact hil)⟩
          obtain ⟨u, hu⟩ : ∃ u, L[i]? = some u := ⟨_, List.getElem?_eq_getElem hil⟩
          have hpl := (HK.out.place hy).under HB.out
          have hra := (HK.out.each i y u hy hu).under HB.out
          have hul : u ∈ L := List.mem_of_getElem? hu
          have hreach := doc_reach L i u (fun v hv => (HKK.out v hv).2) hu HE.out
          have con := HIH.out Q0 u y wr (HKD.out u hul) (HKG.out u hul) (by have h1 := Dm_more u (L.drop (i + 1)); have h2 := HDM.out; have h3 := HSZ.out; have h4 := sum_mem hul; have h5 := HKS.out; omega) hra
          have husz : u.sz ≤ 8000000000 ∨ True := .inr trivial
          have hcs : (derivM c u).sz + ((L.drop (i + 1)).map RT.sz).sum ≤ 9000000000 := by
            have h1 := (sz_left (c := c) (HKG.out u hul) (L.drop (i + 1))).1
            have h2 : T 0 (L.drop (i + 1)) = ((L.drop (i + 1)).map RT.sz).sum := rfl
            have h3 := HSZ.out
            have h4 := HDM.out
            have h5 := HKS.out
            have h6 : ((L.drop (i + 1)).map RT.sz).sum ≤ (L.map RT.sz).sum := by
              have : L.map RT.sz = (L.take (i + 1)).map RT.sz ++ (L.drop (i + 1)).map RT.sz := by rw [← List.map_append, List.take_append_drop]
              rw [this, List.sum_append]
              omega
            omega
          have HTK : Hid (docTo c L (i + 1) = docTo c L i ++ [catM (derivM c u :: L.drop (i + 1))]) := docTo_succ c L i u hu
          have HLEN : Hid ((docTo c L i).length = i) := docTo_len c L i (by omega)
          have HUS : Hid (u.sz ≤ 9000000000 ∧ u.dep ≤ N) := ⟨by have h4 := sum_mem hul; have h5 := HKS.out; have h3 := HSZ.out; omega, HKD.out u hul⟩
          have HU := Lib.hid hu
          have HCS := Lib.hid hcs
          have hcap : n ≤ cap := by
            rcases HK.out.row with ⟨h0, _⟩ | ⟨_, _, _, h1, _⟩
            · omega
            · exact h1
          have HPL := Lib.hid hpl
          have HRA := Lib.hid hra
          obtain ⟨y0, y1, y2, y3, y4, y5, y6, y7⟩ := y
          obtain ⟨q0, q1, q2, q3, q4, q5⟩ := hpl.six
          simp only at q0 q1 q2 q3 q4 q5
          unfold ReV.val at con
          simp only [] at con
          have hqb : ∀ z, (Value.slice q i cp).ownBlock = some z → w1.heap.size ≤ z ∧ z < wr.heap.size := fun z hz => by
            rcases row_forms HO.out.own with ⟨h, _⟩ | ⟨gq, cq, h⟩
            · rw [h] at hz; simp [Value.ownBlock] at hz
            · have ho := HO.out.own
              rw [h] at hz ho
              have h1 := row_base ho
              have h2 : gq = z := by simpa [Value.ownBlock] using hz
              omega
          have HQB := Lib.hid hqb
          have hwle : w1.heap.size ≤ wr.heap.size := HB.out.size
          have hi9 : i ≤ 9000000000 := by omega
          have hwd : IntKind.i64.wrap ((i : Int) + 1) = (i : Int) + 1 := by rw [IntKind.wrap_i64]; omega
          clear hpl hra hy hu hul hqb hcs hreach husz
          go_wp2_with fail
          ((with_reducible refine con.mono ?_))
          rintro _ w6 ⟨x6, rfl, hx6, hb6⟩
          obtain ⟨e0, e1, e2, e3, e4, q6, m6, cp6⟩ := x6
          have HB6 : Hid (Below w1.heap.size w1 w6) := HB.out.trans (hb6.mono HB.out.size)
          have HBR6 := Lib.hid hb6
          have HX6 := Lib.hid hx6
          have hba : Below w6.heap.size w6 (w6.alloc (.cells #[.int .i64 e0, .int .u64 e1, .int .u64 e2, .int .u64 e3, .int .u64 e4, .slice q6 m6 cp6] 28)) := (Below.refl _ _).alloc (Nat.le_refl _) _
          have HBA := Lib.hid hba
          have hb7 : Below w1.heap.size w1 (w6.alloc (.cells #[.int .i64 e0, .int .u64 e1, .int .u64 e2, .int .u64 e3, .int .u64 e4, .slice q6 m6 cp6] 28)) := HB6.out.trans (hba.mono HB6.out.size)
          clear k0 k1 k2 k3 k4 k5
          obtain ⟨k0, k1, k2, k3, k4, k5⟩ := six_at ((hb7.block B0 (by rw [HS1.out]; omega)).trans HN1.out)
          have HROWA : Hid ((w6.alloc (.cells #[.int .i64 e0, .int .u64 e1, .int .u64 e2, .int .u64 e3, .int .u64 e4, .slice q6 m6 cp6] 28)).ownsRow w6.heap.size 28 6 (.slice (some ⟨w6.heap.size, 0, none⟩) 1 1) 1 [.int .i64 e0, .int .u64 e1, .int .u64 e2, .int .u64 e3, .int .u64 e4, .slice q6 m6 cp6]) := row_of_block (Nat.le_refl _) (heap_alloc_new _ _) (by unfold maxLen; omega) rfl
          have hkl := HK.out.len
          have hkn : n = L.length := HNU.out
          have HK7 := Lib.hid (HK.out.under hb7)
          have HK6 := Lib.hid (HK.out.under HB6.out)
          have HCON : Hid (∀ (g3 cp3 : Nat) (w8 : World), w8.ownsRow w6.heap.size 28 6 (.slice (some ⟨g3, 0, none⟩) (1 + (n - (i + 1))) cp3) (1 + (n - (i + 1))) ([.int .i64 e0, .int .u64 e1, .int .u64 e2, .int .u64 e3, .int .u64 e4, .slice q6 m6 cp6] ++ (vs.drop (i + 1)).flatMap ReV.cells) →
              (w6.alloc (.cells #[.int .i64 e0, .int .u64 e1, .int .u64 e2, .int .u64 e3, .int .u64 e4, .slice q6 m6 cp6] 28)).grownBy w8 (Value.slice (some ⟨w6.heap.size, 0, none⟩) 1 1).ownBlock →
              Calls Tryz.prog 17 #[.slice (some ⟨g3, 0, none⟩) (1 + (n - (i + 1))) cp3] w8 (GivesRe (fun z => ((Q0 z ∨ wr.heap.size ≤ z) ∨ w6.heap.size ≤ z) ∨ w8.heap.size ≤ z) (catM (derivM c u :: L.drop (i + 1))) w8) ∧ Below w6.heap.size w6 w8) := fun g3 cp3 w8 ho hgr => by
            have hb68 : Below w6.heap.size w6 w8 := HBA.out.grown hgr (by simp) fun z hz => by simp [Value.ownBlock] at hz; omega
            refine ⟨?_, hb68⟩
            have hkk := cat_kids (w1 := w6) (PQ := fun z => Q0 z ∨ wr.heap.size ≤ z) (x0 := ⟨e0, e1, e2, e3, e4, q6, m6, cp6⟩) (rt := derivM c u) (HK6.out.weakP fun z hz => .inl hz) HX6.out hb68 rfl hlt ho
            exact refcat_any w8 hkk (by have := HCS.out; simpa using this)
          have hwle6 : w1.heap.size ≤ w6.heap.size := HB6.out.size
          clear hx6 hb6 con q0 q1 q2 q3 q4 q5 hba hb7
          unfold ReV.val
          by_cases hcc : cap = i + 1
          · have z1 : ((i : Int) + 1) ≤ (n : Int) := by omega
            have z2 : (0 : Int) ≤ (i : Int) + 1 := by omega
            have z3 : (n : Int) ≤ (cap : Int) := by omega
            obtain rfl : n = i + 1 := by omega
            subst hcc
            have z5 : ((i : Int) + 1).toNat = i + 1 := by omega
            have hlist : (vs.drop (i + 1)).flatMap ReV.cells = [] := by rw [List.drop_eq_nil_of_le (by omega)]; rfl
            have HLI := Lib.hid hlist
            have HLNEW : Hid (((vs.drop (i + 1)).flatMap ReV.cells).length = 0 * 6) := by unfold Hid; rw [hlist]; rfl
            have HNEWS : Hid (∀ (j : Nat) (v : Value), ((vs.drop (i + 1)).flatMap ReV.cells)[j]? = some v → (w6.alloc (.cells #[.int .i64 e0, .int .u64 e1, .int .u64 e2, .int .u64 e3, .int .u64 e4, .slice q6 m6 cp6] 28)).cell? ((⟨g, off, none⟩ : Addr).add j) = some v) := fun j v hj => by rw [hlist] at hj; simp at hj
            have HONE : Hid (∀ v ∈ (vs.drop (i + 1)).flatMap ReV.cells, v.oneCell' = true) := flat6_one _
            rw [show 1 + (i + 1 - (i + 1)) = 1 by omega] at HCON
            clear hlist hkl hkn
            go_wp2_with (at_builtin; go_loud (refine wpList_append_own_at _ rfl _ _ 26 rfl w6.heap.size 28 i0 _ 6 64 Tryz.underlying26 hi0 hz0 hz1 hz2 rfl (by decide) _ _ _ rfl HROWA.out ⟨g, off, none⟩ 0 0 ((vs.drop (i + 1)).flatMap ReV.cells) rfl HLNEW.out HNEWS.out HONE.out ?c3 ?c4 ?c5 ?_))
            case c3 => unfold maxLen; omega
            case c4 => omega
            case c5 => simp
            intro v8 w8 hown hgrow _ hat
            obtain ⟨g8, cap8, rfl⟩ := (row_forms hown).resolve_left (fun h => by have := h.2; omega)
            obtain ⟨con2, hb68⟩ := HCON.out g8 cap8 w8 hown hgrow
            have HB68 := Lib.hid hb68
            clear hown hgrow hat hb68 k0 k1 k2 k3 k4 k5
            go_wp2_with fail
            ((with_reducible refine con2.mono ?_))
            rintro _ w9 ⟨x9, rfl, hx9, hb9⟩
            obtain ⟨g0, g1, g2, g3, g4, q9, m9, cp9⟩ := x9
            have HBR9 : Hid (Below wr.heap.size wr w9) := HBR6.out.trans ((HB68.out.trans (hb9.mono HB68.out.size)).mono HBR6.out.size)
            have HB9 : Hid (Below w1.heap.size w1 w9) := HB.out.trans (HBR9.out.mono HB.out.size)
            have HOW := Lib.hid (HO.out.under HBR9.out)
            have HX9 : Hid (RAt w9 (fun z => Q0 z ∨ wr.heap.size ≤ z) ⟨g0, g1, g2, g3, g4, q9, m9, cp9⟩ (catM (derivM c u :: L.drop (i + 1)))) := hx9.weak fun z hz _ => by
              have h1 := HBR6.out.size
              have h2 := HB68.out.size
              rcases hz with ((hz | hz) | hz) | hz
              · exact .inl hz
              · exact .inr hz
              · exact .inr (by omega)
              · exact .inr (by omega)
            have HOA : Hid ((w9.alloc (.cells #[.int .i64 g0, .int .u64 g1, .int .u64 g2, .int .u64 g3, .int .u64 g4, .slice q9 m9 cp9] 28)).ownsRow w1.heap.size 28 6 (.slice q i cp) i (us.flatMap ReV.cells)) := by
              have := HOW.out.own.alloc (.cells #[.int .i64 g0, .int .u64 g1, .int .u64 g2, .int .u64 g3, .int .u64 g4, .slice q9 m9 cp9] 28)
              rw [HLEN.out] at this
              exact this
            have HAB := Lib.hid (own_above HOA.out)
            have hwle9 : w1.heap.size ≤ w9.heap.size := HB9.out.size
            clear hx9 hb9 con2
            unfold ReV.val
            go_wp2_with (at_builtin; go_loud (refine wpList_append_own_at _ rfl _ _ 26 rfl w1.heap.size 28 i0 _ 6 64 Tryz.underlying26 hi0 hz0 hz1 hz2 rfl (by decide) _ _ _ rfl HOA.out ⟨w9.heap.size, 0, none⟩ 1 1 [.int .i64 g0, .int .u64 g1, .int .u64 g2, .int .u64 g3, .int .u64 g4, .slice q9 m9 cp9] rfl rfl ?b1 ?b2 ?b3 ?b4 ?b5 ?_))
            case b1 => exact new3 w9 #[.int .i64 g0, .int .u64 g1, .int .u64 g2, .int .u64 g3, .int .u64 g4, .slice q9 m9 cp9] 28 [.int .i64 g0, .int .u64 g1, .int .u64 g2, .int .u64 g3, .int .u64 g4, .slice q9 m9 cp9] rfl
            case b2 => intro x hx; simp at hx; rcases hx with rfl | rfl | rfl | rfl | rfl | rfl <;> rfl
            case b3 => unfold maxLen; omega
            case b4 => omega
            case b5 => simp; omega
            intro v10 w10 hown hgrow _ hat
            obtain ⟨g10, cap10, rfl⟩ := (row_forms hown).resolve_left (fun h => by cases h.2)
            have HB10 : Hid (Below w1.heap.size w1 w10) := (HB9.out.alloc HB9.out.size _).grown hgrow (by simp; omega) HAB.out
            have HON : Hid (OwnNew w1.heap.size w10 Q (.slice (some ⟨g10, 0, none⟩) (i + 1) cap10) (us ++ [⟨g0, g1, g2, g3, g4, q9, m9, cp9⟩]) (docTo c L (i + 1))) := by
              unfold Hid
              rw [HTK.out]
              have hba : Below w9.heap.size w9 (w9.alloc (.cells #[.int .i64 g0, .int .u64 g1, .int .u64 g2, .int .u64 g3, .int .u64 g4, .slice q9 m9 cp9] 28)) := (Below.refl _ _).alloc (Nat.le_refl _) _
              have hx : RAt (w9.alloc (.cells #[.int .i64 g0, .int .u64 g1, .int .u64 g2, .int .u64 g3, .int .u64 g4, .slice q9 m9 cp9] 28)) (fun g => Q g ∧ (Value.slice q i cp).ownBlock ≠ some g) ⟨g0, g1, g2, g3, g4, q9, m9, cp9⟩ (catM (derivM c u :: L.drop (i + 1))) := by
                refine (HX9.out.under hba).weak fun z hz _ => ?_
                have hs := HS1.out
                have h0 := HB0.out
                rw [HQ.out]
                rw [HQ0.out] at hz ⊢
                refine ⟨?_, fun e => ?_⟩
                · rcases hz with hz | hz
                  · exact .inl hz
                  · exact .inr (by omega)
                · have h3 := HQB.out z e
                  rcases hz with ⟨_, hz⟩ | hz <;> omega
              have h := OwnNew.add (HOW.out.under hba) hx (by rw [HLEN.out]; exact hown) hgrow (by rcases hat with h | h; exact .inl h.symm; exact .inr (by have h7 : g10 = w9.heap.size + 1 := (by simpa [Value.ownBlock] using h); simp; omega))
              rw [HLEN.out] at h
              exact h
            have hbr10 : Below wr.heap.size wr wr := Below.refl _ _
            obtain ⟨k0, k1, k2, k3, k4, k5⟩ := six_at ((HB10.out.block B0 (by rw [HS1.out]; omega)).trans HN1.out)
            obtain ⟨y, hy⟩ : ∃ y, vs[i]? = some y := ⟨_, List.getElem?_eq_getElem (by rw [HK.out.len, ← HNU.out]; exact hlt)⟩
            have hpl := (HK.out.place hy).under HB10.out
            have hra := (HK.out.each i y u hy HU.out).under HB10.out
            have con3 := refnull_any N u y w10 HUS.out.2 (by have := HUS.out.1; have := HSZ.out; have := HKS.out; have := sum_mem (List.mem_of_getElem? HU.out); omega) hra
            obtain ⟨r0, r1, r2, r3, r4, r5, r6, r7⟩ := y
            obtain ⟨q0, q1, q2, q3, q4, q5⟩ := hpl.six
            simp only at q0 q1 q2 q3 q4 q5
            unfold ReV.val at con3
            simp only [] at con3
            clear hown hgrow hat hbr10 hy hpl hra
            cases eu : nullM u with
            | true =>
              rw [eu] at con3
              have HE2 : Hid (∀ j t, j < i + 1 → L[j]? = some t → nullM t = true) := fun j t hj ht => by
                by_cases e : j < i
                · exact HE.out j t e ht
                · have : j = i := by omega
                  subst this
                  obtain rfl := Option.some.inj (ht.symm.trans HU.out)
                  exact eu
              clear eu
              go_wp2_with fail
              ((with_reducible refine con3.mono ?_))
              rintro _ w11 ⟨rfl, hb11⟩
              have HB11 : Hid (Below w1.heap.size w1 w11) := HB10.out.trans (hb11.mono HB10.out.size)
              have HON11 := Lib.hid (HON.out.under hb11)
              clear hb11 con3
              go_wp2
              go_roundg ((i + 1) - (i + 1))
              case measure => omega
              case rel => exact ⟨i + 1, _, _, _, rfl, by go_num, by omega, by omega, HE2, HB11.out, HON11.out⟩
            | false =>
              rw [eu] at con3
              have hfin : R = eitherM (docTo c L (i + 1)) := by rw [HR.out, docTo_stop c L i u HU.out HE.out eu]
              clear eu
              go_wp2_with fail
              ((with_reducible refine con3.mono ?_))
              rintro _ w11 ⟨rfl, hb11⟩
              have HB11 : Hid (Below w1.heap.size w1 w11) := HB10.out.trans (hb11.mono HB10.out.size)
              have HON11 := Lib.hid (HON.out.under hb11)
              have hlen2 : (docTo c L (i + 1)).length = i + 1 := docTo_len c L (i + 1) (by have := HNU.out; omega)
              have hdsz := docTo_sz c L (i + 1) (fun v hv => HKK.out v hv) (by have := HNU.out; omega) (fun j v hj hv => HE.out j v (by omega) hv)
              obtain ⟨q', cp', hv, hkids⟩ := HON11.out.slice (fun g hg => by rw [HQ.out]; exact .inr hg)
              rw [hlen2] at hv hkids
              obtain ⟨rfl, rfl⟩ : some (⟨g10, 0, none⟩ : Addr) = q' ∧ cap10 = cp' := by simpa using hv
              have con := refeither_any w11 hkids (by have h2 := HDM.out; have h3 := HSZ.out; have h5 := HKS.out; have h6 := kid_len_le L; have h7 := HNU.out; omega)
              rw [← hfin] at con
              clear hfin hv hkids hlen2 hdsz hb11 con3
              go_wp2_with fail
              ((with_reducible refine con.mono ?_))
              rintro _ w9 ⟨x9, rfl, hx9, hb9⟩
              obtain ⟨g0, g1, g2, g3, g4, q9, m9, cp9⟩ := x9
              have hall : Below w1.heap.size w1 w9 := HB11.out.trans (hb9.mono (HB11.out).size)
              have h9D := (hall.block (B0 + 1) (by rw [HS1.out]; omega)).trans HND.out
              obtain ⟨⟨d0, d1, d2, d3, d4, d5⟩, f0, f1, f2, f3, f4, f5⟩ := zero_facts h9D
              have H9D := Lib.hid h9D
              have HX9 := Lib.hid hx9
              have HALL : Hid (Below W.heap.size W w9) := HB1.out.trans (hall.mono HB1.out.size)
              have HWV : Hid (w1.heap.size ≤ w11.heap.size) := (HB11.out).size
              clear hx9 hb9 hall h9D con
              unfold ReV.val
              go_wp2
              refine bodyPost_ret_by (results_cell_row rfl _ _ (B0 + 1) 28 #[.int .i64 g0, .int .u64 g1, .int .u64 g2, .int .u64 g3, .int .u64 g4, .slice q9 m9 cp9] (0, 0) _ rfl (set6_heap H9D.out _ _ _ _ _ _) Tryz.underlying28 rfl (by kernel_rfl)) rfl ?_
              refine ⟨⟨g0, g1, g2, g3, g4, q9, m9, cp9⟩, rfl, ?_, six_set HALL.out (by have := HB0.out; omega) _ _ _ _ _ _⟩
              refine HX9.out.kept (Keeps.of (by simp [World.setCell]) fun z hz hl => ?_)
              have hs := HS1.out
              have h0 := HB0.out
              have hw := HWV.out
              rw [HQ.out] at hz
              rw [HQ0.out] at hz
              have hne : z ≠ B0 + 1 := by rcases hz with (⟨_, hz⟩ | hz) | hz <;> omega
              refine ⟨six_ne hne _ _ _ _ _ _, ?_⟩
              rcases hz with (⟨hz, _⟩ | hz) | hz
              · exact .inl hz
              · exact .inr (by omega)
              · exact .inr (by omega)
          · have z1 : ((i : Int) + 1) ≤ (n : Int) := by omega
            have z2 : (0 : Int) ≤ (i : Int) + 1 := by omega
            have z3 : (n : Int) ≤ (cap : Int) := by omega
            have z4 : ¬ cap = i + 1 := hcc
            have z5 : ((i : Int) + 1).toNat = i + 1 := by omega
            have HLNEW : Hid (((vs.drop (i + 1)).flatMap ReV.cells).length = (n - (i + 1)) * 6) := by
              unfold Hid
              rw [flat6_len, List.length_drop, hkl, ← hkn]
            have HNEWS : Hid (∀ (j : Nat) (v : Value), ((vs.drop (i + 1)).flatMap ReV.cells)[j]? = some v → (w6.alloc (.cells #[.int .i64 e0, .int .u64 e1, .int .u64 e2, .int .u64 e3, .int .u64 e4, .slice q6 m6 cp6] 28)).cell? ((⟨g, off + (i + 1) * 6, none⟩ : Addr).add j) = some v) := fun j v hj => by
              rw [addr_add, Nat.add_assoc]
              rcases HK7.out.row with ⟨h0, _⟩ | ⟨g', off', h1, _, _, _, _, h6⟩
              · omega
              · have h1 : (⟨g, off, none⟩ : Addr) = ⟨g', off', none⟩ := Option.some.inj h1
                obtain ⟨rfl, rfl⟩ : g = g' ∧ off = off' := by simpa using h1
                exact h6 _ v (flat6_post (by rw [hkl, ← hkn]; omega) hj)
            have HONE : Hid (∀ v ∈ (vs.drop (i + 1)).flatMap ReV.cells, v.oneCell' = true) := flat6_one _
            clear hkl hkn
            go_wp2_with (at_builtin; go_loud (refine wpList_append_own_at _ rfl _ _ 26 rfl w6.heap.size 28 i0 _ 6 64 Tryz.underlying26 hi0 hz0 hz1 hz2 rfl (by decide) _ _ _ rfl HROWA.out ⟨g, off + (i + 1) * 6, none⟩ (n - (i + 1)) (cap - (i + 1)) ((vs.drop (i + 1)).flatMap ReV.cells) rfl HLNEW.out HNEWS.out HONE.out ?c3 ?c4 ?c5 ?_))
            case c3 => unfold maxLen; omega
            case c4 => omega
            case c5 => simp
            intro v8 w8 hown hgrow _ hat
            obtain ⟨g8, cap8, rfl⟩ := (row_forms hown).resolve_left (fun h => by have := h.2; omega)
            obtain ⟨con2, hb68⟩ := HCON.out g8 cap8 w8 hown hgrow
            have HB68 := Lib.hid hb68
            clear hown hgrow hat hb68 k0 k1 k2 k3 k4 k5
            go_wp2_with fail
            ((with_reducible refine con2.mono ?_))
            rintro _ w9 ⟨x9, rfl, hx9, hb9⟩
            obtain ⟨g0, g1, g2, g3, g4, q9, m9, cp9⟩ := x9
            have HBR9 : Hid (Below wr.heap.size wr w9) := HBR6.out.trans ((HB68.out.trans (hb9.mono HB68.out.size)).mono HBR6.out.size)
            have HB9 : Hid (Below w1.heap.size w1 w9) := HB.out.trans (HBR9.out.mono HB.out.size)
            have HOW := Lib.hid (HO.out.under HBR9.out)
            have HX9 : Hid (RAt w9 (fun z => Q0 z ∨ wr.heap.size ≤ z) ⟨g0, g1, g2, g3, g4, q9, m9, cp9⟩ (catM (derivM c u :: L.drop (i + 1)))) := hx9.weak fun z hz _ => by
              have h1 := HBR6.out.size
              have h2 := HB68.out.size
              rcases hz with ((hz | hz) | hz) | hz
              · exact .inl hz
              · exact .inr hz
              · exact .inr (by omega)
              · exact .inr (by omega)
            have HOA : Hid ((w9.alloc (.cells #[.int .i64 g0, .int .u64 g1, .int .u64 g2, .int .u64 g3, .int .u64 g4, .slice q9 m9 cp9] 28)).ownsRow w1.heap.size 28 6 (.slice q i cp) i (us.flatMap ReV.cells)) := by
              have := HOW.out.own.alloc (.cells #[.int .i64 g0, .int .u64 g1, .int .u64 g2, .int .u64 g3, .int .u64 g4, .slice q9 m9 cp9] 28)
              rw [HLEN.out] at this
              exact this
            have HAB := Lib.hid (own_above HOA.out)
            have hwle9 : w1.heap.size ≤ w9.heap.size := HB9.out.size
            clear hx9 hb9 con2
            unfold ReV.val
            go_wp2_with (at_builtin; go_loud (refine wpList_append_own_at _ rfl _ _ 26 rfl w1.heap.size 28 i0 _ 6 64 Tryz.underlying26 hi0 hz0 hz1 hz2 rfl (by decide) _ _ _ rfl HOA.out ⟨w9.heap.size, 0, none⟩ 1 1 [.int .i64 g0, .int .u64 g1, .int .u64 g2, .int .u64 g3, .int .u64 g4, .slice q9 m9 cp9] rfl rfl ?b1 ?b2 ?b3 ?b4 ?b5 ?_))
            case b1 => exact new3 w9 #[.int .i64 g0, .int .u64 g1, .int .u64 g2, .int .u64 g3, .int .u64 g4, .slice q9 m9 cp9] 28 [.int .i64 g0, .int .u64 g1, .int .u64 g2, .int .u64 g3, .int .u64 g4, .slice q9 m9 cp9] rfl
            case b2 => intro x hx; simp at hx; rcases hx with rfl | rfl | rfl | rfl | rfl | rfl <;> rfl
            case b3 => unfold maxLen; omega
            case b4 => omega
            case b5 => simp; omega
            intro v10 w10 hown hgrow _ hat
            obtain ⟨g10, cap10, rfl⟩ := (row_forms hown).resolve_left (fun h => by cases h.2)
            have HB10 : Hid (Below w1.heap.size w1 w10) := (HB9.out.alloc HB9.out.size _).grown hgrow (by simp; omega) HAB.out
            have HON : Hid (OwnNew w1.heap.size w10 Q (.slice (some ⟨g10, 0, none⟩) (i + 1) cap10) (us ++ [⟨g0, g1, g2, g3, g4, q9, m9, cp9⟩]) (docTo c L (i + 1))) := by
              unfold Hid
              rw [HTK.out]
              have hba : Below w9.heap.size w9 (w9.alloc (.cells #[.int .i64 g0, .int .u64 g1, .int .u64 g2, .int .u64 g3, .int .u64 g4, .slice q9 m9 cp9] 28)) := (Below.refl _ _).alloc (Nat.le_refl _) _
              have hx : RAt (w9.alloc (.cells #[.int .i64 g0, .int .u64 g1, .int .u64 g2, .int .u64 g3, .int .u64 g4, .slice q9 m9 cp9] 28)) (fun g => Q g ∧ (Value.slice q i cp).ownBlock ≠ some g) ⟨g0, g1, g2, g3, g4, q9, m9, cp9⟩ (catM (derivM c u :: L.drop (i + 1))) := by
                refine (HX9.out.under hba).weak fun z hz _ => ?_
                have hs := HS1.out
                have h0 := HB0.out
                rw [HQ.out]
                rw [HQ0.out] at hz ⊢
                refine ⟨?_, fun e => ?_⟩
                · rcases hz with hz | hz
                  · exact .inl hz
                  · exact .inr (by omega)
                · have h3 := HQB.out z e
                  rcases hz with ⟨_, hz⟩ | hz <;> omega
              have h := OwnNew.add (HOW.out.under hba) hx (by rw [HLEN.out]; exact hown) hgrow (by rcases hat with h | h; exact .inl h.symm; exact .inr (by have h7 : g10 = w9.heap.size + 1 := (by simpa [Value.ownBlock] using h); simp; omega))
              rw [HLEN.out] at h
              exact h
            have hbr10 : Below wr.heap.size wr wr := Below.refl _ _
            obtain ⟨k0, k1, k2, k3, k4, k5⟩ := six_at ((HB10.out.block B0 (by rw [HS1.out]; omega)).trans HN1.out)
            obtain ⟨y, hy⟩ : ∃ y, vs[i]? = some y := ⟨_, List.getElem?_eq_getElem (by rw [HK.out.len, ← HNU.out]; exact hlt)⟩
            have hpl := (HK.out.place hy).under HB10.out
            have hra := (HK.out.each i y u hy HU.out).under HB10.out
            have con3 := refnull_any N u y w10 HUS.out.2 (by have := HUS.out.1; have := HSZ.out; have := HKS.out; have := sum_mem (List.mem_of_getElem? HU.out); omega) hra
            obtain ⟨r0, r1, r2, r3, r4, r5, r6, r7⟩ := y
            obtain ⟨q0, q1, q2, q3, q4, q5⟩ := hpl.six
            simp only at q0 q1 q2 q3 q4 q5
            unfold ReV.val at con3
            simp only [] at con3
            clear hown hgrow hat hbr10 hy hpl hra
            cases eu : nullM u with
            | true =>
              rw [eu] at con3
              have HE2 : Hid (∀ j t, j < i + 1 → L[j]? = some t → nullM t = true) := fun j t hj ht => by
                by_cases e : j < i
                · exact HE.out j t e ht
                · have : j = i := by omega
                  subst this
                  obtain rfl := Option.some.inj (ht.symm.trans HU.out)
                  exact eu
              clear eu
              go_wp2_with fail
              ((with_reducible refine con3.mono ?_))
              rintro _ w11 ⟨rfl, hb11⟩
              have HB11 : Hid (Below w1.heap.size w1 w11) := HB10.out.trans (hb11.mono HB10.out.size)
              have HON11 := Lib.hid (HON.out.under hb11)
              clear hb11 con3
              go_wp2
              go_roundg (n - (i + 1))
              case measure => omega
              case rel => exact ⟨i + 1, _, _, _, rfl, by go_num, by omega, by omega, HE2, HB11.out, HON11.out⟩
            | false =>
              rw [eu] at con3
              have hfin : R = eitherM (docTo c L (i + 1)) := by rw [HR.out, docTo_stop c L i u HU.out HE.out eu]
              clear eu
              go_wp2_with fail
              ((with_reducible refine con3.mono ?_))
              rintro _ w11 ⟨rfl, hb11⟩
              have HB11 : Hid (Below w1.heap.size w1 w11) := HB10.out.trans (hb11.mono HB10.out.size)
              have HON11 := Lib.hid (HON.out.under hb11)
              have hlen2 : (docTo c L (i + 1)).length = i + 1 := docTo_len c L (i + 1) (by have := HNU.out; omega)
              have hdsz := docTo_sz c L (i + 1) (fun v hv => HKK.out v hv) (by have := HNU.out; omega) (fun j v hj hv => HE.out j v (by omega) hv)
              obtain ⟨q', cp', hv, hkids⟩ := HON11.out.slice (fun g hg => by rw [HQ.out]; exact .inr hg)
              rw [hlen2] at hv hkids
              obtain ⟨rfl, rfl⟩ : some (⟨g10, 0, none⟩ : Addr) = q' ∧ cap10 = cp' := by simpa using hv
              have con := refeither_any w11 hkids (by have h2 := HDM.out; have h3 := HSZ.out; have h5 := HKS.out; have h6 := kid_len_le L; have h7 := HNU.out; omega)
              rw [← hfin] at con
              clear hfin hv hkids hlen2 hdsz hb11 con3
              go_wp2_with fail
              ((with_reducible refine con.mono ?_))
              rintro _ w9 ⟨x9, rfl, hx9, hb9⟩
              obtain ⟨g0, g1, g2, g3, g4, q9, m9, cp9⟩ := x9
              have hall : Below w1.heap.size w1 w9 := HB11.out.trans (hb9.mono (HB11.out).size)
              have h9D := (hall.block (B0 + 1) (by rw [HS1.out]; omega)).trans HND.out
              obtain ⟨⟨d0, d1, d2, d3, d4, d5⟩, f0, f1, f2, f3, f4, f5⟩ := zero_facts h9D
              have H9D := Lib.hid h9D
              have HX9 := Lib.hid hx9
              have HALL : Hid (Below W.heap.size W w9) := HB1.out.trans (hall.mono HB1.out.size)
              have HWV : Hid (w1.heap.size ≤ w11.heap.size) := (HB11.out).size
              clear hx9 hb9 hall h9D con
              unfold ReV.val
              go_wp2
              refine bodyPost_ret_by (results_cell_row rfl _ _ (B0 + 1) 28 #[.int .i64 g0, .int .u64 g1, .int .u64 g2, .int .u64 g3, .int .u64 g4, .slice q9 m9 cp9] (0, 0) _ rfl (set6_heap H9D.out _ _ _ _ _ _) Tryz.underlying28 rfl (by kernel_rfl)) rfl ?_
              refine ⟨⟨g0, g1, g2, g3, g4, q9, m9, cp9⟩, rfl, ?_, six_set HALL.out (by have := HB0.out; omega) _ _ _ _ _ _⟩
              refine HX9.out.kept (Keeps.of (by simp [World.setCell]) fun z hz hl => ?_)
              have hs := HS1.out
              have h0 := HB0.out
              have hw := HWV.out
              rw [HQ.out] at hz
              rw [HQ0.out] at hz
              have hne : z ≠ B0 + 1 := by rcases hz with (⟨_, hz⟩ | hz) | hz <;> omega
              refine ⟨six_ne hne _ _ _ _ _ _, ?_⟩
              rcases hz with (⟨hz, _⟩ | hz) | hz
              · exact .inl hz
              · exact .inr (by omega)
              · exact .inr (by omega)
        · have hltz : ¬ (i : Int) < (n : Int) := by omega
          obtain rfl : i = n := by omega
          have hfin : R = eitherM (docTo c L i) := by
            rw [HR.out, docTo_all c L (fun v hv => by
              obtain ⟨j, hj⟩ := List.getElem?_of_mem hv
              exact HE.out j v (by have := (List.getElem?_eq_some_iff.1 hj).1; have := HNU.out; omega) hj), HNU.out]
          have HLEN : Hid ((docTo c L i).length = i) := docTo_len c L i (by have := HNU.out; omega)
          have hdsz := docTo_sz c L i (fun v hv => HKK.out v hv) (by have := HNU.out; omega) (fun j v hj hv => HE.out j v (by omega) hv)
          obtain ⟨q', cp', hv, hkids⟩ := HO.out.slice (fun g hg => by rw [HQ.out]; exact .inr hg)
          obtain ⟨rfl, h2, rfl⟩ : q = q' ∧ i = (docTo c L i).length ∧ cp = cp' := by simpa using hv
          rw [← h2] at hkids
          have con := refeither_any wr hkids (by have h2 := HDM.out; have h3 := HSZ.out; have h5 := HKS.out; have h6 := kid_len_le L; have h7 := HNU.out; omega)
          rw [← hfin] at con
          clear hfin hv hkids h2 hdsz
          go_wp2_with fail
          ((with_reducible refine con.mono ?_))
          rintro _ w9 ⟨x9, rfl, hx9, hb9⟩
          obtain ⟨g0, g1, g2, g3, g4, q9, m9, cp9⟩ := x9
          have hall : Below w1.heap.size w1 w9 := HB.out.trans (hb9.mono (HB.out).size)
          have h9D := (hall.block (B0 + 1) (by rw [HS1.out]; omega)).trans HND.out
          obtain ⟨⟨d0, d1, d2, d3, d4, d5⟩, f0, f1, f2, f3, f4, f5⟩ := zero_facts h9D
          have H9D := Lib.hid h9D
          have HX9 := Lib.hid hx9
          have HALL : Hid (Below W.heap.size W w9) := HB1.out.trans (hall.mono HB1.out.size)
          have HWV : Hid (w1.heap.size ≤ wr.heap.size) := (HB.out).size
          clear hx9 hb9 hall h9D con
          unfold ReV.val
          go_wp2
          refine bodyPost_ret_by (results_cell_row rfl _ _ (B0 + 1) 28 #[.int .i64 g0, .int .u64 g1, .int .u64 g2, .int .u64 g3, .int .u64 g4, .slice q9 m9 cp9] (0, 0) _ rfl (set6_heap H9D.out _ _ _ _ _ _) Tryz.underlying28 rfl (by kernel_rfl)) rfl ?_
          refine ⟨⟨g0, g1, g2, g3, g4, q9, m9, cp9⟩, rfl, ?_, six_set HALL.out (by have := HB0.out; omega) _ _ _ _ _ _⟩
          refine HX9.out.kept (Keeps.of (by simp [World.setCell]) fun z hz hl => ?_)
          have hs := HS1.out
          have h0 := HB0.out
          have hw := HWV.out
          rw [HQ.out] at hz
          rw [HQ0.out] at hz
          have hne : z ≠ B0 + 1 := by rcases hz with (⟨_, hz⟩ | hz) | hz <;> omega
          refine ⟨six_ne hne _ _ _ _ _ _, ?_⟩
          rcases hz with (⟨hz, _⟩ | hz) | hz
          · exact .inl hz
          · exact .inr (by omega)
          · exact .inr (by omega)
    have z3 : (k == 3) = false := by simpa using e3
    by_cases e4 : k = 4
    · subst e4
      have hr : R = eitherM (L.map (derivM c)) := by rw [HRM.out, if_neg (by decide), if_neg (by decide), if_pos rfl]
      have HR := Lib.hid hr
      have HDM := Lib.hid (HEIT.out rfl)
      obtain ⟨i0, hi0, hz0, hz1, hz2⟩ := re_parts
      obtain ⟨Q, hQ⟩ : ∃ Q : Nat → Prop, Q = fun g => Q0 g ∨ w1.heap.size ≤ g := ⟨_, rfl⟩
      have HQ := Lib.hid hQ
      clear hr hQ
      go_enter Tryz.func10, Tryz.ntmps10
      go_wp2_with fail
      rw [← HW1.out, ← HB0.out]
      go_wp2_with fail
      clear k0 k1 k2 k3 k4 k5 k2' k3' k4' d0 d1 d2 d3 d4 d5 f0 f1 f2 f3 f4 f5
      go_loopg [8, 9] n (fun gk v vi wr => ∃ (i : Nat) (q : Option Addr) (cp : Nat) (us : List ReV), v = .slice q i cp ∧ vi = .int .i64 (i : Int) ∧ i ≤ n ∧ n - i ≤ gk ∧ Hid (Below w1.heap.size w1 wr) ∧ Hid (OwnNew w1.heap.size wr Q (.slice q i cp) us ((L.map (derivM c)).take i)))
      case atStart => exact ⟨0, none, 0, [], rfl, rfl, by omega, by omega, Below.refl _ _, ⟨World.ownsRow_nil _ _ _ _, rfl, fun i y t hy => by simp at hy⟩⟩
      case round =>
        obtain ⟨i, q, cp, us, rfl, rfl, hi, hgk, HB, HO⟩ := hrel
        obtain ⟨k0, k1, k2, k3, k4, k5⟩ := six_at ((HB.out.block B0 (by rw [HS1.out]; omega)).trans HN1.out)
        by_cases hlt : i < n
        · have hltz : (i : Int) < (n : Int) := by omega
          obtain ⟨g, off, rfl⟩ := HK.out.rowv.some_of hlt
          have hil : i < L.length := by rw [← HNU.out]; exact hlt
          obtain ⟨y, hy⟩ : ∃ y, vs[i]? = some y := ⟨_, List.getElem?_eq_getElem (by rw [HK.out.len]; exact hil)⟩
          obtain ⟨u, hu⟩ : ∃ u, L[i]? = some u := ⟨_, List.getElem?_eq_getElem hil⟩
          have hpl := (HK.out.place hy).under HB.out
          have hra := (HK.out.each i y u hy hu).under HB.out
          have hul : u ∈ L := List.mem_of_getElem? hu
          have con := HIH.out Q0 u y wr (HKD.out u hul) (HKG.out u hul) (by have h1 : Dm 0 u [] ≤ (L.map fun x => Dm 0 x []).sum := sum_ge (g := fun x => Dm 0 x []) hul; have h2 := HDM.out; have h3 := HSZ.out; have h4 := sum_mem hul; have h5 := HKS.out; omega) hra
          obtain ⟨y0, y1, y2, y3, y4, y5, y6, y7⟩ := y
          obtain ⟨q0, q1, q2, q3, q4, q5⟩ := hpl.six
          simp only at q0 q1 q2 q3 q4 q5
          unfold ReV.val at con
          simp only [] at con
          have HTK : Hid ((L.map (derivM c)).take (i + 1) = (L.map (derivM c)).take i ++ [derivM c u]) := by unfold Hid; rw [List.take_add_one, List.getElem?_map, hu]; rfl
          have HLEN : Hid (((L.map (derivM c)).take i).length = i) := by unfold Hid; simp; omega
          have hqb : ∀ z, (Value.slice q i cp).ownBlock = some z → w1.heap.size ≤ z ∧ z < wr.heap.size := fun z hz => by
            rcases row_forms HO.out.own with ⟨h, _⟩ | ⟨gq, cq, h⟩
            · rw [h] at hz; simp [Value.ownBlock] at hz
            · have ho := HO.out.own
              rw [h] at hz ho
              have h1 := row_base ho
              have h2 : gq = z := by simpa [Value.ownBlock] using hz
              omega
          have HQB := Lib.hid hqb
          have hwle : w1.heap.size ≤ wr.heap.size := HB.out.size
          have hi9 : i ≤ 9000000000 := by omega
          clear hpl hra hy hu hil hul hqb
          go_wp2_with fail
          ((with_reducible refine con.mono ?_))
          rintro _ w6 ⟨x6, rfl, hx6, hb6⟩
          obtain ⟨e0, e1, e2, e3, e4, q6, m6, cp6⟩ := x6
          have HB6 : Hid (Below w1.heap.size w1 w6) := HB.out.trans (hb6.mono HB.out.size)
          have HX6 := Lib.hid hx6
          have HOW := Lib.hid (HO.out.under hb6)
          have HOA : Hid ((w6.alloc (.cells #[.int .i64 e0, .int .u64 e1, .int .u64 e2, .int .u64 e3, .int .u64 e4, .slice q6 m6 cp6] 28)).ownsRow w1.heap.size 28 6 (.slice q i cp) i (us.flatMap ReV.cells)) := by
            have := HOW.out.own.alloc (.cells #[.int .i64 e0, .int .u64 e1, .int .u64 e2, .int .u64 e3, .int .u64 e4, .slice q6 m6 cp6] 28)
            rw [HLEN.out] at this
            exact this
          have HAB := Lib.hid (own_above HOA.out)
          have hwle6 : w1.heap.size ≤ w6.heap.size := HB6.out.size
          clear hx6 hb6 con q0 q1 q2 q3 q4 q5 k0 k1 k2 k3 k4 k5
          unfold ReV.val
          go_wp2_with (at_builtin; go_loud (refine wpList_append_own_at _ rfl _ _ 26 rfl w1.heap.size 28 i0 _ 6 64 Tryz.underlying26 hi0 hz0 hz1 hz2 rfl (by decide) _ _ _ rfl HOA.out ⟨w6.heap.size, 0, none⟩ 1 1 [.int .i64 e0, .int .u64 e1, .int .u64 e2, .int .u64 e3, .int .u64 e4, .slice q6 m6 cp6] rfl rfl ?c1 ?c2 ?c3 ?c4 ?c5 ?_))
          case c1 => exact new3 w6 #[.int .i64 e0, .int .u64 e1, .int .u64 e2, .int .u64 e3, .int .u64 e4, .slice q6 m6 cp6] 28 [.int .i64 e0, .int .u64 e1, .int .u64 e2, .int .u64 e3, .int .u64 e4, .slice q6 m6 cp6] rfl
          case c2 => intro x hx; simp at hx; rcases hx with rfl | rfl | rfl | rfl | rfl | rfl <;> rfl
          case c3 => unfold maxLen; omega
          case c4 => omega
          case c5 => simp; omega
          intro v' w8 hown hgrow _ hat
          obtain ⟨g8, cap8, rfl⟩ := (row_forms hown).resolve_left (fun h => by cases h.2)
          have HOWN := Lib.hid hown
          have HGROW := Lib.hid hgrow
          have HAT := Lib.hid hat
          clear hown hgrow hat
          go_wp2
          go_roundg (n - (i + 1))
          case measure => omega
          case rel =>
            refine ⟨i + 1, _, _, us ++ [⟨e0, e1, e2, e3, e4, q6, m6, cp6⟩], rfl, by go_num, by omega, Nat.le_refl _, (HB6.out.alloc HB6.out.size _).grown HGROW.out (by simp; omega) HAB.out, ?_⟩
            unfold Hid
            rw [HTK.out]
            have hba : Below w6.heap.size w6 (w6.alloc (.cells #[.int .i64 e0, .int .u64 e1, .int .u64 e2, .int .u64 e3, .int .u64 e4, .slice q6 m6 cp6] 28)) := (Below.refl _ _).alloc (Nat.le_refl _) _
            have hx : RAt (w6.alloc (.cells #[.int .i64 e0, .int .u64 e1, .int .u64 e2, .int .u64 e3, .int .u64 e4, .slice q6 m6 cp6] 28)) (fun g => Q g ∧ (Value.slice q i cp).ownBlock ≠ some g) ⟨e0, e1, e2, e3, e4, q6, m6, cp6⟩ (derivM c u) := by
              refine (HX6.out.under hba).weak fun z hz _ => ?_
              have hs := HS1.out
              have h0 := HB0.out
              rw [HQ.out]
              rw [HQ0.out] at hz ⊢
              refine ⟨?_, fun e => ?_⟩
              · rcases hz with hz | hz
                · exact .inl hz
                · exact .inr (by omega)
              · have h3 := HQB.out z e
                rcases hz with ⟨_, hz⟩ | hz <;> omega
            have h := OwnNew.add (HOW.out.under hba) hx (by rw [HLEN.out]; exact HOWN.out) HGROW.out (by rcases HAT.out with h | h; exact .inl h.symm; exact .inr (by have h7 : g8 = w6.heap.size + 1 := (by simpa [Value.ownBlock] using h); simp; omega))
            rw [HLEN.out] at h
            exact h
        · have hltz : ¬ (i : Int) < (n : Int) := by omega
          have hle : (L.map (derivM c)).take i = L.map (derivM c) := List.take_of_length_le (by rw [List.length_map, ← HNU.out]; omega)
          have ho := HO.out
          rw [hle] at ho
          obtain ⟨q', cp', hv, hkids⟩ := ho.slice (fun g hg => by rw [HQ.out]; exact .inr hg)
          obtain ⟨rfl, h2, rfl⟩ : q = q' ∧ i = (L.map (derivM c)).length ∧ cp = cp' := by simpa using hv
          rw [← h2] at hkids
          have con := refeither_any wr hkids (by have h1 := eithers_sz c L HKG.out; have h2 := HDM.out; have h3 := HSZ.out; have h5 := HKS.out; omega)
          rw [← HR.out] at con
          clear hle ho hv hkids h2
          go_wp2_with fail
          ((with_reducible refine con.mono ?_))
          rintro _ w9 ⟨x9, rfl, hx9, hb9⟩
          obtain ⟨g0, g1, g2, g3, g4, q9, m9, cp9⟩ := x9
          have hall : Below w1.heap.size w1 w9 := HB.out.trans (hb9.mono (HB.out).size)
          have h9D := (hall.block (B0 + 1) (by rw [HS1.out]; omega)).trans HND.out
          obtain ⟨⟨d0, d1, d2, d3, d4, d5⟩, f0, f1, f2, f3, f4, f5⟩ := zero_facts h9D
          have H9D := Lib.hid h9D
          have HX9 := Lib.hid hx9
          have HALL : Hid (Below W.heap.size W w9) := HB1.out.trans (hall.mono HB1.out.size)
          have HWV : Hid (w1.heap.size ≤ wr.heap.size) := (HB.out).size
          clear hx9 hb9 hall h9D con
          unfold ReV.val
          go_wp2
          refine bodyPost_ret_by (results_cell_row rfl _ _ (B0 + 1) 28 #[.int .i64 g0, .int .u64 g1, .int .u64 g2, .int .u64 g3, .int .u64 g4, .slice q9 m9 cp9] (0, 0) _ rfl (set6_heap H9D.out _ _ _ _ _ _) Tryz.underlying28 rfl (by kernel_rfl)) rfl ?_
          refine ⟨⟨g0, g1, g2, g3, g4, q9, m9, cp9⟩, rfl, ?_, six_set HALL.out (by have := HB0.out; omega) _ _ _ _ _ _⟩
          refine HX9.out.kept (Keeps.of (by simp [World.setCell]) fun z hz hl => ?_)
          have hs := HS1.out
          have h0 := HB0.out
          have hw := HWV.out
          rw [HQ.out] at hz
          rw [HQ0.out] at hz
          have hne : z ≠ B0 + 1 := by rcases hz with (⟨_, hz⟩ | hz) | hz <;> omega
          refine ⟨six_ne hne _ _ _ _ _ _, ?_⟩
          rcases hz with (⟨hz, _⟩ | hz) | hz
          · exact .inl hz
          · exact .inr (by omega)
          · exact .inr (by omega)
    have z4 : (k == 4) = false := by simpa using e4
    by_cases e5 : k = 5
    · subst e5
      obtain ⟨u, hLu, hDu⟩ := HSTA.out rfl
      have hr : R = catM [derivM c u, t] := by rw [HRM.out, if_neg (by decide), if_neg (by decide), if_neg (by decide), if_pos rfl, hLu]; rfl
      obtain rfl : n = 1 := by have := HNU.out; rw [hLu] at this; simpa using this
      obtain ⟨g, off, rfl⟩ := HK.out.rowv.some_of (show 0 < 1 by omega)
      obtain ⟨y, hy⟩ : ∃ y, vs[0]? = some y := ⟨_, List.getElem?_eq_getElem (by rw [HK.out.len, hLu]; simp)⟩
      have hpl := HK.out.place hy
      rw [Nat.zero_mul, Nat.add_zero] at hpl
      have hra := HK.out.each 0 y u hy (by rw [hLu]; rfl)
      have hul : u ∈ L := by rw [hLu]; simp
      have hdr : Below w1.heap.size w1 w1.drew := below_drawn (Below.refl _ _) 1
      have husz : u.sz + 1 ≤ t.sz := by have h4 := sum_mem hul; have h5 := HKS.out; omega
      have con := HIH.out Q0 u y w1.drew (HKD.out u hul) (HKG.out u hul) (by have h3 := HSZ.out; omega) (hra.under hdr)
      have hdsz : (derivM c u).sz + t.sz ≤ 9000000000 := by
        have h1 := (sz_left (c := c) (HKG.out u hul) []).1
        have h2 : T 0 ([] : List RT) = 0 := rfl
        have h3 := HSZ.out
        omega
      have HR := Lib.hid hr
      obtain ⟨i0, hi0, hz0, hz1, hz2⟩ := re_parts
      obtain ⟨Q, hQ⟩ : ∃ Q : Nat → Prop, Q = fun g => Q0 g ∨ w1.heap.size ≤ g := ⟨_, rfl⟩
      have HQ := Lib.hid hQ
      clear hr hQ
      have HDSZ := Lib.hid hdsz
      have HDR := Lib.hid hdr
      obtain ⟨y0, y1, y2, y3, y4, y5, y6, y7⟩ := y
      obtain ⟨q0, q1, q2, q3, q4, q5⟩ := hpl.six
      simp only at q0 q1 q2 q3 q4 q5
      unfold ReV.val at con
      simp only [] at con
      have HCON := Lib.hid con
      have HCATC : Hid (∀ (w6 : World) (e0 e1 e2 e3 e4 : Int) (q6 : Option Addr) (m6 cp6 : Nat), Below w1.heap.size w1 w6 → RAt w6 Q ⟨e0, e1, e2, e3, e4, q6, m6, cp6⟩ (derivM c u) → Calls Tryz.prog 17 #[.slice (some ⟨w6.heap.size, 0, none⟩) 2 2] (w6.alloc (.cells #[.int .i64 e0, .int .u64 e1, .int .u64 e2, .int .u64 e3, .int .u64 e4, .slice q6 m6 cp6, .int .i64 5, .int .u64 a, .int .u64 b, .int .u64 e, .int .u64 d, .slice (some ⟨g, off, none⟩) 1 cap] 28)) (GivesRe (fun z => Q z ∨ (w6.alloc (.cells #[.int .i64 e0, .int .u64 e1, .int .u64 e2, .int .u64 e3, .int .u64 e4, .slice q6 m6 cp6, .int .i64 5, .int .u64 a, .int .u64 b, .int .u64 e, .int .u64 d, .slice (some ⟨g, off, none⟩) 1 cap] 28)).heap.size ≤ z) R (w6.alloc (.cells #[.int .i64 e0, .int .u64 e1, .int .u64 e2, .int .u64 e3, .int .u64 e4, .slice q6 m6 cp6, .int .i64 5, .int .u64 a, .int .u64 b, .int .u64 e, .int .u64 d, .slice (some ⟨g, off, none⟩) 1 cap] 28)))) := fun w6 e0 e1 e2 e3 e4 q6 m6 cp6 hb hx => by
        have hba : Below w6.heap.size w6 (w6.alloc (.cells #[.int .i64 e0, .int .u64 e1, .int .u64 e2, .int .u64 e3, .int .u64 e4, .slice q6 m6 cp6, .int .i64 5, .int .u64 a, .int .u64 b, .int .u64 e, .int .u64 d, .slice (some ⟨g, off, none⟩) 1 cap] 28)) := (Below.refl _ _).alloc (Nat.le_refl _) _
        have hx2 : RAt w6 Q ⟨5, a, b, e, d, some ⟨g, off, none⟩, 1, cap⟩ t := ((HT1.out.under hb).weak fun z hz _ => by rw [HQ.out]; exact .inl hz)
        rw [HR.out]
        exact refcat_any (P := Q) _ (two_kids (B := w6.heap.size) (by rw [HQ.out]; exact .inr hb.size) (heap_alloc_new _ _) (hx.under hba) (hx2.under hba)) (by have := HDSZ.out; simpa using this)
      clear hLu hDu hy hpl hra hul hdr husz con hdsz
      go_enter Tryz.func10, Tryz.ntmps10
      go_wp2_with fail
      rw [← HW1.out, ← HB0.out]
      go_wp2_with fail
      go_region_law (first
        | (go_simp; go_at_call 10; (with_reducible (refine HCON.out.mono ?_)); rintro _ w6 ⟨x6, rfl, hx6, hb6⟩; obtain ⟨e0, e1, e2, e3, e4, q6, m6, cp6⟩ := x6; unfold ReV.val; have HB6 : Hid (Below w1.heap.size w1 w6) := HDR.out.trans (hb6.mono HDR.out.size); have HX6 : Hid (RAt w6 Q ⟨e0, e1, e2, e3, e4, q6, m6, cp6⟩ (derivM c u)) := hx6.weak (fun z hz _ => by rw [HQ.out]; rcases hz with hz | hz; exact .inl hz; exact .inr hz); obtain ⟨k0, k1, k2, k3, k4, k5⟩ := six_at ((HB6.out.block B0 (by rw [HS1.out]; omega)).trans HN1.out); clear hx6 hb6)
        | (go_simp; go_at_call 17; (with_reducible (refine (HCATC.out w6 e0 e1 e2 e3 e4 q6 m6 cp6 HB6.out HX6.out).mono ?_)); rintro _ w9 ⟨x9, rfl, hx9, hb9⟩; obtain ⟨g0, g1, g2, g3, g4, q9, m9, cp9⟩ := x9; unfold ReV.val; have HALL : Hid (Below w1.heap.size w1 w9) := (HB6.out.alloc HB6.out.size _).trans (hb9.mono (HB6.out.alloc HB6.out.size _).size); have h9D := (HALL.out.block (B0 + 1) (by rw [HS1.out]; omega)).trans HND.out; obtain ⟨⟨d0, d1, d2, d3, d4, d5⟩, f0, f1, f2, f3, f4, f5⟩ := zero_facts h9D; have H9D := Lib.hid h9D; have HX9 := Lib.hid hx9; have HWV : Hid (w1.heap.size ≤ (w6.alloc (.cells #[.int .i64 e0, .int .u64 e1, .int .u64 e2, .int .u64 e3, .int .u64 e4, .slice q6 m6 cp6, .int .i64 5, .int .u64 a, .int .u64 b, .int .u64 e, .int .u64 d, .slice (some ⟨g, off, none⟩) 1 cap] 28)).heap.size) := (HB6.out.alloc HB6.out.size _).size; clear hx9 hb9 h9D)
        | fail)
      all_goals go_wp2
      all_goals
        refine bodyPost_ret_by (results_cell_row rfl _ _ (B0 + 1) 28 #[.int .i64 g0, .int .u64 g1, .int .u64 g2, .int .u64 g3, .int .u64 g4, .slice q9 m9 cp9] (0, 0) _ rfl (set6_heap H9D.out _ _ _ _ _ _) Tryz.underlying28 rfl (by kernel_rfl)) rfl ?_
        have hbig : Below W.heap.size W w9 := HB1.out.trans (HALL.out.mono HB1.out.size)
        refine ⟨⟨g0, g1, g2, g3, g4, q9, m9, cp9⟩, rfl, ?_, six_set hbig (by have := HB0.out; omega) _ _ _ _ _ _⟩
        refine HX9.out.kept (Keeps.of (by simp [World.setCell]) fun z hz hl => ?_)
        have hs := HS1.out
        have h0 := HB0.out
        have hw := HWV.out
        rw [HQ.out] at hz
        rw [HQ0.out] at hz
        have hz : ((P z ∧ z < W.heap.size) ∨ w1.heap.size ≤ z) ∨ (w6.alloc (.cells #[.int .i64 e0, .int .u64 e1, .int .u64 e2, .int .u64 e3, .int .u64 e4, .slice q6 m6 cp6, .int .i64 5, .int .u64 a, .int .u64 b, .int .u64 e, .int .u64 d, .slice (some ⟨g, off, none⟩) 1 cap] 28)).heap.size ≤ z := hz
        have hne : z ≠ B0 + 1 := by rcases hz with (⟨_, hz⟩ | hz) | hz <;> omega
        refine ⟨six_ne hne _ _ _ _ _ _, ?_⟩
        rcases hz with (⟨hz, _⟩ | hz) | hz
        · exact .inl hz
        · exact .inr (by omega)
        · exact .inr (by omega)
    have z5 : (k == 5) = false := by simpa using e5
    have hr : R = noneM := by rw [HRM.out, if_neg e2, if_neg e3, if_neg e4, if_neg e5]
    go_enter Tryz.func10, Tryz.ntmps10
    go_wp2_with fail
    rw [← HW1.out, ← HB0.out]
    go_wp2_with fail
    refine bodyPost_ret_by (results_cell_row rfl _ _ (B0 + 1) 28 #[.int .i64 0, .int .u64 0, .int .u64 0, .int .u64 0, .int .u64 0, .slice none 0 0] (0, 0) _ rfl HND.out Tryz.underlying28 rfl (by kernel_rfl)) rfl ?_
    try rw [hr]
    exact ⟨⟨0, 0, 0, 0, 0, none, 0, 0⟩, rfl, kids_empty.tree 0 W4.zero zero_ok, HB1.out⟩

end Go.Proofs.YtfgaadhacifhiaaGreatDoor
