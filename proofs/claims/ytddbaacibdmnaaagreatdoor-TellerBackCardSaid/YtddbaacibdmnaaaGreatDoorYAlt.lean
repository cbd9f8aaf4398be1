/- Alternatives, as the document's own reader reads them, if concatenations are read so; for every text of at most 50000 bytes. -/
import Derived.Test.YtddbaacibdmnaaaGreatDoorYSeq
namespace Go.Proofs.YtddbaacibdmnaaaGreatDoor
open Go.RowKit
set_option linter.unusedVariables false
set_option linter.unusedSimpArgs false

/-- Within the loop. -/
def InAltY (R : Nat) (s : ByteArray) (p d : Nat) (w wr : World) (v : Value) (q : Nat) (c : Int) (l : List Tree) : Prop :=
  KidsAt wr (w.heap.size + 1) v l ∧ 0 < l.length ∧ AtY wr R s q c ∧ w.grownBy wr (some R) ∧ Res0 wr w.heap.size ∧
    ((c = 0 ∧ p ≤ q ∧ q ≤ s.size ∧ l.length ≤ q + 1 ∧ ∀ r, Ans (rd s) (.altMore l) d (skipEnd (rd s) q) r → Ans (rd s) .alts d p r) ∨ (c ≠ 0 ∧ q ≤ s.size + 2 + (52 - d) ∧ l.length ≤ s.size + 2 ∧ Ans (rd s) .alts d p (.err c)))

set_option maxRecDepth 100000 in
set_option maxHeartbeats 4000000 in
theorem yalt_step {k : Nat} (hel : AskToY 52 true .conc k) : AskToY 33 true .alts k := by
  intro R p d s w h hs hp hd hk
  have hR := h.lt
  have HR := Lib.hid (res_new w)
  have HA := Lib.hid (h.alloc (.cells #[.int .i64 0, .string ⟨#[]⟩, .slice none 0 0, .int .i64 0, .int .i64 0, .slice none 0 0] 36))
  have HG := Lib.hid (World.grownBy_alloc w (.cells #[.int .i64 0, .string ⟨#[]⟩, .slice none 0 0, .int .i64 0, .int .i64 0, .slice none 0 0] 36) (some R))
  have HEL : Hid (AskToY 52 true .conc k) := @hel
  clear h hel
  go_enter Tryz.func33, Tryz.ntmps33
  go_wp2_with fail
  refine (HEL.out HA.out hs hp hd (by omega)).mono ?_
  rintro e w1 ⟨x, t, q, c, ht, ⟨rfl, ha, hg⟩, hout⟩
  obtain ⟨h2, h5⟩ : x.ns.oneCell' = true ∧ x.ks.oneCell' = true := ⟨one_cell_ns ht, one_cell_ks ht⟩
  have H2 := Lib.hid h2
  have H5 := Lib.hid h5
  have hz1 : w.heap.size + 1 ≤ w1.heap.size := by have := hg.size; simp at this; omega
  have ht1 : TreeAt w1 (fun b => w.heap.size + 1 ≤ b) x t := ht.weak (fun b hb _ => by simp at hb; omega)
  have H0 : Hid (InAltY R s p d w (w1.alloc (.cells x.arr 36)) (.slice (some ⟨w1.heap.size, 0, none⟩) 1 1) q c [t]) := by
    refine ⟨KidsAt.one ht1 (Nat.le_refl _) hz1 (heap_alloc_new w1 _) (fun b _ hl => heap_alloc_old _ _ hl) (by simp), by simp, ha.alloc _, grown_alloc (HG.out.trans hg) _, res_alloc (res_kept HR.out hg (by omega)) _, ?_⟩
    rcases hout with ⟨rfl, hpq, hqs, hans⟩ | ⟨hc, hqb, hans⟩
    · exact .inl ⟨rfl, hpq, hqs, by simp, fun r hr => .altsOk hans hr⟩
    · exact .inr ⟨hc, hqb, by simp, .altsErr hans⟩
  clear ha hg h2 h5 ht ht1 HR HA HG hout
  go_wp2_with (refine build_one rfl _ rfl x rfl H2.out H5.out ?_)
  clear H2 H5
  go_loopw [5] (fun v wr => ∃ (q : Nat) (c : Int) (l : List Tree), Hid (InAltY R s p d w wr v q c l)) (fun _ wr => measY R s.size wr)
  case atStart => exact ⟨q, c, [t], H0⟩
  case round =>
    clear H0 hz1
    obtain ⟨q, c, l, HI⟩ := hrel
    obtain ⟨hk0, hl0, ha, hg, hres, hst⟩ := HI.out
    have HA := Lib.hid ha
    have HG := Lib.hid hg
    have HRES := Lib.hid hres
    have HK := Lib.hid hk0
    have HM := Lib.hid (ha.meas s.size)
    have hz : w.heap.size + 1 ≤ wr.heap.size := by have := hres.lt; omega
    obtain ⟨c0, c1, c2, z0, z1, z2⟩ := ha.cells
    clear ha hg hres hk0
    rcases hst with ⟨rfl, hpq, hqs, hlq, hall⟩ | ⟨hc, hqb, hlb, hans⟩
    · have HALL := Lib.hid hall
      clear hall
      obtain ⟨q1, hq1⟩ : ∃ q1, q1 = skipEnd (rd s) q := ⟨_, rfl⟩
      obtain ⟨hsk0, hle1, hls1⟩ := skip_at hqs
      rw [← hq1] at hsk0 hle1 hls1
      have HSK := Lib.hid hsk0
      have HQ1 := Lib.hid hq1
      clear hsk0 hq1
      go_wp2_with fail
      refine (yskip_any HA.out hs hqs).mono ?_
      rintro e w2 ⟨q2, hsk, hle, hls, rfl, ha, hg⟩
      obtain rfl : q2 = q1 := hsk.one HSK.out
      have HA2 := Lib.hid ha
      have HG2 := Lib.hid (HG.out.trans hg)
      have HK2 := Lib.hid (HK.out.grown hg (by omega))
      have HRES2 := Lib.hid (res_kept HRES.out hg (by omega))
      have hz2 : w.heap.size + 1 ≤ w2.heap.size := by have := hg.size; omega
      clear hsk ha hg HA HG HK HRES c0 c1 c2 z0 z1 z2
      by_cases h47 : rd s q2 = 47
      · have H47 := Lib.hid h47
        have hlt : q2 < s.size := rd_lt (by omega) h47
        have H47b : Hid (rd s (skipEnd (rd s) q) = 47) := by rw [← HQ1.out]; exact h47
        clear h47
        go_wp2_with fail
        refine (yat0 HA2.out hs (by omega) _ H47.out).mono ?_
        rintro e w3 ⟨rfl, hb⟩
        have HA3 := Lib.hid (HA2.out.below hb)
        have HG3 := Lib.hid (grown_below HG2.out hb)
        have HK3 := Lib.hid (HK2.out.below hb)
        have HRES3 := Lib.hid (HRES2.out.kept (hb.block _ HRES2.out.lt))
        have hz3 : w.heap.size + 1 ≤ w3.heap.size := by have := hb.size; omega
        obtain ⟨d0, d1, d2, y0, y1, y2⟩ := HA3.out.cells
        clear hb HA2 HG2 HK2 HRES2
        obtain ⟨q4, hq4⟩ : ∃ q4, q4 = skipEnd (rd s) (q2 + 1) := ⟨_, rfl⟩
        obtain ⟨hsk4, hle4, hls4⟩ := skip_at (s := s) (p := q2 + 1) (by omega)
        rw [← hq4] at hsk4 hle4 hls4
        have HSK4 := Lib.hid hsk4
        have HQ4 := Lib.hid hq4
        clear hsk4 hq4
        go_wp2_with fail
        refine (yskip_any HA3.out.step hs (by omega)).mono ?_
        rintro e w4 ⟨q5, hsk, hle5, hls5, rfl, ha, hg⟩
        obtain rfl : q5 = q4 := hsk.one HSK4.out
        have hg' := (grown_set (grown_refl w3 (some R)) 1 (.int .i64 ((q2 : Int) + 1))).trans hg
        have HA4 := Lib.hid ha
        have HG4 := Lib.hid (HG3.out.trans hg')
        have HK4 := Lib.hid (HK3.out.grown hg' (by omega))
        have HRES4 := Lib.hid (res_kept HRES3.out hg' (by omega))
        have hz4 : w.heap.size + 1 ≤ w4.heap.size := by have := hg'.size; omega
        clear hsk ha hg hg' HA3 HG3 HK3 HRES3 d0 d1 d2 y0 y1 y2
        go_wp2_with fail
        refine (HEL.out HA4.out hs hls4 hd (by omega)).mono ?_
        rintro e w5 ⟨x, t, q3, c3, ht, ⟨rfl, ha, hg⟩, hout⟩
        have h2 := one_cell_ns ht
        have h5 := one_cell_ks ht
        have H2 := Lib.hid h2
        have H5 := Lib.hid h5
        have hz5 : w.heap.size + 1 ≤ w5.heap.size := by have := hg.size; exact Nat.le_trans hz4 this
        have HK5 := Lib.hid ((HK4.out.grown hg (by omega)).below ((Below.refl w5.heap.size w5).alloc (Nat.le_refl _) (.cells x.arr 36)))
        have HT5 := Lib.hid ((kids_sep HK4.out ht hz4).under ((Below.refl w5.heap.size w5).alloc (Nat.le_refl _) (.cells x.arr 36)))
        have HA5 := Lib.hid (ha.alloc (.cells x.arr 36))
        have HG5 := Lib.hid (grown_alloc (HG4.out.trans hg) (.cells x.arr 36))
        have HR5 := Lib.hid (res_alloc (res_kept HRES4.out hg (by omega)) (.cells x.arr 36))
        have HST : Hid ((c3 = 0 → q < q3) ∧ ((c3 = 0 ∧ p ≤ q3 ∧ q3 ≤ s.size ∧ (l ++ [t]).length ≤ q3 + 1 ∧ ∀ r, Ans (rd s) (.altMore (l ++ [t])) d (skipEnd (rd s) q3) r → Ans (rd s) .alts d p r) ∨ (c3 ≠ 0 ∧ q3 ≤ s.size + 2 + (52 - d) ∧ (l ++ [t]).length ≤ s.size + 2 ∧ Ans (rd s) .alts d p (.err c3)))) := by
          rcases hout with ⟨rfl, hb3, hqs3, hans⟩ | ⟨hc, hqb, hans⟩
          · refine ⟨fun _ => by omega, .inl ⟨rfl, by omega, hqs3, by simp; omega, fun r hr => HALL.out r (.moreOk H47b.out (by rw [← HQ1.out, ← HQ4.out]; exact hans) hr)⟩⟩
          · exact ⟨fun g => absurd g hc, .inr ⟨hc, hqb, by simp; omega, HALL.out _ (.moreErr H47b.out (by rw [← HQ1.out, ← HQ4.out]; exact hans))⟩⟩
        clear ha hg ht HK4 HA4 HG4 HRES4 h2 h5 hout
        go_wp2_with (first
          | (refine build_one rfl _ rfl x rfl H2.out H5.out ?_)
          | (at_builtin; go_loud (refine push_kids rfl _ _ rfl (w.heap.size + 1) _ l t x w5.heap.size rfl rfl HK5.out HT5.out (heap_alloc_new w5 _) ?c1 ?c2 ?_)))
        case c1 => omega
        case c2 => simp; omega
        intro v' w6 hk6 hgrow
        have HK6 := Lib.hid hk6
        have HA6 := Lib.hid (kids_aty HK5.out HA5.out hgrow (by omega))
        have HG6 := Lib.hid (kids_grown HK5.out HG5.out hgrow (by omega))
        have HR6 := Lib.hid (kids_res HK5.out HR5.out hgrow (by omega))
        clear hk6 hgrow HK5 HA5 HG5 HR5 HT5 H2 H5
        go_wp2_with fail
        go_roundw
        case rel => exact ⟨q3, c3, l ++ [t], HK6.out, by simp, HA6.out, HG6.out, HR6.out, HST.out.2⟩
        case measure =>
          rw [HM.out, HA6.out.meas]
          simp only [if_true]
          have := HST.out.1
          split
          · rename_i g
            have := this g
            omega
          · omega
      · obtain ⟨Z, hZ⟩ : ∃ z, rd s q2 = z := ⟨_, rfl⟩
        have qz : (Z != 47) = true := by rw [← hZ]; simpa using h47
        have qz2 : (Z == 47) = false := by rw [← hZ]; simpa using h47
        have HZ := Lib.hid hZ
        have HO : Hid (OutY true s d .alts p (joinT 1 l) q 0) := .inl ⟨rfl, hpq, hqs, HALL.out _ (by rw [← HQ1.out]; exact .moreEnd h47)⟩
        clear hZ h47
        go_wp2_with fail
        refine (yat0 HA2.out hs (by omega) _ HZ.out).mono ?_
        rintro e w3 ⟨rfl, hb⟩
        have HA3 := Lib.hid (HA2.out.below hb)
        obtain ⟨d0, d1, d2, y0, y1, y2⟩ := HA3.out.cells
        have HA := Lib.hid (HA3.out.put (x := (q : Int)) (q := q) rfl)
        have HG := Lib.hid (grown_set (grown_below HG2.out hb) 1 (.int .i64 (q : Int)))
        have HK := Lib.hid ((HK2.out.below hb).grown (grown_set (grown_refl w3 (some R)) 1 (.int .i64 (q : Int))) (by omega))
        have HRES := Lib.hid (res_kept (HRES2.out.kept (hb.block _ HRES2.out.lt)) (grown_set (grown_refl w3 (some R)) 1 (.int .i64 (q : Int))) (by omega))
        clear hb HA2 HG2 HK2 HRES2
        by_cases hone : ∃ t1, l = [t1]
        · obtain ⟨t1, rfl⟩ := hone
          obtain ⟨vs, hl, hr, ht⟩ := HK.out
          obtain ⟨x, rfl⟩ : ∃ x, vs = [x] := by
            match vs, hl with
            | [x], _ => exact ⟨x, rfl⟩
          have hx := (ht 0 x t1 rfl rfl).weak (P' := fun b => w.heap.size + 1 ≤ b) (fun b hP _ => hP.1)
          obtain ⟨g, cap, rfl⟩ := (row_forms hr).resolve_left (fun h => by cases h.2)
          have e0 := row_cell hr (j := 0) rfl
          have e1 := row_cell hr (j := 1) rfl
          have e2 := row_cell hr (j := 2) rfl
          have e3 := row_cell hr (j := 3) rfl
          have e4 := row_cell hr (j := 4) rfl
          have e5 := row_cell hr (j := 5) rfl
          obtain ⟨hbg, hcap, hmax, hg⟩ := row_base hr
          have HT := Lib.hid hx
          obtain ⟨x0, x1, x2, x3, x4, x5⟩ := x
          have HS2 : Hid (Value.oneCell' x2 = true) := one_cell_ns HT.out
          have HS5 : Hid (Value.oneCell' x5 = true) := one_cell_ks HT.out
          have HO1 := Lib.hid (HO.out)
          clear hr ht hx hl HK
          go_wp2_with (refine store_res rfl _ _ rfl w.heap.size ⟨x0, x1, x2, x3, x4, x5⟩ rfl rfl HRES.out HS2.out HS5.out ?_)
          exact bodyPost_ret_by (run_res rfl _ _ w.heap.size ⟨x0, x1, x2, x3, x4, x5⟩ rfl HRES.out) rfl (joined_end HT.out HA.out HG.out hR HO1.out)
        · have hn : l.length ≠ 1 := fun h => hone (by
            match l, h with
            | [t1], _ => exact ⟨t1, rfl⟩)
          have HT := Lib.hid (HK.out.tree 1 0 0)
          have HO1 := Lib.hid (HO.out)
          rw [joinT_more _ hn] at HO1
          obtain ⟨vs, hl, hr, ht⟩ := HK.out
          obtain ⟨n, hln⟩ : ∃ n, n = l.length := ⟨_, rfl⟩
          have hq : decide ((n : Int) = 1) = false := lt_one (by omega)
          have hq2 : ((n : Int) == 1) = false := by simp; omega
          have hn2 : n ≤ 60000 := by omega
          obtain ⟨g, cap, rfl⟩ := (row_forms hr).resolve_left (fun h => by omega)
          rw [← hln] at HT ⊢
          clear hr ht hl hone hn hln HK
          go_wp2_with (refine store_res rfl _ _ rfl w.heap.size ⟨1, ⟨#[]⟩, .slice none 0 0, 0, 0, .slice (some ⟨g, 0, none⟩) n cap⟩ rfl rfl HRES.out rfl rfl ?_)
          exact bodyPost_ret_by (run_res rfl _ _ w.heap.size ⟨1, ⟨#[]⟩, .slice none 0 0, 0, 0, .slice (some ⟨g, 0, none⟩) n cap⟩ rfl HRES.out) rfl (joined_end HT.out HA.out HG.out hR HO1.out)
    · have HO : Hid (OutY true s d .alts p (joinT 1 l) q c) := .inr ⟨hc, hqb, hans⟩
      have qc : (c == 0) = false := by simpa using hc
      clear hans HI
      by_cases hone : ∃ t1, l = [t1]
      · obtain ⟨t1, rfl⟩ := hone
        obtain ⟨vs, hl, hr, ht⟩ := HK.out
        obtain ⟨x, rfl⟩ : ∃ x, vs = [x] := by
          match vs, hl with
          | [x], _ => exact ⟨x, rfl⟩
        have hx := (ht 0 x t1 rfl rfl).weak (P' := fun b => w.heap.size + 1 ≤ b) (fun b hP _ => hP.1)
        obtain ⟨g, cap, rfl⟩ := (row_forms hr).resolve_left (fun h => by cases h.2)
        have e0 := row_cell hr (j := 0) rfl
        have e1 := row_cell hr (j := 1) rfl
        have e2 := row_cell hr (j := 2) rfl
        have e3 := row_cell hr (j := 3) rfl
        have e4 := row_cell hr (j := 4) rfl
        have e5 := row_cell hr (j := 5) rfl
        obtain ⟨hbg, hcap, hmax, hg⟩ := row_base hr
        have HT := Lib.hid hx
        obtain ⟨x0, x1, x2, x3, x4, x5⟩ := x
        have HS2 : Hid (Value.oneCell' x2 = true) := one_cell_ns HT.out
        have HS5 : Hid (Value.oneCell' x5 = true) := one_cell_ks HT.out
        have HO1 := Lib.hid (HO.out)
        clear hr ht hx hl HK
        go_wp2_with (refine store_res rfl _ _ rfl w.heap.size ⟨x0, x1, x2, x3, x4, x5⟩ rfl rfl HRES.out HS2.out HS5.out ?_)
        exact bodyPost_ret_by (run_res rfl _ _ w.heap.size ⟨x0, x1, x2, x3, x4, x5⟩ rfl HRES.out) rfl (joined_end HT.out HA.out HG.out hR HO1.out)
      · have hn : l.length ≠ 1 := fun h => hone (by
          match l, h with
          | [t1], _ => exact ⟨t1, rfl⟩)
        have HT := Lib.hid (HK.out.tree 1 0 0)
        have HO1 := Lib.hid (HO.out)
        rw [joinT_more _ hn] at HO1
        obtain ⟨vs, hl, hr, ht⟩ := HK.out
        obtain ⟨n, hln⟩ : ∃ n, n = l.length := ⟨_, rfl⟩
        have hq : decide ((n : Int) = 1) = false := lt_one (by omega)
        have hq2 : ((n : Int) == 1) = false := by simp; omega
        have hn2 : n ≤ 60000 := by omega
        obtain ⟨g, cap, rfl⟩ := (row_forms hr).resolve_left (fun h => by omega)
        rw [← hln] at HT ⊢
        clear hr ht hl hone hn hln HK
        go_wp2_with (refine store_res rfl _ _ rfl w.heap.size ⟨1, ⟨#[]⟩, .slice none 0 0, 0, 0, .slice (some ⟨g, 0, none⟩) n cap⟩ rfl rfl HRES.out rfl rfl ?_)
        exact bodyPost_ret_by (run_res rfl _ _ w.heap.size ⟨1, ⟨#[]⟩, .slice none 0 0, 0, 0, .slice (some ⟨g, 0, none⟩) n cap⟩ rfl HRES.out) rfl (joined_end HT.out HA.out HG.out hR HO1.out)

end Go.Proofs.YtddbaacibdmnaaaGreatDoor
