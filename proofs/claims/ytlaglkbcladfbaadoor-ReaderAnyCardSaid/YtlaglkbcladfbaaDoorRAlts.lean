/- Alternatives are read by the program as the words say, if concatenations are. -/
import Derived.Test.YtlaglkbcladfbaaDoorRConc
namespace Go.Proofs.YtlaglkbcladfbaaDoor
open Go.RowKit
set_option linter.unusedVariables false
set_option linter.unusedSimpArgs false

/-- Within the loop. -/
def InAlts (R : Nat) (s : ByteArray) (p d : Nat) (w wr : World) (v : Value) (q : Nat) : Prop :=
  ∃ l : List Tree, KidsAt wr (w.heap.size + 1) v l ∧ 0 < l.length ∧ l.length ≤ q + 1 ∧ p ≤ q ∧ q ≤ s.size ∧ At wr R s q d ∧ w.grownBy wr (some R) ∧ Res0 wr w.heap.size ∧ ∀ r, Ans (rd s) (.altMore l) d q r → Ans (rd s) .alts d p r

set_option maxRecDepth 100000 in
set_option maxHeartbeats 4000000 in
theorem alts_step {k : Nat} (hel : AskTo 109 .conc k) : AskTo 85 .alts k := by
  intro R p d s w h hs hp hd hk
  have hR := h.lt
  have HR := Lib.hid (res_new w)
  have HA := Lib.hid (h.alloc (.cells #[.int .i64 0, .string ⟨#[]⟩, .slice none 0 0, .int .i64 0, .int .i64 0, .slice none 0 0] 43))
  have HG := Lib.hid (World.grownBy_alloc w (.cells #[.int .i64 0, .string ⟨#[]⟩, .slice none 0 0, .int .i64 0, .int .i64 0, .slice none 0 0] 43) (some R))
  have HEL : Hid (AskTo 109 .conc k) := @hel
  clear h hel
  go_enter Tryd.func85, Tryd.ntmps85
  go_wp2_with fail
  refine (HEL.out HA.out hs hp hd (by omega)).mono ?_
  rintro e w1 ⟨r, hans, hgv⟩
  cases r with
  | err c =>
    obtain ⟨rfl, hg⟩ := hgv
    have HANS := Lib.hid hans
    have HG2 := Lib.hid (HG.out.trans hg)
    clear hans hg
    go_wp2_with fail
    exact ⟨rfl, _, .altsErr HANS.out, rfl, HG2.out⟩
  | ok t q =>
    obtain ⟨x, ht, hqs, rfl, ha, hg⟩ := hgv
    have hpq := (hans.bound trivial hp t q rfl).1
    obtain ⟨h2, h5⟩ : x.ns.oneCell' = true ∧ x.ks.oneCell' = true := ⟨one_cell_ns ht, one_cell_ks ht⟩
    have H2 := Lib.hid h2
    have H5 := Lib.hid h5
    have hz1 : w.heap.size + 1 ≤ w1.heap.size := by have := hg.size; simp at this; omega
    have ht1 : TreeAt w1 (fun b => w.heap.size + 1 ≤ b) x t := ht.weak (fun b hb _ => by simp at hb; omega)
    have H0 : Hid (InAlts R s p d w (w1.alloc (.cells x.arr 43)) (.slice (some ⟨w1.heap.size, 0, none⟩) 1 1) q) :=
      ⟨[t], KidsAt.one ht1 (Nat.le_refl _) hz1 (heap_alloc_new w1 _) (fun b _ hl => heap_alloc_old _ _ hl) (by simp), by simp, by simp, hpq, hqs, ha.alloc _, grown_alloc (HG.out.trans hg) _, res_alloc (res_kept HR.out hg (by omega)) _,
        fun r hr => .altsOk hans hr⟩
    clear hans ha hg h2 h5 ht ht1 HR HA HG
    go_wp2_with (refine build_one rfl _ rfl x rfl H2.out H5.out ?_)
    clear H2 H5
    go_loopw [3] (fun v wr => ∃ q : Nat, Hid (InAlts R s p d w wr v q)) (fun _ wr => s.size - posOf R wr)
    case atStart => exact ⟨q, H0⟩
    case round =>
      clear H0 hz1 hpq hqs
      obtain ⟨q, HI⟩ := hrel
      obtain ⟨l, hk0, hl0, hlq, hpq, hqs, ha, hg, hres, hall⟩ := HI.out
      have HA := Lib.hid ha
      have HG := Lib.hid hg
      have HRES := Lib.hid hres
      have HK := Lib.hid hk0
      have HALL := Lib.hid hall
      have HM := Lib.hid ha.pos
      have hz : w.heap.size + 1 ≤ wr.heap.size := by have := hres.lt; omega
      clear ha hg hres hk0 hall
      by_cases h47 : rd s q = 47
      · have H47 := Lib.hid h47
        have hlt := rd_lt (by omega) h47
        clear h47
        go_wp2_with fail
        refine (taken_yes HA.out hs 47 (by omega) H47.out).mono ?_
        rintro e w2 ⟨rfl, ha, hg⟩
        have HA2 := Lib.hid ha
        have HG2 := Lib.hid (HG.out.trans hg)
        have HK2 := Lib.hid (HK.out.grown hg (by omega))
        have HRES2 := Lib.hid (res_kept HRES.out hg (by omega))
        have hz2 : w.heap.size + 1 ≤ w2.heap.size := by have := hg.size; omega
        clear ha hg HA HG HK HRES
        go_wp2_with fail
        refine (space_any HA2.out hs (by omega)).mono ?_
        rintro e w3 ⟨q2, hsk, hle, hls, rfl, ha, hg⟩
        have HSK := Lib.hid hsk.eq
        have HA3 := Lib.hid ha
        have HG3 := Lib.hid (HG2.out.trans hg)
        have HK3 := Lib.hid (HK2.out.grown hg (by omega))
        have HRES3 := Lib.hid (res_kept HRES2.out hg (by omega))
        have hz3 : w.heap.size + 1 ≤ w3.heap.size := by have := hg.size; omega
        clear hsk ha hg HA2 HG2 HK2 HRES2
        go_wp2_with fail
        refine (HEL.out HA3.out hs hls hd (by omega)).mono ?_
        rintro e w4 ⟨r, hans, hgv⟩
        cases r with
        | err c =>
          obtain ⟨rfl, hg⟩ := hgv
          have HANS := Lib.hid hans
          have HG4 := Lib.hid (HG3.out.trans hg)
          clear hans hg
          go_wp2_with fail
          refine ⟨rfl, _, HALL.out _ (.moreErr H47.out ?_), rfl, HG4.out⟩
          rw [HSK.out]
          exact HANS.out
        | ok t q3 =>
          obtain ⟨x, ht, hqs3, rfl, ha, hg⟩ := hgv
          have hpq3 := (hans.bound trivial hls t q3 rfl).1
          have h2 := one_cell_ns ht
          have h5 := one_cell_ks ht
          have H2 := Lib.hid h2
          have H5 := Lib.hid h5
          have hz4 : w.heap.size + 1 ≤ w4.heap.size := by have := hg.size; omega
          have HK4 := Lib.hid ((HK3.out.grown hg (by omega)).below ((Below.refl w4.heap.size w4).alloc (Nat.le_refl _) (.cells x.arr 43)))
          have HT4 := Lib.hid ((kids_sep HK3.out ht hz3).under ((Below.refl w4.heap.size w4).alloc (Nat.le_refl _) (.cells x.arr 43)))
          have HA4 := Lib.hid (ha.alloc (.cells x.arr 43))
          have HG4 := Lib.hid (grown_alloc (HG3.out.trans hg) (.cells x.arr 43))
          have HR4 := Lib.hid (res_alloc (res_kept HRES3.out hg (by omega)) (.cells x.arr 43))
          have HANS := Lib.hid hans
          clear hans ha hg ht HK3 HA3 HG3 HRES3 h2 h5
          go_wp2_with (first
            | (refine build_one rfl _ rfl x rfl H2.out H5.out ?_)
            | (at_builtin; go_loud (refine push_kids rfl _ _ rfl (w.heap.size + 1) _ l t x w4.heap.size rfl rfl HK4.out HT4.out (heap_alloc_new w4 _) ?c1 ?c2 ?_)))
          case c1 => omega
          case c2 => simp; omega
          intro v' w5 hk5 hgrow
          have HK5 := Lib.hid hk5
          have HA5 := Lib.hid (kids_at HK4.out HA4.out hgrow (by omega))
          have HG5 := Lib.hid (kids_grown HK4.out HG4.out hgrow (by omega))
          have HR5 := Lib.hid (kids_res HK4.out HR4.out hgrow (by omega))
          clear hk5 hgrow HK4 HA4 HG4 HR4 HT4 H2 H5
          go_wp2_with fail
          go_roundw
          case rel => exact ⟨q3, l ++ [t], HK5.out, by simp, by simp; omega, by omega, hqs3, HA5.out, HG5.out, HR5.out, fun r hr => HALL.out r (.moreOk H47.out (by rw [HSK.out]; exact HANS.out) hr)⟩
          case measure =>
            rw [HM.out, HA5.out.pos]
            omega
      · have H47 := Lib.hid h47
        have HEND : Hid (Ans (rd s) .alts d p (.ok (joinT 1 l) q)) := HALL.out _ (.moreEnd h47)
        clear h47
        go_wp2_with fail
        refine (taken_no HA.out hs hqs 47 (by omega) H47.out).mono ?_
        rintro e w3 ⟨rfl, ha, hg⟩
        have HA3 := Lib.hid ha
        have HG3 := Lib.hid (HG.out.trans hg)
        have HK3 := Lib.hid (HK.out.grown hg (by omega))
        have HRES3 := Lib.hid (res_kept HRES.out hg (by omega))
        have hz3 : w.heap.size + 1 ≤ w3.heap.size := by have := hg.size; omega
        clear ha hg HA HG HK HRES
        go_wp2_with fail
        refine (joined_any 1 HK3.out hz3 (by omega)).mono ?_
        rintro e w4 ⟨x, ht, rfl, hb⟩
        have H2 := Lib.hid (one_cell_ns ht)
        have H5 := Lib.hid (one_cell_ks ht)
        have HR4 := Lib.hid (HRES3.out.kept (hb.block _ HRES3.out.lt))
        have HA4 := Lib.hid (HA3.out.below hb)
        have HG4 := Lib.hid (grown_below HG3.out hb)
        have HT := Lib.hid ht
        clear ht hb
        go_wp2_with (refine store_res rfl _ _ rfl w.heap.size x rfl rfl HR4.out H2.out H5.out ?_)
        refine bodyPost_ret_by (run_res rfl _ _ w.heap.size x rfl HR4.out) rfl ⟨_, HEND.out, x, ?_, hqs, rfl, HA4.out.set_row (by omega) _, grown_row HG4.out (Nat.le_refl _) _⟩
        exact (HT.out.set_row (fun b hb => by omega) _).weak (fun b hb _ => by omega)

end Go.Proofs.YtlaglkbcladfbaaDoor
