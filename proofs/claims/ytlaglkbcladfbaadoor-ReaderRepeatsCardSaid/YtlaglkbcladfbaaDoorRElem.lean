/- An element is read by the program as the words say, if alternatives further on are. -/
import Derived.Test.YtlaglkbcladfbaaDoorRBr
namespace Go.Proofs.YtlaglkbcladfbaaDoor
open Go.RowKit
set_option linter.unusedVariables false
set_option linter.unusedSimpArgs false

theorem br_round {f : Nat → Int} {d p : Nat} {r : Got Tree} (h : f p = 40) (hb : InBr f d p 41 r) : Ans f .elem d p r := by
  cases hb with
  | deep e => exact .deep (.inl h) e
  | err hd ha => exact .inErr (.inl h) hd ha
  | opened hd ha hc => exact .inOpen (.inl h) hd ha (by rw [if_pos h]; exact hc)
  | ok hd ha hc => exact .round h hd ha hc
theorem br_square_err {f : Nat → Int} {d p : Nat} {c : Int} (h : f p = 91) (hb : InBr f d p 93 (.err c)) : Ans f .elem d p (.err c) := by
  cases hb with
  | deep e => exact .deep (.inr h) e
  | err hd ha => exact .inErr (.inr h) hd ha
  | opened hd ha hc => exact .inOpen (.inr h) hd ha (by rw [if_neg (by omega)]; exact hc)
theorem br_square_ok {f : Nat → Int} {d p q : Nat} {t : Tree} (h : f p = 91) (hb : InBr f d p 93 (.ok t q)) : Ans f .elem d p (.ok (repT 0 1 t) q) := by
  cases hb with
  | ok hd ha hc => exact .square h hd ha hc

theorem quote_bytes {s : ByteArray} {p q : Nat} {x : List Int} (h : quoteAt (rd s) p = .ok x q) : (∀ c ∈ x, 0 ≤ c ∧ c < 128) ∧ x.length ≤ s.size := by
  unfold quoteAt at h
  split at h
  · rename_i h1
    have hlt := rd_lt (by omega) h1
    obtain ⟨hr, hq⟩ := run_at (P := isSt) (by decide) (s := s) (p := p + 1) (by omega)
    split at h
    · cases h
      exact ⟨run_bytes isSt_low hr, by rw [cut_len]; omega⟩
    · cases h
  · cases h

theorem nx_of {s : ByteArray} {p : Nat} {c : Int} (hc : 0 < c) (h : rd s p = c) : nx (rd s) p = c := (nx_eq hc).2 h

theorem kindOf_none {s : ByteArray} {p : Nat} (h : ∀ c, (c = 105 ∨ c = 73 ∨ c = 115 ∨ c = 83 ∨ c = 98 ∨ c = 66 ∨ c = 100 ∨ c = 68 ∨ c = 120 ∨ c = 88) → rd s p ≠ c) : kindOf (rd s p) = .none := by
  unfold kindOf
  have h1 := h 105 (by omega)
  have h2 := h 73 (by omega)
  have h3 := h 115 (by omega)
  have h4 := h 83 (by omega)
  have h5 := h 98 (by omega)
  have h6 := h 66 (by omega)
  have h7 := h 100 (by omega)
  have h8 := h 68 (by omega)
  have h9 := h 120 (by omega)
  have h10 := h 88 (by omega)
  simp [h1, h2, h3, h4, h5, h6, h7, h8, h9, h10]

set_option maxRecDepth 100000 in
set_option maxHeartbeats 16000000 in
theorem elem_step {k : Nat} (hel : ∀ k', k' < k → AskTo 85 .alts k') : AskTo 146 .elem k := by
  intro R p d s w h hs hp hd hk
  have hR := h.lt
  have HR := Lib.hid (res_new w)
  have HA := Lib.hid (h.alloc (.cells #[.int .i64 0, .string ⟨#[]⟩, .slice none 0 0, .int .i64 0, .int .i64 0, .slice none 0 0] 43))
  have HG := Lib.hid (World.grownBy_alloc w (.cells #[.int .i64 0, .string ⟨#[]⟩, .slice none 0 0, .int .i64 0, .int .i64 0, .slice none 0 0] 43) (some R))
  have HEL : Hid (∀ k', k' < s.size - p → AskTo 85 .alts k') := fun k' hk' => hel k' (by omega)
  have hr := nx_range s p
  clear h hel
  cases hal : isAl (rd s p)
  · by_cases h40 : rd s p = 40
    · have H40 := Lib.hid h40
      have HN := Lib.hid (nx_of (by omega) h40)
      clear h40 hal
      go_enter Tryd.func146, Tryd.ntmps146
      go_wp2_with fail
      refine (next_any HA.out hs hp).mono ?_
      rw [HN.out]
      rintro e w1 ⟨rfl, n, rfl⟩
      go_wp2_with fail
      refine (letter_any _ _).mono ?_
      rw [show isAl 40 = false by decide]
      rintro e w1 ⟨rfl, rfl⟩
      go_wp2_with fail
      refine (bracketed_any 40 41 (by omega) (by omega) HEL.out (HA.out.drew n) hs hd H40.out).mono ?_
      rintro e w2 ⟨r, hb, hgv⟩
      have HANS := Lib.hid (br_round H40.out hb)
      clear hb
      cases r with
      | err c =>
        obtain ⟨rfl, hg⟩ := hgv
        have HG2 := Lib.hid ((grown_drew HG.out n).trans hg)
        clear hg
        go_wp2_with fail
        exact ⟨rfl, _, HANS.out, rfl, HG2.out⟩
      | ok t q =>
        obtain ⟨x, ht, hqs, rfl, ha, hg⟩ := hgv
        have h2 := one_cell_ns ht
        have h5 := one_cell_ks ht
        have H2 := Lib.hid h2
        have H5 := Lib.hid h5
        have hz2 : w.heap.size + 1 ≤ w2.heap.size := by have := hg.size; have := hR; simp at *; omega
        have HR2 := Lib.hid (res_kept (W := (w.alloc (.cells #[.int .i64 0, .string ⟨#[]⟩, .slice none 0 0, .int .i64 0, .int .i64 0, .slice none 0 0] 43)).drewN n) HR.out hg (by omega))
        have HG2 := Lib.hid ((grown_drew HG.out n).trans hg)
        have HA2 := Lib.hid ha
        have HT := Lib.hid (ht.weak (P' := fun b => w.heap.size + 1 ≤ b) (fun b hP _ => by have := hR; simp at *; omega))
        clear ha hg ht h2 h5
        go_wp2_with (refine store_res rfl _ _ rfl w.heap.size x rfl rfl HR2.out H2.out H5.out ?_)
        refine bodyPost_ret_by (run_res rfl _ _ w.heap.size x rfl HR2.out) rfl ⟨_, HANS.out, x, ?_, hqs, rfl, HA2.out.set_row (by omega) _, grown_row HG2.out (Nat.le_refl _) _⟩
        exact (HT.out.set_row (fun b hb => by omega) _).weak (fun b hb _ => by omega)
    · by_cases h91 : rd s p = 91
      · have H91 := Lib.hid h91
        have HN := Lib.hid (nx_of (by omega) h91)
        clear h40 hal h91
        go_enter Tryd.func146, Tryd.ntmps146
        go_wp2_with fail
        refine (next_any HA.out hs hp).mono ?_
        rw [HN.out]
        rintro e w1 ⟨rfl, n, rfl⟩
        go_wp2_with fail
        refine (letter_any _ _).mono ?_
        rw [show isAl 91 = false by decide]
        rintro e w1 ⟨rfl, rfl⟩
        go_wp2_with fail
        refine (bracketed_any 91 93 (by omega) (by omega) HEL.out (HA.out.drew n) hs hd H91.out).mono ?_
        rintro e w2 ⟨r, hb, hgv⟩
        cases r with
        | err c =>
          obtain ⟨rfl, hg⟩ := hgv
          have HANS := Lib.hid (br_square_err H91.out hb)
          have HG2 := Lib.hid ((grown_drew HG.out n).trans hg)
          clear hb hg
          go_wp2_with fail
          exact ⟨rfl, _, HANS.out, rfl, HG2.out⟩
        | ok t q =>
          obtain ⟨x, ht, hqs, rfl, ha, hg⟩ := hgv
          have HANS := Lib.hid (br_square_ok H91.out hb)
          have h2 := one_cell_ns ht
          have h5 := one_cell_ks ht
          have H2 := Lib.hid h2
          have H5 := Lib.hid h5
          have hz2 : w.heap.size + 1 ≤ w2.heap.size := by have := hg.size; simp at this; omega
          have HR2 := Lib.hid (res_alloc (res_kept (W := (w.alloc (.cells #[.int .i64 0, .string ⟨#[]⟩, .slice none 0 0, .int .i64 0, .int .i64 0, .slice none 0 0] 43)).drewN n) HR.out hg (by omega)) (.cells x.arr 43))
          have HG2 := Lib.hid (grown_alloc ((grown_drew HG.out n).trans hg) (.cells x.arr 43))
          have HA2 := Lib.hid (ha.alloc (.cells x.arr 43))
          have hkids := KidsAt.one (W := w2) (W' := w2.alloc (.cells x.arr 43)) (base := w.heap.size + 1) (g := w2.heap.size) (ht.weak (fun b hP _ => by simp at hP; omega)) (Nat.le_refl _) hz2 (heap_alloc_new _ _) (fun b _ hl => heap_alloc_old _ _ hl) (by simp)
          have HT := Lib.hid (hkids.tree 3 0 1)
          clear hb ha hg ht h2 h5 hkids
          go_wp2_with (first
            | (refine build_one rfl _ rfl x rfl H2.out H5.out ?_)
            | (refine store_res rfl _ _ rfl w.heap.size ⟨3, ⟨#[]⟩, .slice none 0 0, 0, 1, .slice (some ⟨w2.heap.size, 0, none⟩) 1 1⟩ rfl rfl HR2.out rfl rfl ?_))
          refine bodyPost_ret_by (run_res rfl _ _ w.heap.size ⟨3, ⟨#[]⟩, .slice none 0 0, 0, 1, .slice (some ⟨w2.heap.size, 0, none⟩) 1 1⟩ rfl HR2.out) rfl ⟨_, HANS.out, _, ?_, hqs, rfl, HA2.out.set_row (by omega) _, grown_row HG2.out (Nat.le_refl _) _⟩
          exact (HT.out.set_row (fun b hb => by omega) _).weak (fun b hb _ => by omega)
      · by_cases h34 : rd s p = 34
        · have H34 := Lib.hid h34
          have HN := Lib.hid (nx_of (by omega) h34)
          clear h40 hal h91 h34
          cases hq : quoteAt (rd s) p with
          | err c =>
            have HQ := Lib.hid hq
            clear hq
            go_enter Tryd.func146, Tryd.ntmps146
            go_wp2_with fail
            refine (next_any HA.out hs hp).mono ?_
            rw [HN.out]
            rintro e w1 ⟨rfl, n, rfl⟩
            go_wp2_with fail
            refine (letter_any _ _).mono ?_
            rw [show isAl 34 = false by decide]
            rintro e w1 ⟨rfl, rfl⟩
            go_wp2_with fail
            refine (quoted_any (HA.out.drew n) hs hp).mono ?_
            rw [HQ.out]
            rintro e w2 ⟨rfl, hg⟩
            have HG2 := Lib.hid ((grown_drew HG.out n).trans hg)
            clear hg
            go_wp2_with fail
            exact ⟨rfl, _, .quoteErr H34.out HQ.out, rfl, HG2.out⟩
          | ok x q =>
            have HQ := Lib.hid hq
            have HX := Lib.hid (quote_bytes hq)
            clear hq
            go_enter Tryd.func146, Tryd.ntmps146
            go_wp2_with fail
            refine (next_any HA.out hs hp).mono ?_
            rw [HN.out]
            rintro e w1 ⟨rfl, n, rfl⟩
            go_wp2_with fail
            refine (letter_any _ _).mono ?_
            rw [show isAl 34 = false by decide]
            rintro e w1 ⟨rfl, rfl⟩
            go_wp2_with fail
            refine (quoted_any (HA.out.drew n) hs hp).mono ?_
            rw [HQ.out]
            rintro e w2 ⟨hqs, rfl, ha, hg⟩
            have hz2 : w.heap.size + 1 ≤ w2.heap.size := by have := hg.size; simp at this; omega
            have HR2 := Lib.hid (res_kept (W := (w.alloc (.cells #[.int .i64 0, .string ⟨#[]⟩, .slice none 0 0, .int .i64 0, .int .i64 0, .slice none 0 0] 43)).drewN n) HR.out hg (by omega))
            have HG2 := Lib.hid ((grown_drew HG.out n).trans hg)
            have HA2 := Lib.hid ha
            have HANS : Hid (Ans (rd s) .elem d p (.ok (foldT x) q)) := .quoteOk H34.out HQ.out
            clear ha hg
            go_wp2_with fail
            refine (fold_any HX.out.1 (by have := HX.out.2; omega)).mono ?_
            rintro e w3 ⟨y, ht, rfl, hb⟩
            have H2 := Lib.hid (one_cell_ns ht)
            have H5 := Lib.hid (one_cell_ks ht)
            have HR3 := Lib.hid (HR2.out.kept (hb.block _ HR2.out.lt))
            have HA3 := Lib.hid (HA2.out.below hb)
            have HG3 := Lib.hid (grown_below HG2.out hb)
            have HT := Lib.hid (ht.weak (P' := fun b => w.heap.size + 1 ≤ b) (fun b hP _ => by omega))
            clear ht hb
            go_wp2_with (refine store_res rfl _ _ rfl w.heap.size y rfl rfl HR3.out H2.out H5.out ?_)
            refine bodyPost_ret_by (run_res rfl _ _ w.heap.size y rfl HR3.out) rfl ⟨_, HANS.out, y, ?_, hqs, rfl, HA3.out.set_row (by omega) _, grown_row HG3.out (Nat.le_refl _) _⟩
            exact (HT.out.set_row (fun b hb => by omega) _).weak (fun b hb _ => by omega)
        · by_cases h37 : rd s p = 37
          · have H37 := Lib.hid h37
            have HN := Lib.hid (nx_of (by omega) h37)
            have hlt := rd_lt (by omega) h37
            clear h40 hal h91 h34 h37
            have hr2 := nx_range s (p + 1)
            by_cases v105 : rd s (p + 1) = 105
            · have hv := v105
              clear v105
              have HV := Lib.hid hv
              have HK : Hid (kindOf (rd s (p + 1)) = .text false) := by rw [hv]; exact rfl
              have HN2 := Lib.hid (nx_of (by omega) hv)
              have hlt2 := rd_lt (by omega) hv
              clear hv
              cases hq : quoteAt (rd s) (p + 2) with
              | err c =>
                have HQ := Lib.hid hq
                clear hq
                go_enter Tryd.func146, Tryd.ntmps146
                go_wp2_with fail
                refine (next_any HA.out hs hp).mono ?_
                rw [HN.out]
                rintro e w1 ⟨rfl, n, rfl⟩
                go_wp2_with fail
                refine (letter_any _ _).mono ?_
                rw [show isAl 37 = false by decide]
                rintro e w1 ⟨rfl, rfl⟩
                go_wp2_with fail
                refine (take_yes (HA.out.drew n) hs 37 (by omega) H37.out).mono ?_
                rintro e w3 ⟨rfl, ha, hg⟩
                have hz3 : w.heap.size + 1 ≤ w3.heap.size := by have := hg.size; simp at this; omega
                have HR3 := Lib.hid (res_kept (W := (w.alloc (.cells #[.int .i64 0, .string ⟨#[]⟩, .slice none 0 0, .int .i64 0, .int .i64 0, .slice none 0 0] 43)).drewN n) HR.out hg (by omega))
                have HG3 := Lib.hid ((grown_drew HG.out n).trans hg)
                have HA3 := Lib.hid ha
                clear ha hg HR HG HA
                go_wp2_with fail
                refine (next_any HA3.out hs hlt).mono ?_
                rw [HN2.out]
                rintro e w4 ⟨rfl, n2, rfl⟩
                go_wp2_with fail
                refine (take_yes (HA3.out.drew n2) hs 105 (by omega) HV.out).mono ?_
                rintro e w4 ⟨rfl, ha, hg⟩
                have hz4 : w.heap.size + 1 ≤ w4.heap.size := by have := hg.size; exact Nat.le_trans hz3 this
                have HR4 := Lib.hid (res_kept (W := w3.drewN n2) HR3.out hg (by omega))
                have HG4 := Lib.hid ((grown_drew HG3.out n2).trans hg)
                have HA4 := Lib.hid ha
                clear ha hg HR3 HG3 HA3
                go_wp2_with fail
                refine (quoted_any HA4.out hs (by omega)).mono ?_
                rw [HQ.out]
                rintro e w5 ⟨rfl, hg⟩
                have HG5 := Lib.hid (HG4.out.trans hg)
                clear hg
                go_wp2_with fail
                exact ⟨rfl, _, .litErr H37.out HK.out HQ.out, rfl, HG5.out⟩
              | ok x q =>
                have HQ := Lib.hid hq
                have HX := Lib.hid (quote_bytes hq)
                clear hq
                go_enter Tryd.func146, Tryd.ntmps146
                go_wp2_with fail
                refine (next_any HA.out hs hp).mono ?_
                rw [HN.out]
                rintro e w1 ⟨rfl, n, rfl⟩
                go_wp2_with fail
                refine (letter_any _ _).mono ?_
                rw [show isAl 37 = false by decide]
                rintro e w1 ⟨rfl, rfl⟩
                go_wp2_with fail
                refine (take_yes (HA.out.drew n) hs 37 (by omega) H37.out).mono ?_
                rintro e w3 ⟨rfl, ha, hg⟩
                have hz3 : w.heap.size + 1 ≤ w3.heap.size := by have := hg.size; simp at this; omega
                have HR3 := Lib.hid (res_kept (W := (w.alloc (.cells #[.int .i64 0, .string ⟨#[]⟩, .slice none 0 0, .int .i64 0, .int .i64 0, .slice none 0 0] 43)).drewN n) HR.out hg (by omega))
                have HG3 := Lib.hid ((grown_drew HG.out n).trans hg)
                have HA3 := Lib.hid ha
                clear ha hg HR HG HA
                go_wp2_with fail
                refine (next_any HA3.out hs hlt).mono ?_
                rw [HN2.out]
                rintro e w4 ⟨rfl, n2, rfl⟩
                go_wp2_with fail
                refine (take_yes (HA3.out.drew n2) hs 105 (by omega) HV.out).mono ?_
                rintro e w4 ⟨rfl, ha, hg⟩
                have hz4 : w.heap.size + 1 ≤ w4.heap.size := by have := hg.size; exact Nat.le_trans hz3 this
                have HR4 := Lib.hid (res_kept (W := w3.drewN n2) HR3.out hg (by omega))
                have HG4 := Lib.hid ((grown_drew HG3.out n2).trans hg)
                have HA4 := Lib.hid ha
                clear ha hg HR3 HG3 HA3
                go_wp2_with fail
                refine (quoted_any HA4.out hs (by omega)).mono ?_
                rw [HQ.out]
                rintro e w2 ⟨hqs, rfl, ha, hg⟩
                have hz2 : w.heap.size + 1 ≤ w2.heap.size := by have := hg.size; omega
                have HR2 := Lib.hid (res_kept HR4.out hg (by omega))
                have HG2 := Lib.hid (HG4.out.trans hg)
                have HA2 := Lib.hid ha
                have HANS : Hid (Ans (rd s) .elem d p (.ok (litT x false) q)) := .litOk H37.out HK.out HQ.out
                clear ha hg
                go_wp2_with fail
                refine (lit_any false HX.out.1 (by have := HX.out.2; omega)).mono ?_
                rintro e w3 ⟨y, ht, rfl, hb⟩
                have H2 := Lib.hid (one_cell_ns ht)
                have H5 := Lib.hid (one_cell_ks ht)
                have HR3 := Lib.hid (HR2.out.kept (hb.block _ HR2.out.lt))
                have HA3 := Lib.hid (HA2.out.below hb)
                have HG3 := Lib.hid (grown_below HG2.out hb)
                have HT := Lib.hid (ht.weak (P' := fun b => w.heap.size + 1 ≤ b) (fun b hP _ => by omega))
                clear ht hb
                go_wp2_with (refine store_res rfl _ _ rfl w.heap.size y rfl rfl HR3.out H2.out H5.out ?_)
                refine bodyPost_ret_by (run_res rfl _ _ w.heap.size y rfl HR3.out) rfl ⟨_, HANS.out, y, ?_, hqs, rfl, HA3.out.set_row (by omega) _, grown_row HG3.out (Nat.le_refl _) _⟩
                exact (HT.out.set_row (fun b hb => by omega) _).weak (fun b hb _ => by omega)
            · by_cases v73 : rd s (p + 1) = 73
              · have hv := v73
                clear v73
                have HV := Lib.hid hv
                have HK : Hid (kindOf (rd s (p + 1)) = .text false) := by rw [hv]; exact rfl
                have HN2 := Lib.hid (nx_of (by omega) hv)
                have hlt2 := rd_lt (by omega) hv
                clear hv
                cases hq : quoteAt (rd s) (p + 2) with
                | err c =>
                  have HQ := Lib.hid hq
                  clear hq
                  go_enter Tryd.func146, Tryd.ntmps146
                  go_wp2_with fail
                  refine (next_any HA.out hs hp).mono ?_
                  rw [HN.out]
                  rintro e w1 ⟨rfl, n, rfl⟩
                  go_wp2_with fail
                  refine (letter_any _ _).mono ?_
                  rw [show isAl 37 = false by decide]
                  rintro e w1 ⟨rfl, rfl⟩
                  go_wp2_with fail
                  refine (take_yes (HA.out.drew n) hs 37 (by omega) H37.out).mono ?_
                  rintro e w3 ⟨rfl, ha, hg⟩
                  have hz3 : w.heap.size + 1 ≤ w3.heap.size := by have := hg.size; simp at this; omega
                  have HR3 := Lib.hid (res_kept (W := (w.alloc (.cells #[.int .i64 0, .string ⟨#[]⟩, .slice none 0 0, .int .i64 0, .int .i64 0, .slice none 0 0] 43)).drewN n) HR.out hg (by omega))
                  have HG3 := Lib.hid ((grown_drew HG.out n).trans hg)
                  have HA3 := Lib.hid ha
                  clear ha hg HR HG HA
                  go_wp2_with fail
                  refine (next_any HA3.out hs hlt).mono ?_
                  rw [HN2.out]
                  rintro e w4 ⟨rfl, n2, rfl⟩
                  go_wp2_with fail
                  refine (take_yes (HA3.out.drew n2) hs 73 (by omega) HV.out).mono ?_
                  rintro e w4 ⟨rfl, ha, hg⟩
                  have hz4 : w.heap.size + 1 ≤ w4.heap.size := by have := hg.size; exact Nat.le_trans hz3 this
                  have HR4 := Lib.hid (res_kept (W := w3.drewN n2) HR3.out hg (by omega))
                  have HG4 := Lib.hid ((grown_drew HG3.out n2).trans hg)
                  have HA4 := Lib.hid ha
                  clear ha hg HR3 HG3 HA3
                  go_wp2_with fail
                  refine (quoted_any HA4.out hs (by omega)).mono ?_
                  rw [HQ.out]
                  rintro e w5 ⟨rfl, hg⟩
                  have HG5 := Lib.hid (HG4.out.trans hg)
                  clear hg
                  go_wp2_with fail
                  exact ⟨rfl, _, .litErr H37.out HK.out HQ.out, rfl, HG5.out⟩
                | ok x q =>
                  have HQ := Lib.hid hq
                  have HX := Lib.hid (quote_bytes hq)
                  clear hq
                  go_enter Tryd.func146, Tryd.ntmps146
                  go_wp2_with fail
                  refine (next_any HA.out hs hp).mono ?_
                  rw [HN.out]
                  rintro e w1 ⟨rfl, n, rfl⟩
                  go_wp2_with fail
                  refine (letter_any _ _).mono ?_
                  rw [show isAl 37 = false by decide]
                  rintro e w1 ⟨rfl, rfl⟩
                  go_wp2_with fail
                  refine (take_yes (HA.out.drew n) hs 37 (by omega) H37.out).mono ?_
                  rintro e w3 ⟨rfl, ha, hg⟩
                  have hz3 : w.heap.size + 1 ≤ w3.heap.size := by have := hg.size; simp at this; omega
                  have HR3 := Lib.hid (res_kept (W := (w.alloc (.cells #[.int .i64 0, .string ⟨#[]⟩, .slice none 0 0, .int .i64 0, .int .i64 0, .slice none 0 0] 43)).drewN n) HR.out hg (by omega))
                  have HG3 := Lib.hid ((grown_drew HG.out n).trans hg)
                  have HA3 := Lib.hid ha
                  clear ha hg HR HG HA
                  go_wp2_with fail
                  refine (next_any HA3.out hs hlt).mono ?_
                  rw [HN2.out]
                  rintro e w4 ⟨rfl, n2, rfl⟩
                  go_wp2_with fail
                  refine (take_yes (HA3.out.drew n2) hs 73 (by omega) HV.out).mono ?_
                  rintro e w4 ⟨rfl, ha, hg⟩
                  have hz4 : w.heap.size + 1 ≤ w4.heap.size := by have := hg.size; exact Nat.le_trans hz3 this
                  have HR4 := Lib.hid (res_kept (W := w3.drewN n2) HR3.out hg (by omega))
                  have HG4 := Lib.hid ((grown_drew HG3.out n2).trans hg)
                  have HA4 := Lib.hid ha
                  clear ha hg HR3 HG3 HA3
                  go_wp2_with fail
                  refine (quoted_any HA4.out hs (by omega)).mono ?_
                  rw [HQ.out]
                  rintro e w2 ⟨hqs, rfl, ha, hg⟩
                  have hz2 : w.heap.size + 1 ≤ w2.heap.size := by have := hg.size; omega
                  have HR2 := Lib.hid (res_kept HR4.out hg (by omega))
                  have HG2 := Lib.hid (HG4.out.trans hg)
                  have HA2 := Lib.hid ha
                  have HANS : Hid (Ans (rd s) .elem d p (.ok (litT x false) q)) := .litOk H37.out HK.out HQ.out
                  clear ha hg
                  go_wp2_with fail
                  refine (lit_any false HX.out.1 (by have := HX.out.2; omega)).mono ?_
                  rintro e w3 ⟨y, ht, rfl, hb⟩
                  have H2 := Lib.hid (one_cell_ns ht)
                  have H5 := Lib.hid (one_cell_ks ht)
                  have HR3 := Lib.hid (HR2.out.kept (hb.block _ HR2.out.lt))
                  have HA3 := Lib.hid (HA2.out.below hb)
                  have HG3 := Lib.hid (grown_below HG2.out hb)
                  have HT := Lib.hid (ht.weak (P' := fun b => w.heap.size + 1 ≤ b) (fun b hP _ => by omega))
                  clear ht hb
                  go_wp2_with (refine store_res rfl _ _ rfl w.heap.size y rfl rfl HR3.out H2.out H5.out ?_)
                  refine bodyPost_ret_by (run_res rfl _ _ w.heap.size y rfl HR3.out) rfl ⟨_, HANS.out, y, ?_, hqs, rfl, HA3.out.set_row (by omega) _, grown_row HG3.out (Nat.le_refl _) _⟩
                  exact (HT.out.set_row (fun b hb => by omega) _).weak (fun b hb _ => by omega)
              · by_cases v115 : rd s (p + 1) = 115
                · have hv := v115
                  clear v115
                  have HV := Lib.hid hv
                  have HK : Hid (kindOf (rd s (p + 1)) = .text true) := by rw [hv]; exact rfl
                  have HN2 := Lib.hid (nx_of (by omega) hv)
                  have hlt2 := rd_lt (by omega) hv
                  clear hv
                  cases hq : quoteAt (rd s) (p + 2) with
                  | err c =>
                    have HQ := Lib.hid hq
                    clear hq
                    go_enter Tryd.func146, Tryd.ntmps146
                    go_wp2_with fail
                    refine (next_any HA.out hs hp).mono ?_
                    rw [HN.out]
                    rintro e w1 ⟨rfl, n, rfl⟩
                    go_wp2_with fail
                    refine (letter_any _ _).mono ?_
                    rw [show isAl 37 = false by decide]
                    rintro e w1 ⟨rfl, rfl⟩
                    go_wp2_with fail
                    refine (take_yes (HA.out.drew n) hs 37 (by omega) H37.out).mono ?_
                    rintro e w3 ⟨rfl, ha, hg⟩
                    have hz3 : w.heap.size + 1 ≤ w3.heap.size := by have := hg.size; simp at this; omega
                    have HR3 := Lib.hid (res_kept (W := (w.alloc (.cells #[.int .i64 0, .string ⟨#[]⟩, .slice none 0 0, .int .i64 0, .int .i64 0, .slice none 0 0] 43)).drewN n) HR.out hg (by omega))
                    have HG3 := Lib.hid ((grown_drew HG.out n).trans hg)
                    have HA3 := Lib.hid ha
                    clear ha hg HR HG HA
                    go_wp2_with fail
                    refine (next_any HA3.out hs hlt).mono ?_
                    rw [HN2.out]
                    rintro e w4 ⟨rfl, n2, rfl⟩
                    go_wp2_with fail
                    refine (take_yes (HA3.out.drew n2) hs 115 (by omega) HV.out).mono ?_
                    rintro e w4 ⟨rfl, ha, hg⟩
                    have hz4 : w.heap.size + 1 ≤ w4.heap.size := by have := hg.size; exact Nat.le_trans hz3 this
                    have HR4 := Lib.hid (res_kept (W := w3.drewN n2) HR3.out hg (by omega))
                    have HG4 := Lib.hid ((grown_drew HG3.out n2).trans hg)
                    have HA4 := Lib.hid ha
                    clear ha hg HR3 HG3 HA3
                    go_wp2_with fail
                    refine (quoted_any HA4.out hs (by omega)).mono ?_
                    rw [HQ.out]
                    rintro e w5 ⟨rfl, hg⟩
                    have HG5 := Lib.hid (HG4.out.trans hg)
                    clear hg
                    go_wp2_with fail
                    exact ⟨rfl, _, .litErr H37.out HK.out HQ.out, rfl, HG5.out⟩
                  | ok x q =>
                    have HQ := Lib.hid hq
                    have HX := Lib.hid (quote_bytes hq)
                    clear hq
                    go_enter Tryd.func146, Tryd.ntmps146
                    go_wp2_with fail
                    refine (next_any HA.out hs hp).mono ?_
                    rw [HN.out]
                    rintro e w1 ⟨rfl, n, rfl⟩
                    go_wp2_with fail
                    refine (letter_any _ _).mono ?_
                    rw [show isAl 37 = false by decide]
                    rintro e w1 ⟨rfl, rfl⟩
                    go_wp2_with fail
                    refine (take_yes (HA.out.drew n) hs 37 (by omega) H37.out).mono ?_
                    rintro e w3 ⟨rfl, ha, hg⟩
                    have hz3 : w.heap.size + 1 ≤ w3.heap.size := by have := hg.size; simp at this; omega
                    have HR3 := Lib.hid (res_kept (W := (w.alloc (.cells #[.int .i64 0, .string ⟨#[]⟩, .slice none 0 0, .int .i64 0, .int .i64 0, .slice none 0 0] 43)).drewN n) HR.out hg (by omega))
                    have HG3 := Lib.hid ((grown_drew HG.out n).trans hg)
                    have HA3 := Lib.hid ha
                    clear ha hg HR HG HA
                    go_wp2_with fail
                    refine (next_any HA3.out hs hlt).mono ?_
                    rw [HN2.out]
                    rintro e w4 ⟨rfl, n2, rfl⟩
                    go_wp2_with fail
                    refine (take_yes (HA3.out.drew n2) hs 115 (by omega) HV.out).mono ?_
                    rintro e w4 ⟨rfl, ha, hg⟩
                    have hz4 : w.heap.size + 1 ≤ w4.heap.size := by have := hg.size; exact Nat.le_trans hz3 this
                    have HR4 := Lib.hid (res_kept (W := w3.drewN n2) HR3.out hg (by omega))
                    have HG4 := Lib.hid ((grown_drew HG3.out n2).trans hg)
                    have HA4 := Lib.hid ha
                    clear ha hg HR3 HG3 HA3
                    go_wp2_with fail
                    refine (quoted_any HA4.out hs (by omega)).mono ?_
                    rw [HQ.out]
                    rintro e w2 ⟨hqs, rfl, ha, hg⟩
                    have hz2 : w.heap.size + 1 ≤ w2.heap.size := by have := hg.size; omega
                    have HR2 := Lib.hid (res_kept HR4.out hg (by omega))
                    have HG2 := Lib.hid (HG4.out.trans hg)
                    have HA2 := Lib.hid ha
                    have HANS : Hid (Ans (rd s) .elem d p (.ok (litT x true) q)) := .litOk H37.out HK.out HQ.out
                    clear ha hg
                    go_wp2_with fail
                    refine (lit_any true HX.out.1 (by have := HX.out.2; omega)).mono ?_
                    rintro e w3 ⟨y, ht, rfl, hb⟩
                    have H2 := Lib.hid (one_cell_ns ht)
                    have H5 := Lib.hid (one_cell_ks ht)
                    have HR3 := Lib.hid (HR2.out.kept (hb.block _ HR2.out.lt))
                    have HA3 := Lib.hid (HA2.out.below hb)
                    have HG3 := Lib.hid (grown_below HG2.out hb)
                    have HT := Lib.hid (ht.weak (P' := fun b => w.heap.size + 1 ≤ b) (fun b hP _ => by omega))
                    clear ht hb
                    go_wp2_with (refine store_res rfl _ _ rfl w.heap.size y rfl rfl HR3.out H2.out H5.out ?_)
                    refine bodyPost_ret_by (run_res rfl _ _ w.heap.size y rfl HR3.out) rfl ⟨_, HANS.out, y, ?_, hqs, rfl, HA3.out.set_row (by omega) _, grown_row HG3.out (Nat.le_refl _) _⟩
                    exact (HT.out.set_row (fun b hb => by omega) _).weak (fun b hb _ => by omega)
                · by_cases v83 : rd s (p + 1) = 83
                  · have hv := v83
                    clear v83
                    have HV := Lib.hid hv
                    have HK : Hid (kindOf (rd s (p + 1)) = .text true) := by rw [hv]; exact rfl
                    have HN2 := Lib.hid (nx_of (by omega) hv)
                    have hlt2 := rd_lt (by omega) hv
                    clear hv
                    cases hq : quoteAt (rd s) (p + 2) with
                    | err c =>
                      have HQ := Lib.hid hq
                      clear hq
                      go_enter Tryd.func146, Tryd.ntmps146
                      go_wp2_with fail
                      refine (next_any HA.out hs hp).mono ?_
                      rw [HN.out]
                      rintro e w1 ⟨rfl, n, rfl⟩
                      go_wp2_with fail
                      refine (letter_any _ _).mono ?_
                      rw [show isAl 37 = false by decide]
                      rintro e w1 ⟨rfl, rfl⟩
                      go_wp2_with fail
                      refine (take_yes (HA.out.drew n) hs 37 (by omega) H37.out).mono ?_
                      rintro e w3 ⟨rfl, ha, hg⟩
                      have hz3 : w.heap.size + 1 ≤ w3.heap.size := by have := hg.size; simp at this; omega
                      have HR3 := Lib.hid (res_kept (W := (w.alloc (.cells #[.int .i64 0, .string ⟨#[]⟩, .slice none 0 0, .int .i64 0, .int .i64 0, .slice none 0 0] 43)).drewN n) HR.out hg (by omega))
                      have HG3 := Lib.hid ((grown_drew HG.out n).trans hg)
                      have HA3 := Lib.hid ha
                      clear ha hg HR HG HA
                      go_wp2_with fail
                      refine (next_any HA3.out hs hlt).mono ?_
                      rw [HN2.out]
                      rintro e w4 ⟨rfl, n2, rfl⟩
                      go_wp2_with fail
                      refine (take_yes (HA3.out.drew n2) hs 83 (by omega) HV.out).mono ?_
                      rintro e w4 ⟨rfl, ha, hg⟩
                      have hz4 : w.heap.size + 1 ≤ w4.heap.size := by have := hg.size; exact Nat.le_trans hz3 this
                      have HR4 := Lib.hid (res_kept (W := w3.drewN n2) HR3.out hg (by omega))
                      have HG4 := Lib.hid ((grown_drew HG3.out n2).trans hg)
                      have HA4 := Lib.hid ha
                      clear ha hg HR3 HG3 HA3
                      go_wp2_with fail
                      refine (quoted_any HA4.out hs (by omega)).mono ?_
                      rw [HQ.out]
                      rintro e w5 ⟨rfl, hg⟩
                      have HG5 := Lib.hid (HG4.out.trans hg)
                      clear hg
                      go_wp2_with fail
                      exact ⟨rfl, _, .litErr H37.out HK.out HQ.out, rfl, HG5.out⟩
                    | ok x q =>
                      have HQ := Lib.hid hq
                      have HX := Lib.hid (quote_bytes hq)
                      clear hq
                      go_enter Tryd.func146, Tryd.ntmps146
                      go_wp2_with fail
                      refine (next_any HA.out hs hp).mono ?_
                      rw [HN.out]
                      rintro e w1 ⟨rfl, n, rfl⟩
                      go_wp2_with fail
                      refine (letter_any _ _).mono ?_
                      rw [show isAl 37 = false by decide]
                      rintro e w1 ⟨rfl, rfl⟩
                      go_wp2_with fail
                      refine (take_yes (HA.out.drew n) hs 37 (by omega) H37.out).mono ?_
                      rintro e w3 ⟨rfl, ha, hg⟩
                      have hz3 : w.heap.size + 1 ≤ w3.heap.size := by have := hg.size; simp at this; omega
                      have HR3 := Lib.hid (res_kept (W := (w.alloc (.cells #[.int .i64 0, .string ⟨#[]⟩, .slice none 0 0, .int .i64 0, .int .i64 0, .slice none 0 0] 43)).drewN n) HR.out hg (by omega))
                      have HG3 := Lib.hid ((grown_drew HG.out n).trans hg)
                      have HA3 := Lib.hid ha
                      clear ha hg HR HG HA
                      go_wp2_with fail
                      refine (next_any HA3.out hs hlt).mono ?_
                      rw [HN2.out]
                      rintro e w4 ⟨rfl, n2, rfl⟩
                      go_wp2_with fail
                      refine (take_yes (HA3.out.drew n2) hs 83 (by omega) HV.out).mono ?_
                      rintro e w4 ⟨rfl, ha, hg⟩
                      have hz4 : w.heap.size + 1 ≤ w4.heap.size := by have := hg.size; exact Nat.le_trans hz3 this
                      have HR4 := Lib.hid (res_kept (W := w3.drewN n2) HR3.out hg (by omega))
                      have HG4 := Lib.hid ((grown_drew HG3.out n2).trans hg)
                      have HA4 := Lib.hid ha
                      clear ha hg HR3 HG3 HA3
                      go_wp2_with fail
                      refine (quoted_any HA4.out hs (by omega)).mono ?_
                      rw [HQ.out]
                      rintro e w2 ⟨hqs, rfl, ha, hg⟩
                      have hz2 : w.heap.size + 1 ≤ w2.heap.size := by have := hg.size; omega
                      have HR2 := Lib.hid (res_kept HR4.out hg (by omega))
                      have HG2 := Lib.hid (HG4.out.trans hg)
                      have HA2 := Lib.hid ha
                      have HANS : Hid (Ans (rd s) .elem d p (.ok (litT x true) q)) := .litOk H37.out HK.out HQ.out
                      clear ha hg
                      go_wp2_with fail
                      refine (lit_any true HX.out.1 (by have := HX.out.2; omega)).mono ?_
                      rintro e w3 ⟨y, ht, rfl, hb⟩
                      have H2 := Lib.hid (one_cell_ns ht)
                      have H5 := Lib.hid (one_cell_ks ht)
                      have HR3 := Lib.hid (HR2.out.kept (hb.block _ HR2.out.lt))
                      have HA3 := Lib.hid (HA2.out.below hb)
                      have HG3 := Lib.hid (grown_below HG2.out hb)
                      have HT := Lib.hid (ht.weak (P' := fun b => w.heap.size + 1 ≤ b) (fun b hP _ => by omega))
                      clear ht hb
                      go_wp2_with (refine store_res rfl _ _ rfl w.heap.size y rfl rfl HR3.out H2.out H5.out ?_)
                      refine bodyPost_ret_by (run_res rfl _ _ w.heap.size y rfl HR3.out) rfl ⟨_, HANS.out, y, ?_, hqs, rfl, HA3.out.set_row (by omega) _, grown_row HG3.out (Nat.le_refl _) _⟩
                      exact (HT.out.set_row (fun b hb => by omega) _).weak (fun b hb _ => by omega)
                  · by_cases v98 : rd s (p + 1) = 98
                    · have hv := v98
                      clear v98
                      have HV := Lib.hid hv
                      have HK : Hid (kindOf (rd s (p + 1)) = .base 2) := by rw [hv]; exact rfl
                      have HN2 := Lib.hid (nx_of (by omega) hv)
                      have hlt2 := rd_lt (by omega) hv
                      clear hv
                      go_enter Tryd.func146, Tryd.ntmps146
                      go_wp2_with fail
                      refine (next_any HA.out hs hp).mono ?_
                      rw [HN.out]
                      rintro e w1 ⟨rfl, n, rfl⟩
                      go_wp2_with fail
                      refine (letter_any _ _).mono ?_
                      rw [show isAl 37 = false by decide]
                      rintro e w1 ⟨rfl, rfl⟩
                      go_wp2_with fail
                      refine (take_yes (HA.out.drew n) hs 37 (by omega) H37.out).mono ?_
                      rintro e w3 ⟨rfl, ha, hg⟩
                      have hz3 : w.heap.size + 1 ≤ w3.heap.size := by have := hg.size; simp at this; omega
                      have HR3 := Lib.hid (res_kept (W := (w.alloc (.cells #[.int .i64 0, .string ⟨#[]⟩, .slice none 0 0, .int .i64 0, .int .i64 0, .slice none 0 0] 43)).drewN n) HR.out hg (by omega))
                      have HG3 := Lib.hid ((grown_drew HG.out n).trans hg)
                      have HA3 := Lib.hid ha
                      clear ha hg HR HG HA
                      go_wp2_with fail
                      refine (next_any HA3.out hs hlt).mono ?_
                      rw [HN2.out]
                      rintro e w4 ⟨rfl, n2, rfl⟩
                      go_wp2_with fail
                      refine (take_yes (HA3.out.drew n2) hs 98 (by omega) HV.out).mono ?_
                      rintro e w4 ⟨rfl, ha, hg⟩
                      have hz4 : w.heap.size + 1 ≤ w4.heap.size := by have := hg.size; exact Nat.le_trans hz3 this
                      have HR4 := Lib.hid (res_kept (W := w3.drewN n2) HR3.out hg (by omega))
                      have HG4 := Lib.hid ((grown_drew HG3.out n2).trans hg)
                      have HA4 := Lib.hid ha
                      clear ha hg HR3 HG3 HA3
                      go_wp2_with fail
                      refine (numbers_any 2 (by omega) HA4.out hs (by omega)).mono ?_
                      rintro e w2 ⟨r, hans, hgv⟩
                      have HANS : Hid (Ans (rd s) .elem d p r) := .value H37.out HK.out hans
                      clear hans
                      cases r with
                      | err c =>
                        obtain ⟨rfl, hg⟩ := hgv
                        have HG2 := Lib.hid ((HG4.out).trans hg)
                        clear hg
                        go_wp2_with fail
                        exact ⟨rfl, _, HANS.out, rfl, HG2.out⟩
                      | ok t q =>
                        obtain ⟨x, ht, hqs, rfl, ha, hg⟩ := hgv
                        have h2 := one_cell_ns ht
                        have h5 := one_cell_ks ht
                        have H2 := Lib.hid h2
                        have H5 := Lib.hid h5
                        have hz2 : w.heap.size + 1 ≤ w2.heap.size := by have := hg.size; have := hz4; simp at *; omega
                        have HR2 := Lib.hid (res_kept (W := w4) HR4.out hg (by omega))
                        have HG2 := Lib.hid ((HG4.out).trans hg)
                        have HA2 := Lib.hid ha
                        have HT := Lib.hid (ht.weak (P' := fun b => w.heap.size + 1 ≤ b) (fun b hP _ => by have := hz4; simp at *; omega))
                        clear ha hg ht h2 h5
                        go_wp2_with (refine store_res rfl _ _ rfl w.heap.size x rfl rfl HR2.out H2.out H5.out ?_)
                        refine bodyPost_ret_by (run_res rfl _ _ w.heap.size x rfl HR2.out) rfl ⟨_, HANS.out, x, ?_, hqs, rfl, HA2.out.set_row (by omega) _, grown_row HG2.out (Nat.le_refl _) _⟩
                        exact (HT.out.set_row (fun b hb => by omega) _).weak (fun b hb _ => by omega)
                    · by_cases v66 : rd s (p + 1) = 66
                      · have hv := v66
                        clear v66
                        have HV := Lib.hid hv
                        have HK : Hid (kindOf (rd s (p + 1)) = .base 2) := by rw [hv]; exact rfl
                        have HN2 := Lib.hid (nx_of (by omega) hv)
                        have hlt2 := rd_lt (by omega) hv
                        clear hv
                        go_enter Tryd.func146, Tryd.ntmps146
                        go_wp2_with fail
                        refine (next_any HA.out hs hp).mono ?_
                        rw [HN.out]
                        rintro e w1 ⟨rfl, n, rfl⟩
                        go_wp2_with fail
                        refine (letter_any _ _).mono ?_
                        rw [show isAl 37 = false by decide]
                        rintro e w1 ⟨rfl, rfl⟩
                        go_wp2_with fail
                        refine (take_yes (HA.out.drew n) hs 37 (by omega) H37.out).mono ?_
                        rintro e w3 ⟨rfl, ha, hg⟩
                        have hz3 : w.heap.size + 1 ≤ w3.heap.size := by have := hg.size; simp at this; omega
                        have HR3 := Lib.hid (res_kept (W := (w.alloc (.cells #[.int .i64 0, .string ⟨#[]⟩, .slice none 0 0, .int .i64 0, .int .i64 0, .slice none 0 0] 43)).drewN n) HR.out hg (by omega))
                        have HG3 := Lib.hid ((grown_drew HG.out n).trans hg)
                        have HA3 := Lib.hid ha
                        clear ha hg HR HG HA
                        go_wp2_with fail
                        refine (next_any HA3.out hs hlt).mono ?_
                        rw [HN2.out]
                        rintro e w4 ⟨rfl, n2, rfl⟩
                        go_wp2_with fail
                        refine (take_yes (HA3.out.drew n2) hs 66 (by omega) HV.out).mono ?_
                        rintro e w4 ⟨rfl, ha, hg⟩
                        have hz4 : w.heap.size + 1 ≤ w4.heap.size := by have := hg.size; exact Nat.le_trans hz3 this
                        have HR4 := Lib.hid (res_kept (W := w3.drewN n2) HR3.out hg (by omega))
                        have HG4 := Lib.hid ((grown_drew HG3.out n2).trans hg)
                        have HA4 := Lib.hid ha
                        clear ha hg HR3 HG3 HA3
                        go_wp2_with fail
                        refine (numbers_any 2 (by omega) HA4.out hs (by omega)).mono ?_
                        rintro e w2 ⟨r, hans, hgv⟩
                        have HANS : Hid (Ans (rd s) .elem d p r) := .value H37.out HK.out hans
                        clear hans
                        cases r with
                        | err c =>
                          obtain ⟨rfl, hg⟩ := hgv
                          have HG2 := Lib.hid ((HG4.out).trans hg)
                          clear hg
                          go_wp2_with fail
                          exact ⟨rfl, _, HANS.out, rfl, HG2.out⟩
                        | ok t q =>
                          obtain ⟨x, ht, hqs, rfl, ha, hg⟩ := hgv
                          have h2 := one_cell_ns ht
                          have h5 := one_cell_ks ht
                          have H2 := Lib.hid h2
                          have H5 := Lib.hid h5
                          have hz2 : w.heap.size + 1 ≤ w2.heap.size := by have := hg.size; have := hz4; simp at *; omega
                          have HR2 := Lib.hid (res_kept (W := w4) HR4.out hg (by omega))
                          have HG2 := Lib.hid ((HG4.out).trans hg)
                          have HA2 := Lib.hid ha
                          have HT := Lib.hid (ht.weak (P' := fun b => w.heap.size + 1 ≤ b) (fun b hP _ => by have := hz4; simp at *; omega))
                          clear ha hg ht h2 h5
                          go_wp2_with (refine store_res rfl _ _ rfl w.heap.size x rfl rfl HR2.out H2.out H5.out ?_)
                          refine bodyPost_ret_by (run_res rfl _ _ w.heap.size x rfl HR2.out) rfl ⟨_, HANS.out, x, ?_, hqs, rfl, HA2.out.set_row (by omega) _, grown_row HG2.out (Nat.le_refl _) _⟩
                          exact (HT.out.set_row (fun b hb => by omega) _).weak (fun b hb _ => by omega)
                      · by_cases v100 : rd s (p + 1) = 100
                        · have hv := v100
                          clear v100
                          have HV := Lib.hid hv
                          have HK : Hid (kindOf (rd s (p + 1)) = .base 10) := by rw [hv]; exact rfl
                          have HN2 := Lib.hid (nx_of (by omega) hv)
                          have hlt2 := rd_lt (by omega) hv
                          clear hv
                          go_enter Tryd.func146, Tryd.ntmps146
                          go_wp2_with fail
                          refine (next_any HA.out hs hp).mono ?_
                          rw [HN.out]
                          rintro e w1 ⟨rfl, n, rfl⟩
                          go_wp2_with fail
                          refine (letter_any _ _).mono ?_
                          rw [show isAl 37 = false by decide]
                          rintro e w1 ⟨rfl, rfl⟩
                          go_wp2_with fail
                          refine (take_yes (HA.out.drew n) hs 37 (by omega) H37.out).mono ?_
                          rintro e w3 ⟨rfl, ha, hg⟩
                          have hz3 : w.heap.size + 1 ≤ w3.heap.size := by have := hg.size; simp at this; omega
                          have HR3 := Lib.hid (res_kept (W := (w.alloc (.cells #[.int .i64 0, .string ⟨#[]⟩, .slice none 0 0, .int .i64 0, .int .i64 0, .slice none 0 0] 43)).drewN n) HR.out hg (by omega))
                          have HG3 := Lib.hid ((grown_drew HG.out n).trans hg)
                          have HA3 := Lib.hid ha
                          clear ha hg HR HG HA
                          go_wp2_with fail
                          refine (next_any HA3.out hs hlt).mono ?_
                          rw [HN2.out]
                          rintro e w4 ⟨rfl, n2, rfl⟩
                          go_wp2_with fail
                          refine (take_yes (HA3.out.drew n2) hs 100 (by omega) HV.out).mono ?_
                          rintro e w4 ⟨rfl, ha, hg⟩
                          have hz4 : w.heap.size + 1 ≤ w4.heap.size := by have := hg.size; exact Nat.le_trans hz3 this
                          have HR4 := Lib.hid (res_kept (W := w3.drewN n2) HR3.out hg (by omega))
                          have HG4 := Lib.hid ((grown_drew HG3.out n2).trans hg)
                          have HA4 := Lib.hid ha
                          clear ha hg HR3 HG3 HA3
                          go_wp2_with fail
                          refine (numbers_any 10 (by omega) HA4.out hs (by omega)).mono ?_
                          rintro e w2 ⟨r, hans, hgv⟩
                          have HANS : Hid (Ans (rd s) .elem d p r) := .value H37.out HK.out hans
                          clear hans
                          cases r with
                          | err c =>
                            obtain ⟨rfl, hg⟩ := hgv
                            have HG2 := Lib.hid ((HG4.out).trans hg)
                            clear hg
                            go_wp2_with fail
                            exact ⟨rfl, _, HANS.out, rfl, HG2.out⟩
                          | ok t q =>
                            obtain ⟨x, ht, hqs, rfl, ha, hg⟩ := hgv
                            have h2 := one_cell_ns ht
                            have h5 := one_cell_ks ht
                            have H2 := Lib.hid h2
                            have H5 := Lib.hid h5
                            have hz2 : w.heap.size + 1 ≤ w2.heap.size := by have := hg.size; have := hz4; simp at *; omega
                            have HR2 := Lib.hid (res_kept (W := w4) HR4.out hg (by omega))
                            have HG2 := Lib.hid ((HG4.out).trans hg)
                            have HA2 := Lib.hid ha
                            have HT := Lib.hid (ht.weak (P' := fun b => w.heap.size + 1 ≤ b) (fun b hP _ => by have := hz4; simp at *; omega))
                            clear ha hg ht h2 h5
                            go_wp2_with (refine store_res rfl _ _ rfl w.heap.size x rfl rfl HR2.out H2.out H5.out ?_)
                            refine bodyPost_ret_by (run_res rfl _ _ w.heap.size x rfl HR2.out) rfl ⟨_, HANS.out, x, ?_, hqs, rfl, HA2.out.set_row (by omega) _, grown_row HG2.out (Nat.le_refl _) _⟩
                            exact (HT.out.set_row (fun b hb => by omega) _).weak (fun b hb _ => by omega)
                        · by_cases v68 : rd s (p + 1) = 68
                          · have hv := v68
                            clear v68
                            have HV := Lib.hid hv
                            have HK : Hid (kindOf (rd s (p + 1)) = .base 10) := by rw [hv]; exact rfl
                            have HN2 := Lib.hid (nx_of (by omega) hv)
                            have hlt2 := rd_lt (by omega) hv
                            clear hv
                            go_enter Tryd.func146, Tryd.ntmps146
                            go_wp2_with fail
                            refine (next_any HA.out hs hp).mono ?_
                            rw [HN.out]
                            rintro e w1 ⟨rfl, n, rfl⟩
                            go_wp2_with fail
                            refine (letter_any _ _).mono ?_
                            rw [show isAl 37 = false by decide]
                            rintro e w1 ⟨rfl, rfl⟩
                            go_wp2_with fail
                            refine (take_yes (HA.out.drew n) hs 37 (by omega) H37.out).mono ?_
                            rintro e w3 ⟨rfl, ha, hg⟩
                            have hz3 : w.heap.size + 1 ≤ w3.heap.size := by have := hg.size; simp at this; omega
                            have HR3 := Lib.hid (res_kept (W := (w.alloc (.cells #[.int .i64 0, .string ⟨#[]⟩, .slice none 0 0, .int .i64 0, .int .i64 0, .slice none 0 0] 43)).drewN n) HR.out hg (by omega))
                            have HG3 := Lib.hid ((grown_drew HG.out n).trans hg)
                            have HA3 := Lib.hid ha
                            clear ha hg HR HG HA
                            go_wp2_with fail
                            refine (next_any HA3.out hs hlt).mono ?_
                            rw [HN2.out]
                            rintro e w4 ⟨rfl, n2, rfl⟩
                            go_wp2_with fail
                            refine (take_yes (HA3.out.drew n2) hs 68 (by omega) HV.out).mono ?_
                            rintro e w4 ⟨rfl, ha, hg⟩
                            have hz4 : w.heap.size + 1 ≤ w4.heap.size := by have := hg.size; exact Nat.le_trans hz3 this
                            have HR4 := Lib.hid (res_kept (W := w3.drewN n2) HR3.out hg (by omega))
                            have HG4 := Lib.hid ((grown_drew HG3.out n2).trans hg)
                            have HA4 := Lib.hid ha
                            clear ha hg HR3 HG3 HA3
                            go_wp2_with fail
                            refine (numbers_any 10 (by omega) HA4.out hs (by omega)).mono ?_
                            rintro e w2 ⟨r, hans, hgv⟩
                            have HANS : Hid (Ans (rd s) .elem d p r) := .value H37.out HK.out hans
                            clear hans
                            cases r with
                            | err c =>
                              obtain ⟨rfl, hg⟩ := hgv
                              have HG2 := Lib.hid ((HG4.out).trans hg)
                              clear hg
                              go_wp2_with fail
                              exact ⟨rfl, _, HANS.out, rfl, HG2.out⟩
                            | ok t q =>
                              obtain ⟨x, ht, hqs, rfl, ha, hg⟩ := hgv
                              have h2 := one_cell_ns ht
                              have h5 := one_cell_ks ht
                              have H2 := Lib.hid h2
                              have H5 := Lib.hid h5
                              have hz2 : w.heap.size + 1 ≤ w2.heap.size := by have := hg.size; have := hz4; simp at *; omega
                              have HR2 := Lib.hid (res_kept (W := w4) HR4.out hg (by omega))
                              have HG2 := Lib.hid ((HG4.out).trans hg)
                              have HA2 := Lib.hid ha
                              have HT := Lib.hid (ht.weak (P' := fun b => w.heap.size + 1 ≤ b) (fun b hP _ => by have := hz4; simp at *; omega))
                              clear ha hg ht h2 h5
                              go_wp2_with (refine store_res rfl _ _ rfl w.heap.size x rfl rfl HR2.out H2.out H5.out ?_)
                              refine bodyPost_ret_by (run_res rfl _ _ w.heap.size x rfl HR2.out) rfl ⟨_, HANS.out, x, ?_, hqs, rfl, HA2.out.set_row (by omega) _, grown_row HG2.out (Nat.le_refl _) _⟩
                              exact (HT.out.set_row (fun b hb => by omega) _).weak (fun b hb _ => by omega)
                          · by_cases v120 : rd s (p + 1) = 120
                            · have hv := v120
                              clear v120
                              have HV := Lib.hid hv
                              have HK : Hid (kindOf (rd s (p + 1)) = .base 16) := by rw [hv]; exact rfl
                              have HN2 := Lib.hid (nx_of (by omega) hv)
                              have hlt2 := rd_lt (by omega) hv
                              clear hv
                              go_enter Tryd.func146, Tryd.ntmps146
                              go_wp2_with fail
                              refine (next_any HA.out hs hp).mono ?_
                              rw [HN.out]
                              rintro e w1 ⟨rfl, n, rfl⟩
                              go_wp2_with fail
                              refine (letter_any _ _).mono ?_
                              rw [show isAl 37 = false by decide]
                              rintro e w1 ⟨rfl, rfl⟩
                              go_wp2_with fail
                              refine (take_yes (HA.out.drew n) hs 37 (by omega) H37.out).mono ?_
                              rintro e w3 ⟨rfl, ha, hg⟩
                              have hz3 : w.heap.size + 1 ≤ w3.heap.size := by have := hg.size; simp at this; omega
                              have HR3 := Lib.hid (res_kept (W := (w.alloc (.cells #[.int .i64 0, .string ⟨#[]⟩, .slice none 0 0, .int .i64 0, .int .i64 0, .slice none 0 0] 43)).drewN n) HR.out hg (by omega))
                              have HG3 := Lib.hid ((grown_drew HG.out n).trans hg)
                              have HA3 := Lib.hid ha
                              clear ha hg HR HG HA
                              go_wp2_with fail
                              refine (next_any HA3.out hs hlt).mono ?_
                              rw [HN2.out]
                              rintro e w4 ⟨rfl, n2, rfl⟩
                              go_wp2_with fail
                              refine (taken_yes (HA3.out.drew n2) hs 120 (by omega) HV.out).mono ?_
                              rintro e w4 ⟨rfl, ha, hg⟩
                              have hz4 : w.heap.size + 1 ≤ w4.heap.size := by have := hg.size; exact Nat.le_trans hz3 this
                              have HR4 := Lib.hid (res_kept (W := w3.drewN n2) HR3.out hg (by omega))
                              have HG4 := Lib.hid ((grown_drew HG3.out n2).trans hg)
                              have HA4 := Lib.hid ha
                              clear ha hg HR3 HG3 HA3
                              go_wp2_with fail
                              refine (numbers_any 16 (by omega) HA4.out hs (by omega)).mono ?_
                              rintro e w2 ⟨r, hans, hgv⟩
                              have HANS : Hid (Ans (rd s) .elem d p r) := .value H37.out HK.out hans
                              clear hans
                              cases r with
                              | err c =>
                                obtain ⟨rfl, hg⟩ := hgv
                                have HG2 := Lib.hid ((HG4.out).trans hg)
                                clear hg
                                go_wp2_with fail
                                exact ⟨rfl, _, HANS.out, rfl, HG2.out⟩
                              | ok t q =>
                                obtain ⟨x, ht, hqs, rfl, ha, hg⟩ := hgv
                                have h2 := one_cell_ns ht
                                have h5 := one_cell_ks ht
                                have H2 := Lib.hid h2
                                have H5 := Lib.hid h5
                                have hz2 : w.heap.size + 1 ≤ w2.heap.size := by have := hg.size; have := hz4; simp at *; omega
                                have HR2 := Lib.hid (res_kept (W := w4) HR4.out hg (by omega))
                                have HG2 := Lib.hid ((HG4.out).trans hg)
                                have HA2 := Lib.hid ha
                                have HT := Lib.hid (ht.weak (P' := fun b => w.heap.size + 1 ≤ b) (fun b hP _ => by have := hz4; simp at *; omega))
                                clear ha hg ht h2 h5
                                go_wp2_with (refine store_res rfl _ _ rfl w.heap.size x rfl rfl HR2.out H2.out H5.out ?_)
                                refine bodyPost_ret_by (run_res rfl _ _ w.heap.size x rfl HR2.out) rfl ⟨_, HANS.out, x, ?_, hqs, rfl, HA2.out.set_row (by omega) _, grown_row HG2.out (Nat.le_refl _) _⟩
                                exact (HT.out.set_row (fun b hb => by omega) _).weak (fun b hb _ => by omega)
                            · by_cases v88 : rd s (p + 1) = 88
                              · have hv := v88
                                clear v88
                                have HV := Lib.hid hv
                                have HK : Hid (kindOf (rd s (p + 1)) = .base 16) := by rw [hv]; exact rfl
                                have HN2 := Lib.hid (nx_of (by omega) hv)
                                have hlt2 := rd_lt (by omega) hv
                                have HNV : Hid (rd s (p + 1) ≠ 120) := by rw [hv]; exact (by omega : (88 : Int) ≠ 120)
                                clear hv
                                go_enter Tryd.func146, Tryd.ntmps146
                                go_wp2_with fail
                                refine (next_any HA.out hs hp).mono ?_
                                rw [HN.out]
                                rintro e w1 ⟨rfl, n, rfl⟩
                                go_wp2_with fail
                                refine (letter_any _ _).mono ?_
                                rw [show isAl 37 = false by decide]
                                rintro e w1 ⟨rfl, rfl⟩
                                go_wp2_with fail
                                refine (take_yes (HA.out.drew n) hs 37 (by omega) H37.out).mono ?_
                                rintro e w3 ⟨rfl, ha, hg⟩
                                have hz3 : w.heap.size + 1 ≤ w3.heap.size := by have := hg.size; simp at this; omega
                                have HR3 := Lib.hid (res_kept (W := (w.alloc (.cells #[.int .i64 0, .string ⟨#[]⟩, .slice none 0 0, .int .i64 0, .int .i64 0, .slice none 0 0] 43)).drewN n) HR.out hg (by omega))
                                have HG3 := Lib.hid ((grown_drew HG.out n).trans hg)
                                have HA3 := Lib.hid ha
                                clear ha hg HR HG HA
                                go_wp2_with fail
                                refine (next_any HA3.out hs hlt).mono ?_
                                rw [HN2.out]
                                rintro e w4 ⟨rfl, n2, rfl⟩
                                go_wp2_with fail
                                refine (taken_no (HA3.out.drew n2) hs hlt 120 (by omega) HNV.out).mono ?_
                                rintro e w5 ⟨rfl, ha, hg⟩
                                have hz5 : w.heap.size + 1 ≤ w5.heap.size := by have := hg.size; exact Nat.le_trans hz3 this
                                have HR5 := Lib.hid (res_kept (W := w3.drewN n2) HR3.out hg (by omega))
                                have HG5 := Lib.hid ((grown_drew HG3.out n2).trans hg)
                                have HA5 := Lib.hid ha
                                clear ha hg HR3 HG3 HA3
                                go_wp2_with fail
                                refine (take_yes HA5.out hs 88 (by omega) HV.out).mono ?_
                                rintro e w4 ⟨rfl, ha, hg⟩
                                have hz4 : w.heap.size + 1 ≤ w4.heap.size := by have := hg.size; omega
                                have HR4 := Lib.hid (res_kept HR5.out hg (by omega))
                                have HG4 := Lib.hid (HG5.out.trans hg)
                                have HA4 := Lib.hid ha
                                clear ha hg HR5 HG5 HA5
                                go_wp2_with fail
                                refine (numbers_any 16 (by omega) HA4.out hs (by omega)).mono ?_
                                rintro e w2 ⟨r, hans, hgv⟩
                                have HANS : Hid (Ans (rd s) .elem d p r) := .value H37.out HK.out hans
                                clear hans
                                cases r with
                                | err c =>
                                  obtain ⟨rfl, hg⟩ := hgv
                                  have HG2 := Lib.hid ((HG4.out).trans hg)
                                  clear hg
                                  go_wp2_with fail
                                  exact ⟨rfl, _, HANS.out, rfl, HG2.out⟩
                                | ok t q =>
                                  obtain ⟨x, ht, hqs, rfl, ha, hg⟩ := hgv
                                  have h2 := one_cell_ns ht
                                  have h5 := one_cell_ks ht
                                  have H2 := Lib.hid h2
                                  have H5 := Lib.hid h5
                                  have hz2 : w.heap.size + 1 ≤ w2.heap.size := by have := hg.size; have := hz4; simp at *; omega
                                  have HR2 := Lib.hid (res_kept (W := w4) HR4.out hg (by omega))
                                  have HG2 := Lib.hid ((HG4.out).trans hg)
                                  have HA2 := Lib.hid ha
                                  have HT := Lib.hid (ht.weak (P' := fun b => w.heap.size + 1 ≤ b) (fun b hP _ => by have := hz4; simp at *; omega))
                                  clear ha hg ht h2 h5
                                  go_wp2_with (refine store_res rfl _ _ rfl w.heap.size x rfl rfl HR2.out H2.out H5.out ?_)
                                  refine bodyPost_ret_by (run_res rfl _ _ w.heap.size x rfl HR2.out) rfl ⟨_, HANS.out, x, ?_, hqs, rfl, HA2.out.set_row (by omega) _, grown_row HG2.out (Nat.le_refl _) _⟩
                                  exact (HT.out.set_row (fun b hb => by omega) _).weak (fun b hb _ => by omega)
                              · have HK : Hid (kindOf (rd s (p + 1)) = .none) := kindOf_none (fun c hc he => by
                                  rcases hc with rfl | rfl | rfl | rfl | rfl | rfl | rfl | rfl | rfl | rfl <;> contradiction)
                                have f105 : (nx (rd s) (p + 1) == 105) = false := by simp; exact fun h => v105 ((nx_eq (by omega)).1 h)
                                have f73 : (nx (rd s) (p + 1) == 73) = false := by simp; exact fun h => v73 ((nx_eq (by omega)).1 h)
                                have f115 : (nx (rd s) (p + 1) == 115) = false := by simp; exact fun h => v115 ((nx_eq (by omega)).1 h)
                                have f83 : (nx (rd s) (p + 1) == 83) = false := by simp; exact fun h => v83 ((nx_eq (by omega)).1 h)
                                have f98 : (nx (rd s) (p + 1) == 98) = false := by simp; exact fun h => v98 ((nx_eq (by omega)).1 h)
                                have f66 : (nx (rd s) (p + 1) == 66) = false := by simp; exact fun h => v66 ((nx_eq (by omega)).1 h)
                                have f100 : (nx (rd s) (p + 1) == 100) = false := by simp; exact fun h => v100 ((nx_eq (by omega)).1 h)
                                have f68 : (nx (rd s) (p + 1) == 68) = false := by simp; exact fun h => v68 ((nx_eq (by omega)).1 h)
                                have HX1 := Lib.hid v120
                                have HX2 := Lib.hid v88
                                clear v105 v73 v115 v83 v98 v66 v100 v68 v120 v88
                                go_enter Tryd.func146, Tryd.ntmps146
                                go_wp2_with fail
                                refine (next_any HA.out hs hp).mono ?_
                                rw [HN.out]
                                rintro e w1 ⟨rfl, n, rfl⟩
                                go_wp2_with fail
                                refine (letter_any _ _).mono ?_
                                rw [show isAl 37 = false by decide]
                                rintro e w1 ⟨rfl, rfl⟩
                                go_wp2_with fail
                                refine (take_yes (HA.out.drew n) hs 37 (by omega) H37.out).mono ?_
                                rintro e w3 ⟨rfl, ha, hg⟩
                                have hz3 : w.heap.size + 1 ≤ w3.heap.size := by have := hg.size; simp at this; omega
                                have HR3 := Lib.hid (res_kept (W := (w.alloc (.cells #[.int .i64 0, .string ⟨#[]⟩, .slice none 0 0, .int .i64 0, .int .i64 0, .slice none 0 0] 43)).drewN n) HR.out hg (by omega))
                                have HG3 := Lib.hid ((grown_drew HG.out n).trans hg)
                                have HA3 := Lib.hid ha
                                clear ha hg HR HG HA
                                go_wp2_with fail
                                refine (next_any HA3.out hs hlt).mono ?_
                                rintro e w4 ⟨rfl, n2, rfl⟩
                                go_wp2_with fail
                                refine (taken_no (HA3.out.drew n2) hs hlt 120 (by omega) HX1.out).mono ?_
                                rintro e w5 ⟨rfl, ha, hg⟩
                                have HG5 := Lib.hid ((grown_drew HG3.out n2).trans hg)
                                have HA5 := Lib.hid ha
                                clear ha hg HR3 HG3 HA3
                                go_wp2_with fail
                                refine (take_no HA5.out hs hlt 88 (by omega) HX2.out).mono ?_
                                rintro e w4 ⟨rfl, hg⟩
                                have HG4 := Lib.hid (HG5.out.trans hg)
                                clear hg
                                go_wp2_with fail
                                exact ⟨rfl, _, .valueNo H37.out HK.out, rfl, HG4.out⟩
          · have e1 : (nx (rd s) p == 40) = false := by simp; exact fun h => h40 ((nx_eq (by omega)).1 h)
            have e2 : (nx (rd s) p == 91) = false := by simp; exact fun h => h91 ((nx_eq (by omega)).1 h)
            have e3 : (nx (rd s) p == 34) = false := by simp; exact fun h => h34 ((nx_eq (by omega)).1 h)
            have H37 := Lib.hid h37
            have HANS : Hid (Ans (rd s) .elem d p (.err 20)) := .no hal h40 h91 h34 h37
            have HAL := Lib.hid (isAl_nx.trans hal)
            clear h40 hal h91 h34 h37
            go_enter Tryd.func146, Tryd.ntmps146
            go_wp2_with fail
            refine (next_any HA.out hs hp).mono ?_
            rintro e w1 ⟨rfl, n, rfl⟩
            go_wp2_with fail
            refine (letter_any _ _).mono ?_
            rw [HAL.out]
            rintro e w1 ⟨rfl, rfl⟩
            go_wp2_with fail
            refine (take_no (HA.out.drew n) hs hp 37 (by omega) H37.out).mono ?_
            rintro e w2 ⟨rfl, hg⟩
            have HG2 := Lib.hid ((grown_drew HG.out n).trans hg)
            clear hg
            go_wp2_with fail
            exact ⟨rfl, _, HANS.out, rfl, HG2.out⟩
  · have HAL := Lib.hid (isAl_nx.trans hal)
    have HAL0 := Lib.hid hal
    clear hal
    cases hn : nameAt (rd s) p with
    | err c =>
      have HE := Lib.hid hn
      clear hn
      go_enter Tryd.func146, Tryd.ntmps146
      go_wp2_with fail
      refine (next_any HA.out hs hp).mono ?_
      rintro e w1 ⟨rfl, n, rfl⟩
      go_wp2_with fail
      refine (letter_any _ _).mono ?_
      rw [HAL.out]
      rintro e w1 ⟨rfl, rfl⟩
      go_wp2_with fail
      refine (rname_any (HA.out.drew n) hs hp).mono ?_
      rw [HE.out]
      rintro e w2 ⟨rfl, hg⟩
      have HG2 := Lib.hid ((grown_drew HG.out n).trans hg)
      clear hg
      go_wp2_with fail
      exact ⟨rfl, _, .nameErr HAL0.out HE.out, rfl, HG2.out⟩
    | ok x q =>
      have HE := Lib.hid hn
      clear hn
      go_enter Tryd.func146, Tryd.ntmps146
      go_wp2_with fail
      refine (next_any HA.out hs hp).mono ?_
      rintro e w1 ⟨rfl, n, rfl⟩
      go_wp2_with fail
      refine (letter_any _ _).mono ?_
      rw [HAL.out]
      rintro e w1 ⟨rfl, rfl⟩
      go_wp2_with fail
      refine (rname_any (HA.out.drew n) hs hp).mono ?_
      rw [HE.out]
      rintro e w2 ⟨hqs, rfl, ha, hg⟩
      have hz2 : w.heap.size + 1 ≤ w2.heap.size := by have := hg.size; simp at this; omega
      have HR2 := Lib.hid (res_kept (W := (w.alloc (.cells #[.int .i64 0, .string ⟨#[]⟩, .slice none 0 0, .int .i64 0, .int .i64 0, .slice none 0 0] 43)).drewN n) HR.out hg (by omega))
      have HG2 := Lib.hid ((grown_drew HG.out n).trans hg)
      have HA2 := Lib.hid ha
      clear ha hg
      go_wp2_with (refine store_res rfl _ _ rfl w.heap.size ⟨4, strOf x, .slice none 0 0, 0, 0, .slice none 0 0⟩ rfl rfl HR2.out rfl rfl ?_)
      refine bodyPost_ret_by (run_res rfl _ _ w.heap.size ⟨4, strOf x, .slice none 0 0, 0, 0, .slice none 0 0⟩ rfl HR2.out) rfl ⟨_, .nameOk HAL0.out HE.out, _, ?_, hqs, rfl, HA2.out.set_row (by omega) _, grown_row HG2.out (Nat.le_refl _) _⟩
      exact tree_leaf _ _ _ _ _ _

end Go.Proofs.YtlaglkbcladfbaaDoor
