/- A rule is read by the program as the words say; for every text of at most 50000 bytes. -/
import Derived.Test.YtlaglkbcladfbaaDoorRLine
namespace Go.Proofs.YtlaglkbcladfbaaDoor
open Go.RowKit
set_option linter.unusedVariables false
set_option linter.unusedSimpArgs false

def zeroL : Array Value := #[.string ⟨#[]⟩, .bool false, .int .i64 0, .string ⟨#[]⟩, .slice none 0 0, .int .i64 0, .int .i64 0, .slice none 0 0]
theorem line_new (w : World) : Line8 (w.alloc (.cells #[.string ⟨#[]⟩, .bool false, .int .i64 0, .string ⟨#[]⟩, .slice none 0 0, .int .i64 0, .int .i64 0, .slice none 0 0] 45)) w.heap.size zeroL := ⟨heap_alloc_new w _, rfl⟩
theorem line_alloc {W : World} {g : Nat} {cs : Array Value} (h : Line8 W g cs) (o : Obj) : Line8 (W.alloc o) g cs := h.keep (Below.heap_alloc W o g h.lt)
theorem Line8.under {W W' : World} {g : Nat} {cs : Array Value} (h : Line8 W g cs) (hb : Below W.heap.size W W') : Line8 W' g cs := h.keep (hb.block g h.lt)

theorem line_cells {x : List Int} (m : Bool) : (((zeroL.setIfInBounds 0 (.string (strOf x))).setIfInBounds 1 (.bool m)).toList.take 2) = [.string (strOf x), .bool m] := rfl

set_option maxRecDepth 100000 in
set_option maxHeartbeats 8000000 in
theorem rule_any {R p : Nat} {s : ByteArray} {w : World} (h : At w R s p 0) (hs : s.size ≤ 50000) (hp : p ≤ s.size) :
    Calls Tryd.prog 61 #[.pointer (some ⟨R, 0, none⟩)] w (ReadsRule R s 0 p w) := by
  have hR := h.lt
  have h1 := line_new w
  have h2 := line_new (w.alloc (.cells #[.string ⟨#[]⟩, .bool false, .int .i64 0, .string ⟨#[]⟩, .slice none 0 0, .int .i64 0, .int .i64 0, .slice none 0 0] 45))
  have hsz : (w.alloc (.cells #[.string ⟨#[]⟩, .bool false, .int .i64 0, .string ⟨#[]⟩, .slice none 0 0, .int .i64 0, .int .i64 0, .slice none 0 0] 45)).heap.size = w.heap.size + 1 := by simp
  rw [hsz] at h2
  have HL0 := Lib.hid (line_alloc h1 (.cells #[.string ⟨#[]⟩, .bool false, .int .i64 0, .string ⟨#[]⟩, .slice none 0 0, .int .i64 0, .int .i64 0, .slice none 0 0] 45))
  have HL1 := Lib.hid h2
  have HA := Lib.hid ((h.alloc (.cells #[.string ⟨#[]⟩, .bool false, .int .i64 0, .string ⟨#[]⟩, .slice none 0 0, .int .i64 0, .int .i64 0, .slice none 0 0] 45)).alloc (.cells #[.string ⟨#[]⟩, .bool false, .int .i64 0, .string ⟨#[]⟩, .slice none 0 0, .int .i64 0, .int .i64 0, .slice none 0 0] 45))
  have HG := Lib.hid (grown_alloc (World.grownBy_alloc w (.cells #[.string ⟨#[]⟩, .bool false, .int .i64 0, .string ⟨#[]⟩, .slice none 0 0, .int .i64 0, .int .i64 0, .slice none 0 0] 45) (some R)) (.cells #[.string ⟨#[]⟩, .bool false, .int .i64 0, .string ⟨#[]⟩, .slice none 0 0, .int .i64 0, .int .i64 0, .slice none 0 0] 45))
  have hz0 : w.heap.size + 2 ≤ ((w.alloc (.cells #[.string ⟨#[]⟩, .bool false, .int .i64 0, .string ⟨#[]⟩, .slice none 0 0, .int .i64 0, .int .i64 0, .slice none 0 0] 45)).alloc (.cells #[.string ⟨#[]⟩, .bool false, .int .i64 0, .string ⟨#[]⟩, .slice none 0 0, .int .i64 0, .int .i64 0, .slice none 0 0] 45)).heap.size := by simp
  clear h h1 h2 hsz
  cases hn : nameAt (rd s) p with
  | err c =>
    have HE := Lib.hid hn
    clear hn
    go_enter Tryd.func61, Tryd.ntmps61
    go_wp2_with fail
    refine (rname_any HA.out hs hp).mono ?_
    rw [HE.out]
    rintro e w1 ⟨rfl, hg⟩
    have HG1 := Lib.hid (HG.out.trans hg)
    clear hg
    go_wp2_with fail
    exact ⟨rfl, _, .name HE.out, rfl, HG1.out⟩
  | ok x q =>
    have HE := Lib.hid hn
    have hq0 := (nameAt_in hp hn).2
    clear hn
    go_enter Tryd.func61, Tryd.ntmps61
    go_wp2_with fail
    refine (rname_any HA.out hs hp).mono ?_
    rw [HE.out]
    rintro e w1 ⟨_, rfl, ha, hg⟩
    have hz1 : w.heap.size + 2 ≤ w1.heap.size := Nat.le_trans hz0 hg.size
    have hl1 := HL1.out.grown hg (by omega)
    obtain ⟨c0, z0⟩ := hl1.cell 0 _ rfl
    have HLa := Lib.hid ((HL0.out.grown hg (by omega)).other (j := 0) (k := w.heap.size + 1) (.string (strOf x)) (by omega))
    have HLb := Lib.hid (hl1.set (j := 0) (.string (strOf x)))
    have HA1 : Hid (At (w1.setCell ⟨w.heap.size + 1, 0, none⟩ (.string (strOf x))) R s q 0) := (Below.heap_setCell _ _ _ _ (show R ≠ w.heap.size + 1 by omega)).trans ha
    have HG1 : Hid (w.grownBy (w1.setCell ⟨w.heap.size + 1, 0, none⟩ (.string (strOf x))) (some R)) := by
      have h3 := HG.out.trans hg
      exact ⟨h3.os, h3.tape, h3.output, by simpa using h3.size, fun k hk hne => (Below.heap_setCell _ _ _ _ (show k ≠ w.heap.size + 1 by omega)).trans (h3.block k hk hne)⟩
    have hz2 : w.heap.size + 2 ≤ (w1.setCell ⟨w.heap.size + 1, 0, none⟩ (.string (strOf x))).heap.size := by simp; omega
    clear ha hg hl1 HL0 HL1 HA HG
    go_wp2_with fail
    obtain ⟨w2, hw2⟩ : ∃ y, y = w1.setCell ⟨w.heap.size + 1, 0, none⟩ (.string (strOf x)) := ⟨_, rfl⟩
    rw [← hw2] at HLa HLb HA1 HG1 hz2 ⊢
    clear hw2 c0 z0
    refine (space_any HA1.out hs hq0).mono ?_
    rintro e w3 ⟨q1, hsk, hle, hls, rfl, ha, hg⟩
    have HSK := Lib.hid hsk.eq
    have hz3 : w.heap.size + 2 ≤ w3.heap.size := Nat.le_trans hz2 hg.size
    have HLa3 := Lib.hid (HLa.out.grown hg (by omega))
    have HLb3 := Lib.hid (HLb.out.grown hg (by omega))
    have HA3 := Lib.hid ha
    have HG3 := Lib.hid (HG1.out.trans hg)
    clear hsk ha hg HLa HLb HA1 HG1
    by_cases h61 : rd s q1 = 61
    · have H61 : Hid (rd s (skipEnd (rd s) q) = 61) := by rw [HSK.out]; exact h61
      have H61b := Lib.hid h61
      have hlt := rd_lt (by omega) h61
      clear h61
      go_wp2_with fail
      refine (take_yes HA3.out hs 61 (by omega) H61b.out).mono ?_
      rintro e w4 ⟨rfl, ha, hg⟩
      have hz4 : w.heap.size + 2 ≤ w4.heap.size := Nat.le_trans hz3 hg.size
      have HLa4 := Lib.hid (HLa3.out.grown hg (by omega))
      have HLb4 := Lib.hid (HLb3.out.grown hg (by omega))
      have HA4 := Lib.hid ha
      have HG4 := Lib.hid (HG3.out.trans hg)
      clear ha hg HLa3 HLb3 HA3 HG3
      by_cases h47 : rd s (q1 + 1) = 47
      · have H47 := Lib.hid h47
        have HEQ : Hid (eqAt (rd s) q = q1 + 2 ∧ decide (rd s (skipEnd (rd s) q + 1) = 47) = true) := by
          unfold eqAt; rw [HSK.out, if_pos h47]; exact ⟨rfl, by simpa using h47⟩
        have hlt2 := rd_lt (by omega) h47
        clear h47
        go_wp2_with fail
        refine (taken_yes HA4.out hs 47 (by omega) H47.out).mono ?_
        rintro e w5 ⟨rfl, ha, hg⟩
        have hz5 : w.heap.size + 2 ≤ w5.heap.size := Nat.le_trans hz4 hg.size
        have hl5 := HLb4.out.grown hg (by omega)
        obtain ⟨c0, z0⟩ := hl5.cell 1 _ rfl
        have HLa5 := Lib.hid ((HLa4.out.grown hg (by omega)).other (j := 1) (k := w.heap.size + 1) (.bool true) (by omega))
        have HLb5 := Lib.hid (hl5.set (j := 1) (.bool true))
        have HA5 : Hid (At (w5.setCell ⟨w.heap.size + 1, 1, none⟩ (.bool true)) R s (q1 + 2) 0) := (Below.heap_setCell _ _ _ _ (show R ≠ w.heap.size + 1 by omega)).trans ha
        have HG5 : Hid (w.grownBy (w5.setCell ⟨w.heap.size + 1, 1, none⟩ (.bool true)) (some R)) := by
          have h3 := HG4.out.trans hg
          exact ⟨h3.os, h3.tape, h3.output, by simpa using h3.size, fun k hk hne => (Below.heap_setCell _ _ _ _ (show k ≠ w.heap.size + 1 by omega)).trans (h3.block k hk hne)⟩
        have hz6 : w.heap.size + 2 ≤ (w5.setCell ⟨w.heap.size + 1, 1, none⟩ (.bool true)).heap.size := by simp; omega
        clear ha hg hl5 HLa4 HLb4 HA4 HG4
        go_wp2_with fail
        obtain ⟨w6, hw6⟩ : ∃ y, y = w5.setCell ⟨w.heap.size + 1, 1, none⟩ (.bool true) := ⟨_, rfl⟩
        rw [← hw6] at HLa5 HLb5 HA5 HG5 hz6 ⊢
        clear hw6 c0 z0
        refine (space_any HA5.out hs (by omega)).mono ?_
        rintro e w7 ⟨q3, hsk, hle3, hls3, rfl, ha, hg⟩
        have HSK3 : Hid (skipEnd (rd s) (eqAt (rd s) q) = q3) := by rw [HEQ.out.1]; exact hsk.eq
        have hz7 : w.heap.size + 2 ≤ w7.heap.size := Nat.le_trans hz6 hg.size
        have HLa7 := Lib.hid (HLa5.out.grown hg (by omega))
        have HLb7 := Lib.hid (HLb5.out.grown hg (by omega))
        have HA7 := Lib.hid ha
        have HG7 := Lib.hid (HG5.out.trans hg)
        clear hsk ha hg HLa5 HLb5 HA5 HG5
        go_wp2_with fail
        refine (alts_all _ HA7.out hs hls3 (by omega) (Nat.le_refl _)).mono ?_
        rintro e w8 ⟨r, hans, hgv⟩
        cases r with
        | err c =>
          obtain ⟨rfl, hg⟩ := hgv
          have HANS : Hid (Ans (rd s) .alts 0 (skipEnd (rd s) (eqAt (rd s) q)) (.err c)) := by rw [HSK3.out]; exact hans
          have HG8 := Lib.hid (HG7.out.trans hg)
          clear hans hg
          go_wp2_with fail
          exact ⟨rfl, _, .err HE.out H61.out HANS.out, rfl, HG8.out⟩
        | ok t q4 =>
          obtain ⟨X, ht, hqs4, rfl, ha, hg⟩ := hgv
          have HANS : Hid (Ans (rd s) .alts 0 (skipEnd (rd s) (eqAt (rd s) q)) (.ok t q4)) := by rw [HSK3.out]; exact hans
          have h2 := one_cell_ns ht
          have h5 := one_cell_ks ht
          have H2 := Lib.hid h2
          have H5 := Lib.hid h5
          have hz8 : w.heap.size + 2 ≤ w8.heap.size := Nat.le_trans hz7 hg.size
          have HLb8 := Lib.hid (HLb7.out.grown hg (by omega))
          have HLb9 : Hid (Line8 (w8.setRow (w.heap.size + 1) (LV.arr ⟨strOf x, true, X⟩)) (w.heap.size + 1) (LV.arr ⟨strOf x, true, X⟩)) := HLb8.out.row _ rfl
          have HLa9 : Hid (Line8 (w8.setRow (w.heap.size + 1) (LV.arr ⟨strOf x, true, X⟩)) w.heap.size zeroL) := (HLa7.out.grown hg (by omega)).orow _ (by omega)
          have HA9 : Hid (At (w8.setRow (w.heap.size + 1) (LV.arr ⟨strOf x, true, X⟩)) R s q4 0) := ha.set_row (by omega) _
          have HG9 : Hid (w.grownBy (w8.setRow (w.heap.size + 1) (LV.arr ⟨strOf x, true, X⟩)) (some R)) := grown_row (HG7.out.trans hg) (by omega) _
          have HT9 : Hid (TreeAt (w8.setRow (w.heap.size + 1) (LV.arr ⟨strOf x, true, X⟩)) (fun b => w.heap.size + 2 ≤ b) X t) := (ht.weak (P' := fun b => w.heap.size + 2 ≤ b) (fun b hP _ => by omega)).set_row (fun b hP => by omega) _
          have hz9 : w.heap.size + 2 ≤ (w8.setRow (w.heap.size + 1) (LV.arr ⟨strOf x, true, X⟩)).heap.size := by simp; omega
          clear hans ha hg ht h2 h5 HLa7 HLb7 HA7 HG7
          go_wp2_with (refine store_expr rfl _ _ rfl (w.heap.size + 1) X _ _ _ rfl rfl HLb8.out (line_cells true) H2.out H5.out ?_)
          obtain ⟨w9, hw9⟩ : ∃ y, y = w8.setRow (w.heap.size + 1) (LV.arr ⟨strOf x, true, X⟩) := ⟨_, rfl⟩
          show Calls _ _ _ (w8.setRow (w.heap.size + 1) (LV.arr ⟨strOf x, true, X⟩)) _
          rw [← hw9] at HLb9 HLa9 HA9 HG9 HT9 hz9 ⊢
          clear hw9 HLb8
          cases hle : lineEnd (rd s) q4 with
          | none =>
            have HLE := Lib.hid hle
            clear hle
            refine (lineEnd_no HA9.out hs hqs4 HLE.out).mono ?_
            rintro e w10 ⟨rfl, hg⟩
            have HG10 := Lib.hid (HG9.out.trans hg)
            clear hg
            go_wp2_with fail
            exact ⟨rfl, _, .noEnd HE.out H61.out HANS.out HLE.out, rfl, HG10.out⟩
          | some e0 =>
            have HLE := Lib.hid hle
            have he0 := (end_le hqs4 hle).2
            clear hle
            refine (lineEnd_yes HA9.out hs hqs4 HLE.out).mono ?_
            rintro e w10 ⟨rfl, ha, hg⟩
            have HLa10 := Lib.hid (HLa9.out.grown hg (by omega))
            have HLb10 := Lib.hid (HLb9.out.grown hg (by omega))
            have HA10 := Lib.hid ha
            have HG10 := Lib.hid (HG9.out.trans hg)
            have HT10 := Lib.hid (HT9.out.kept (P' := fun b => w.heap.size + 2 ≤ b) (fun b hP hl => ⟨hg.block b hl (fun e => by have := Option.some.inj e; omega), hP⟩) hg.size)
            clear ha hg HLa9 HLb9 HA9 HG9 HT9
            go_wp2_with (first
              | (refine load_line rfl _ rfl (w.heap.size + 1) ⟨strOf x, true, X⟩ rfl HLb10.out ?_)
              | (refine store_line rfl _ _ rfl w.heap.size ⟨strOf x, true, X⟩ _ rfl rfl HLa10.out H2.out H5.out ?_))
            refine bodyPost_ret_by (run_line rfl _ _ w.heap.size ⟨strOf x, true, X⟩ _ rfl HLa10.out) rfl ⟨_, .ok HE.out H61.out HANS.out HLE.out, ⟨strOf x, true, X⟩, ⟨rfl, HEQ.out.2.symm, ?_⟩, he0, rfl, HA10.out.set_row (by omega) _, grown_row HG10.out (Nat.le_refl _) _⟩
            exact (HT10.out.set_row (fun b hb => by omega) _).weak (fun b hb _ => by omega)
      · have H47 := Lib.hid h47
        have HEQ : Hid (eqAt (rd s) q = q1 + 1 ∧ decide (rd s (skipEnd (rd s) q + 1) = 47) = false) := by
          unfold eqAt; rw [HSK.out, if_neg h47]; exact ⟨rfl, by simpa using h47⟩
        clear h47
        go_wp2_with fail
        refine (taken_no HA4.out hs hlt 47 (by omega) H47.out).mono ?_
        rintro e w5 ⟨rfl, ha, hg⟩
        have hz5 : w.heap.size + 2 ≤ w5.heap.size := Nat.le_trans hz4 hg.size
        have hl5 := HLb4.out.grown hg (by omega)
        obtain ⟨c0, z0⟩ := hl5.cell 1 _ rfl
        have HLa5 := Lib.hid ((HLa4.out.grown hg (by omega)).other (j := 1) (k := w.heap.size + 1) (.bool false) (by omega))
        have HLb5 := Lib.hid (hl5.set (j := 1) (.bool false))
        have HA5 : Hid (At (w5.setCell ⟨w.heap.size + 1, 1, none⟩ (.bool false)) R s (q1 + 1) 0) := (Below.heap_setCell _ _ _ _ (show R ≠ w.heap.size + 1 by omega)).trans ha
        have HG5 : Hid (w.grownBy (w5.setCell ⟨w.heap.size + 1, 1, none⟩ (.bool false)) (some R)) := by
          have h3 := HG4.out.trans hg
          exact ⟨h3.os, h3.tape, h3.output, by simpa using h3.size, fun k hk hne => (Below.heap_setCell _ _ _ _ (show k ≠ w.heap.size + 1 by omega)).trans (h3.block k hk hne)⟩
        have hz6 : w.heap.size + 2 ≤ (w5.setCell ⟨w.heap.size + 1, 1, none⟩ (.bool false)).heap.size := by simp; omega
        clear ha hg hl5 HLa4 HLb4 HA4 HG4
        go_wp2_with fail
        obtain ⟨w6, hw6⟩ : ∃ y, y = w5.setCell ⟨w.heap.size + 1, 1, none⟩ (.bool false) := ⟨_, rfl⟩
        rw [← hw6] at HLa5 HLb5 HA5 HG5 hz6 ⊢
        clear hw6 c0 z0
        refine (space_any HA5.out hs (by omega)).mono ?_
        rintro e w7 ⟨q3, hsk, hle3, hls3, rfl, ha, hg⟩
        have HSK3 : Hid (skipEnd (rd s) (eqAt (rd s) q) = q3) := by rw [HEQ.out.1]; exact hsk.eq
        have hz7 : w.heap.size + 2 ≤ w7.heap.size := Nat.le_trans hz6 hg.size
        have HLa7 := Lib.hid (HLa5.out.grown hg (by omega))
        have HLb7 := Lib.hid (HLb5.out.grown hg (by omega))
        have HA7 := Lib.hid ha
        have HG7 := Lib.hid (HG5.out.trans hg)
        clear hsk ha hg HLa5 HLb5 HA5 HG5
        go_wp2_with fail
        refine (alts_all _ HA7.out hs hls3 (by omega) (Nat.le_refl _)).mono ?_
        rintro e w8 ⟨r, hans, hgv⟩
        cases r with
        | err c =>
          obtain ⟨rfl, hg⟩ := hgv
          have HANS : Hid (Ans (rd s) .alts 0 (skipEnd (rd s) (eqAt (rd s) q)) (.err c)) := by rw [HSK3.out]; exact hans
          have HG8 := Lib.hid (HG7.out.trans hg)
          clear hans hg
          go_wp2_with fail
          exact ⟨rfl, _, .err HE.out H61.out HANS.out, rfl, HG8.out⟩
        | ok t q4 =>
          obtain ⟨X, ht, hqs4, rfl, ha, hg⟩ := hgv
          have HANS : Hid (Ans (rd s) .alts 0 (skipEnd (rd s) (eqAt (rd s) q)) (.ok t q4)) := by rw [HSK3.out]; exact hans
          have h2 := one_cell_ns ht
          have h5 := one_cell_ks ht
          have H2 := Lib.hid h2
          have H5 := Lib.hid h5
          have hz8 : w.heap.size + 2 ≤ w8.heap.size := Nat.le_trans hz7 hg.size
          have HLb8 := Lib.hid (HLb7.out.grown hg (by omega))
          have HLb9 : Hid (Line8 (w8.setRow (w.heap.size + 1) (LV.arr ⟨strOf x, false, X⟩)) (w.heap.size + 1) (LV.arr ⟨strOf x, false, X⟩)) := HLb8.out.row _ rfl
          have HLa9 : Hid (Line8 (w8.setRow (w.heap.size + 1) (LV.arr ⟨strOf x, false, X⟩)) w.heap.size zeroL) := (HLa7.out.grown hg (by omega)).orow _ (by omega)
          have HA9 : Hid (At (w8.setRow (w.heap.size + 1) (LV.arr ⟨strOf x, false, X⟩)) R s q4 0) := ha.set_row (by omega) _
          have HG9 : Hid (w.grownBy (w8.setRow (w.heap.size + 1) (LV.arr ⟨strOf x, false, X⟩)) (some R)) := grown_row (HG7.out.trans hg) (by omega) _
          have HT9 : Hid (TreeAt (w8.setRow (w.heap.size + 1) (LV.arr ⟨strOf x, false, X⟩)) (fun b => w.heap.size + 2 ≤ b) X t) := (ht.weak (P' := fun b => w.heap.size + 2 ≤ b) (fun b hP _ => by omega)).set_row (fun b hP => by omega) _
          have hz9 : w.heap.size + 2 ≤ (w8.setRow (w.heap.size + 1) (LV.arr ⟨strOf x, false, X⟩)).heap.size := by simp; omega
          clear hans ha hg ht h2 h5 HLa7 HLb7 HA7 HG7
          go_wp2_with (refine store_expr rfl _ _ rfl (w.heap.size + 1) X _ _ _ rfl rfl HLb8.out (line_cells false) H2.out H5.out ?_)
          obtain ⟨w9, hw9⟩ : ∃ y, y = w8.setRow (w.heap.size + 1) (LV.arr ⟨strOf x, false, X⟩) := ⟨_, rfl⟩
          show Calls _ _ _ (w8.setRow (w.heap.size + 1) (LV.arr ⟨strOf x, false, X⟩)) _
          rw [← hw9] at HLb9 HLa9 HA9 HG9 HT9 hz9 ⊢
          clear hw9 HLb8
          cases hle : lineEnd (rd s) q4 with
          | none =>
            have HLE := Lib.hid hle
            clear hle
            refine (lineEnd_no HA9.out hs hqs4 HLE.out).mono ?_
            rintro e w10 ⟨rfl, hg⟩
            have HG10 := Lib.hid (HG9.out.trans hg)
            clear hg
            go_wp2_with fail
            exact ⟨rfl, _, .noEnd HE.out H61.out HANS.out HLE.out, rfl, HG10.out⟩
          | some e0 =>
            have HLE := Lib.hid hle
            have he0 := (end_le hqs4 hle).2
            clear hle
            refine (lineEnd_yes HA9.out hs hqs4 HLE.out).mono ?_
            rintro e w10 ⟨rfl, ha, hg⟩
            have HLa10 := Lib.hid (HLa9.out.grown hg (by omega))
            have HLb10 := Lib.hid (HLb9.out.grown hg (by omega))
            have HA10 := Lib.hid ha
            have HG10 := Lib.hid (HG9.out.trans hg)
            have HT10 := Lib.hid (HT9.out.kept (P' := fun b => w.heap.size + 2 ≤ b) (fun b hP hl => ⟨hg.block b hl (fun e => by have := Option.some.inj e; omega), hP⟩) hg.size)
            clear ha hg HLa9 HLb9 HA9 HG9 HT9
            go_wp2_with (first
              | (refine load_line rfl _ rfl (w.heap.size + 1) ⟨strOf x, false, X⟩ rfl HLb10.out ?_)
              | (refine store_line rfl _ _ rfl w.heap.size ⟨strOf x, false, X⟩ _ rfl rfl HLa10.out H2.out H5.out ?_))
            refine bodyPost_ret_by (run_line rfl _ _ w.heap.size ⟨strOf x, false, X⟩ _ rfl HLa10.out) rfl ⟨_, .ok HE.out H61.out HANS.out HLE.out, ⟨strOf x, false, X⟩, ⟨rfl, HEQ.out.2.symm, ?_⟩, he0, rfl, HA10.out.set_row (by omega) _, grown_row HG10.out (Nat.le_refl _) _⟩
            exact (HT10.out.set_row (fun b hb => by omega) _).weak (fun b hb _ => by omega)
    · have H61 : Hid (rd s (skipEnd (rd s) q) ≠ 61) := by rw [HSK.out]; exact h61
      have H61b := Lib.hid h61
      clear h61
      go_wp2_with fail
      refine (take_no HA3.out hs hls 61 (by omega) H61b.out).mono ?_
      rintro e w4 ⟨rfl, hg⟩
      have HG4 := Lib.hid (HG3.out.trans hg)
      clear hg
      go_wp2_with fail
      exact ⟨rfl, _, .noEq HE.out H61.out, rfl, HG4.out⟩

end Go.Proofs.YtlaglkbcladfbaaDoor
