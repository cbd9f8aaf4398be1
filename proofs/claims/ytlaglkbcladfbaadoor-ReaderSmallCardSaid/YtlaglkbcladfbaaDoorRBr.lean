/- What stands in brackets is read by the program as the words say, if alternatives further on are. -/
import Derived.Test.YtlaglkbcladfbaaDoorRAlts
namespace Go.Proofs.YtlaglkbcladfbaaDoor
open Go.RowKit
set_option linter.unusedVariables false
set_option linter.unusedSimpArgs false

/-- What the brackets that open at p come to. -/
inductive InBr (f : Nat → Int) (d p : Nat) (cl : Int) : Got Tree → Prop
  | deep : d = 50 → InBr f d p cl (.err 2)
  | err {c : Int} : d < 50 → Ans f .alts (d + 1) (skipEnd f (p + 1)) (.err c) → InBr f d p cl (.err c)
  | opened {t : Tree} {q : Nat} : d < 50 → Ans f .alts (d + 1) (skipEnd f (p + 1)) (.ok t q) → f q ≠ cl → InBr f d p cl (.err 20)
  | ok {t : Tree} {q : Nat} : d < 50 → Ans f .alts (d + 1) (skipEnd f (p + 1)) (.ok t q) → f q = cl → InBr f d p cl (.ok t (q + 1))

/-- The call reads what is in brackets. -/
def ReadsBr (R : Nat) (s : ByteArray) (d p : Nat) (cl : Int) (w : World) (e : Ending) (w' : World) : Prop := ∃ r : Got Tree, InBr (rd s) d p cl r ∧ GivesTree R s d r w e w'

theorem At.putd {w : World} {R : Nat} {s : ByteArray} {p d : Nat} (h : At w R s p d) {x : Int} {q : Nat} (hx : x = q) : At (w.setCell ⟨R, 2, none⟩ (.int .i64 x)) R s p q := by rw [hx]; exact h.setd q
theorem res_cell {W : World} {g R k : Nat} {v : Value} (hr : Res0 W g) (hne : g ≠ R) : Res0 (W.setCell ⟨R, k, none⟩ v) g := hr.kept (Below.heap_setCell _ _ _ _ hne)
theorem TreeAt.cell {W : World} {P : Nat → Prop} {x : XV} {t : Tree} {R k : Nat} {v : Value} (h : TreeAt W P x t) (hR : ∀ b, P b → b ≠ R) : TreeAt (W.setCell ⟨R, k, none⟩ v) P x t :=
  h.kept (fun b hP hl => ⟨Below.heap_setCell _ _ _ _ (hR b hP), hP⟩) (by simp)

set_option maxRecDepth 100000 in
set_option maxHeartbeats 4000000 in
theorem bracketed_any {R p d : Nat} {s : ByteArray} {w : World} (o cl : Int) (ho0 : 0 < o) (hcl0 : 0 < cl) (hel : ∀ k', k' < s.size - p → AskTo 85 .alts k') (h : At w R s p d) (hs : s.size ≤ 50000) (hd : d ≤ 50) (ho : rd s p = o) :
    Calls Tryd.prog 160 #[.pointer (some ⟨R, 0, none⟩), .int .u8 o, .int .u8 cl] w (ReadsBr R s d p cl w) := by
  have hR := h.lt
  have hlt := rd_lt (by omega) ho
  have HR := Lib.hid (res_new w)
  have HA := Lib.hid (h.alloc (.cells #[.int .i64 0, .string ⟨#[]⟩, .slice none 0 0, .int .i64 0, .int .i64 0, .slice none 0 0] 43))
  have HG := Lib.hid (World.grownBy_alloc w (.cells #[.int .i64 0, .string ⟨#[]⟩, .slice none 0 0, .int .i64 0, .int .i64 0, .slice none 0 0] 43) (some R))
  have HO := Lib.hid ho
  have HEL : Hid (∀ k', k' < s.size - p → AskTo 85 .alts k') := hel
  clear h hel ho
  go_enter Tryd.func160, Tryd.ntmps160
  go_wp2_with fail
  refine (take_yes HA.out hs o ho0 HO.out).mono ?_
  rintro e w1 ⟨rfl, ha, hg⟩
  have hz1 : w.heap.size + 1 ≤ w1.heap.size := by have := hg.size; simp at this; omega
  have HR1 := Lib.hid (res_kept HR.out hg (by omega))
  have HA1 := Lib.hid ha
  have HG1 := Lib.hid (HG.out.trans hg)
  obtain ⟨c0, c1, c2, z0, z1, z2⟩ := ha.cells
  clear ha hg HR HA HG
  by_cases h50 : d = 50
  · have hq : decide ((d : Int) = 50) = true := decide_eq_true (by omega)
    have hq2 : ((d : Int) == 50) = true := by simp; omega
    have HD := Lib.hid h50
    clear h50
    go_wp2_with fail
    refine (fail_any _ _).mono ?_
    rintro e w5 ⟨rfl, rfl⟩
    go_wp2_with fail
    exact ⟨rfl, _, .deep HD.out, rfl, HG1.out⟩
  · have hq : decide ((d : Int) = 50) = false := decide_eq_false (by omega)
    have hq2 : ((d : Int) == 50) = false := by simp; omega
    have hd2 : d + 1 ≤ 50 := by omega
    go_wp2_with fail
    have HA2 := Lib.hid (HA1.out.putd (x := (d : Int) + 1) (q := d + 1) (by omega))
    have HG2 := Lib.hid (grown_set HG1.out 2 (.int .i64 ((d : Int) + 1)))
    have HR2 := Lib.hid (res_cell (k := 2) (v := .int .i64 ((d : Int) + 1)) HR1.out (show w.heap.size ≠ R by omega))
    refine (space_any HA2.out hs (by omega)).mono ?_
    rintro e w3 ⟨q, hsk, hle, hls, rfl, ha, hg⟩
    have HSK := Lib.hid hsk.eq
    have hz3 : w.heap.size + 1 ≤ w3.heap.size := by have := hg.size; simp at this; omega
    have HA3 := Lib.hid ha
    have HG3 := Lib.hid (HG2.out.trans hg)
    have HR3 := Lib.hid (res_kept HR2.out hg (by omega))
    clear hsk ha hg HA2 HG2 HR2 HA1 HG1 HR1
    go_wp2_with fail
    refine (HEL.out (s.size - q) (by omega) HA3.out hs hls hd2 (Nat.le_refl _)).mono ?_
    rintro e w4 ⟨r, hans, hgv⟩
    cases r with
    | err c =>
      obtain ⟨rfl, hg⟩ := hgv
      have HANS : Hid (Ans (rd s) .alts (d + 1) (skipEnd (rd s) (p + 1)) (.err c)) := by rw [HSK.out]; exact hans
      have HG4 := Lib.hid (HG3.out.trans hg)
      clear hans hg
      go_wp2_with fail
      exact ⟨rfl, _, .err (by omega) HANS.out, rfl, HG4.out⟩
    | ok t q2 =>
      obtain ⟨x, ht, hqs, rfl, ha, hg⟩ := hgv
      have HANS : Hid (Ans (rd s) .alts (d + 1) (skipEnd (rd s) (p + 1)) (.ok t q2)) := by rw [HSK.out]; exact hans
      have h2 := one_cell_ns ht
      have h5 := one_cell_ks ht
      have H2 := Lib.hid h2
      have H5 := Lib.hid h5
      have hz4 : w.heap.size + 1 ≤ w4.heap.size := by have := hg.size; omega
      have HG4 : Hid (w.grownBy ((w4.alloc (.cells #[.int .i64 0, .string ⟨#[]⟩, .slice none 0 0, .int .i64 0, .int .i64 0, .slice none 0 0] 43)).setRow w4.heap.size x.arr) (some R)) := grown_row (grown_alloc (HG3.out.trans hg) _) (by omega) _
      have HA4 : Hid (At ((w4.alloc (.cells #[.int .i64 0, .string ⟨#[]⟩, .slice none 0 0, .int .i64 0, .int .i64 0, .slice none 0 0] 43)).setRow w4.heap.size x.arr) R s q2 (d + 1)) := (ha.alloc _).set_row (by have := ha.lt; omega) _
      have HR4 : Hid (Res0 ((w4.alloc (.cells #[.int .i64 0, .string ⟨#[]⟩, .slice none 0 0, .int .i64 0, .int .i64 0, .slice none 0 0] 43)).setRow w4.heap.size x.arr) w.heap.size) := res_put (res_alloc (res_kept HR3.out hg (by omega)) _) _ (by omega)
      have HB4 : Hid (((w4.alloc (.cells #[.int .i64 0, .string ⟨#[]⟩, .slice none 0 0, .int .i64 0, .int .i64 0, .slice none 0 0] 43)).setRow w4.heap.size x.arr).heap[w4.heap.size]? = some (.cells x.arr 43 (0, 0))) := res_row (res_new w4) _
      have HT4 : Hid (TreeAt ((w4.alloc (.cells #[.int .i64 0, .string ⟨#[]⟩, .slice none 0 0, .int .i64 0, .int .i64 0, .slice none 0 0] 43)).setRow w4.heap.size x.arr) (fun b => w.heap.size + 1 ≤ b ∧ b ≠ w4.heap.size) x t) := by
        have h1 := ht.weak (P' := fun b => w.heap.size + 1 ≤ b ∧ b ≠ w4.heap.size) (fun b hP hl => ⟨by omega, by omega⟩)
        have h3 := h1.under (W' := w4.alloc (.cells #[.int .i64 0, .string ⟨#[]⟩, .slice none 0 0, .int .i64 0, .int .i64 0, .slice none 0 0] 43)) ((Below.refl _ _).alloc (Nat.le_refl _) _)
        exact h3.set_row (fun b hP => hP.2) _
      have hz5 : w4.heap.size < ((w4.alloc (.cells #[.int .i64 0, .string ⟨#[]⟩, .slice none 0 0, .int .i64 0, .int .i64 0, .slice none 0 0] 43)).setRow w4.heap.size x.arr).heap.size := by simp [World.setRow]
      clear hans ha hg ht h2 h5 HA3 HG3 HR3
      go_wp2_with (refine store_res rfl _ _ rfl w4.heap.size x rfl rfl (res_new w4) H2.out H5.out ?_)
      obtain ⟨w5, hw5⟩ : ∃ y, y = (w4.alloc (.cells #[.int .i64 0, .string ⟨#[]⟩, .slice none 0 0, .int .i64 0, .int .i64 0, .slice none 0 0] 43)).setRow w4.heap.size x.arr := ⟨_, rfl⟩
      rw [← hw5] at HG4 HA4 HR4 HB4 HT4 hz5 ⊢
      clear hw5
      by_cases hcl : rd s q2 = cl
      · have HCL := Lib.hid hcl
        have hlt2 := rd_lt (by omega) hcl
        clear hcl
        refine (take_yes HA4.out hs cl hcl0 HCL.out).mono ?_
        rintro e w6 ⟨rfl, ha, hg⟩
        have hz6 : w5.heap.size ≤ w6.heap.size := hg.size
        obtain ⟨c0', c1', c2', z0', z1', z2'⟩ := ha.cells
        have HA6 : Hid (At (w6.setCell ⟨R, 2, none⟩ (.int .i64 (d : Int))) R s (q2 + 1) d) := ha.putd rfl
        have HG6 := Lib.hid (grown_set (HG4.out.trans hg) 2 (.int .i64 (d : Int)))
        have HR6 := Lib.hid (res_cell (k := 2) (v := .int .i64 (d : Int)) (res_kept HR4.out hg (by omega)) (show w.heap.size ≠ R by omega))
        have HB6 : Hid ((w6.setCell ⟨R, 2, none⟩ (.int .i64 (d : Int))).heap[w4.heap.size]? = some (.cells x.arr 43 (0, 0))) := by
          have e1 := Below.heap_setCell w6 ⟨R, 2, none⟩ (.int .i64 (d : Int)) w4.heap.size (show w4.heap.size ≠ R by omega)
          exact e1.trans ((hg.block w4.heap.size hz5 (fun e => by have := Option.some.inj e; omega)).trans HB4.out)
        have HT6 : Hid (TreeAt (w6.setCell ⟨R, 2, none⟩ (.int .i64 (d : Int))) (fun b => w.heap.size + 1 ≤ b ∧ b ≠ w4.heap.size) x t) := by
          have h1 := HT4.out.kept (W' := w6) (P' := fun b => w.heap.size + 1 ≤ b ∧ b ≠ w4.heap.size) (fun b hP hl => ⟨hg.block b hl (fun e => by have := Option.some.inj e; omega), hP⟩) hz6
          exact h1.cell (fun b hP => by omega)
        clear ha hg HA4 HG4 HR4 HB4 HT4 c0 c1 c2 z0 z1 z2 hq hq2
        have hsub : ((d + 1 : Nat) : Int) - 1 = (d : Int) := by omega
        have hd0 : (0 : Int) ≤ (d : Int) := by omega
        go_wp2_with (first
          | (refine load_res rfl _ rfl w4.heap.size x rfl HB6.out ?_)
          | (refine store_res rfl _ _ rfl w.heap.size x rfl rfl HR6.out H2.out H5.out ?_))
        refine bodyPost_ret_by (run_res rfl _ _ w.heap.size x rfl HR6.out) rfl ⟨_, .ok (by omega) HANS.out HCL.out, x, ?_, hlt2, rfl, HA6.out.set_row (by omega) _, grown_row HG6.out (Nat.le_refl _) _⟩
        exact (HT6.out.set_row (fun b hb => by omega) _).weak (fun b hb _ => by omega)
      · have HCL := Lib.hid hcl
        clear hcl
        refine (take_no HA4.out hs hqs cl hcl0 HCL.out).mono ?_
        rintro e w6 ⟨rfl, hg⟩
        have HG6 := Lib.hid (HG4.out.trans hg)
        clear hg
        go_wp2_with fail
        exact ⟨rfl, _, .opened (by omega) HANS.out HCL.out, rfl, HG6.out⟩

end Go.Proofs.YtlaglkbcladfbaaDoor
