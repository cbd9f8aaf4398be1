/- A repetition is read by the program as the words say, if elements are. -/
import Derived.Test.YtlaglkbcladfbaaDoorRBound
import Derived.Great.BuildSlice
import Derived.KernelRfl
namespace Go.Proofs.YtlaglkbcladfbaaDoor
open Go.RowKit
set_option linter.unusedVariables false
set_option linter.unusedSimpArgs false

/-- Alternatives, concatenations, repetitions, elements with at most k bytes ahead are read as the words say. -/
def AskTo (f : Nat) (a : Ask) (k : Nat) : Prop := ∀ {R p d : Nat} {s : ByteArray} {w : World}, At w R s p d → s.size ≤ 50000 → p ≤ s.size → d ≤ 50 → s.size - p ≤ k →
  Calls Tryd.prog f #[.pointer (some ⟨R, 0, none⟩)] w (Reads R s d a p w)

/-- Reading a whole expression out of a block. -/
theorem load_res {ops : Array Oper} {rest : List Oper} {o : Oper} {a : Act} {w : World} {Q : Exit → Act → World → Prop} (hgd : o.guard = none) (x : Operand) (ho : o.op = .load 43 x)
    (g : Nat) (X : XV) (hx : a.eval x = .pointer (some ⟨g, 0, none⟩)) (hg : w.heap[g]? = some (.cells X.arr 43 (0, 0)))
    (h : wpList Tryd.prog ops Q rest (a.put o.dst X.val) w) : wpList Tryd.prog ops Q (o :: rest) a w :=
  wpList_load_row hgd 43 x ho g hx 43 X.arr (0, 0) _ hg Tryd.underlying43 rfl sizeX h

theorem infoX : (Tryd.prog.info? 43).map (fun i => (i.zero, i.size, i.bytes)) = some (some (.agg #[.int .i64 0, .string ⟨#[]⟩, .slice none 0 0, .int .i64 0, .int .i64 0, .slice none 0 0]), 6, 88) := by kernel_rfl

theorem fill_one (X : XV) (h1 : X.ns.oneCell' = true) (h2 : X.ks.oneCell' = true) :
    Instr.fill (fun i => some (i * 6, 6)) ((Array.range (1 * 6)).map ((Value.agg #[.int .i64 0, .string ⟨#[]⟩, .slice none 0 0, .int .i64 0, .int .i64 0, .slice none 0 0]).cells[· % 6]!)) [(0, X.val)] = some X.arr := by
  cases X
  kernel_rfl

/-- A slice of one expression. -/
theorem build_one {ops : Array Oper} {rest : List Oper} {o : Oper} {a : Act} {w : World} {Q : Exit → Act → World → Prop} (hgd : o.guard = none) (y : Operand) (ho : o.op = .buildSlice 41 1 #[(0, y)])
    (X : XV) (hy : a.eval y = X.val) (h1 : X.ns.oneCell' = true) (h2 : X.ks.oneCell' = true)
    (h : wpList Tryd.prog ops Q rest (a.put o.dst (.slice (some ⟨w.heap.size, 0, none⟩) 1 1)) (w.alloc (.cells X.arr 43))) : wpList Tryd.prog ops Q (o :: rest) a w := by
  obtain ⟨i0, hi0, hi1⟩ := Option.map_eq_some_iff.1 infoX
  obtain ⟨hz0, hz1, hz2⟩ : i0.zero = some _ ∧ i0.size = 6 ∧ i0.bytes = _ := by simpa using hi1
  refine wpList_buildSlice hgd 41 43 1 #[(0, y)] ho X.arr i0 _ Tryd.underlying41 hi0 hz0 (by rw [hz1]; decide) (by rw [hz1]; decide) ?_ h
  rw [hz1]
  simp only [List.map_toArray, List.map_cons, List.map_nil, hy]
  exact fill_one X h1 h2

theorem res_put {W : World} {g h : Nat} (hr : Res0 W g) (cs : Array Value) (hne : g ≠ h) : Res0 (W.setRow h cs) g := hr.kept (setRow_other _ _ _ _ hne)
theorem res_row {W : World} {g : Nat} (hr : Res0 W g) (cs : Array Value) : (W.setRow g cs).heap[g]? = some (.cells cs 43 (0, 0)) := by
  obtain ⟨c, _, h⟩ := hr
  exact setRow_heap _ _ _ _ _ _ h

def zx : Obj := .cells #[.int .i64 0, .string ⟨#[]⟩, .slice none 0 0, .int .i64 0, .int .i64 0, .slice none 0 0] 43

set_option maxRecDepth 100000 in
set_option maxHeartbeats 1000000 in
theorem rep_step {k : Nat} (hel : AskTo 146 .elem k) : AskTo 128 .rep k := by
  intro R p d s w h hs hp hd hk
  have hR := h.lt
  have HR := Lib.hid (res_new w)
  have HA := Lib.hid (h.alloc (.cells #[.int .i64 0, .string ⟨#[]⟩, .slice none 0 0, .int .i64 0, .int .i64 0, .slice none 0 0] 43))
  have HG := Lib.hid (World.grownBy_alloc w (.cells #[.int .i64 0, .string ⟨#[]⟩, .slice none 0 0, .int .i64 0, .int .i64 0, .slice none 0 0] 43) (some R))
  have HEL : Hid (AskTo 146 .elem k) := @hel
  clear h hel
  cases hn : countAt (rd s) p with
  | err c =>
    have HE := Lib.hid hn
    clear hn
    go_enter Tryd.func128, Tryd.ntmps128
    go_wp2_with fail
    refine (count_any HA.out hs hp).mono ?_
    rw [HE.out]
    rintro e w1 ⟨rfl, hg⟩
    have HG1 := Lib.hid (HG.out.trans hg)
    clear hg
    go_wp2_with fail
    exact ⟨rfl, _, .repCount HE.out, rfl, HG1.out⟩
  | ok y q =>
    obtain ⟨lo, hi, b⟩ := y
    have HE := Lib.hid hn
    obtain ⟨hpq, hqs⟩ := countAt_in hp hn
    clear hn
    go_enter Tryd.func128, Tryd.ntmps128
    go_wp2_with fail
    refine (count_any HA.out hs hp).mono ?_
    rw [HE.out]
    rintro e w1 ⟨_, rfl, ha, hg⟩
    have hz1 : w.heap.size + 1 ≤ w1.heap.size := by have := hg.size; simp at this; omega
    have HR1 := Lib.hid (res_kept HR.out hg (by omega))
    have HA1 := Lib.hid ha
    have HG1 := Lib.hid (HG.out.trans hg)
    clear ha hg HR HA HG
    simp only [cval]
    go_wp2_with fail
    refine (HEL.out HA1.out hs hqs hd (by omega)).mono ?_
    rintro e w2 ⟨r, hans, hgv⟩
    cases r with
    | err c =>
      obtain ⟨rfl, hg⟩ := hgv
      have HANS := Lib.hid hans
      have HG2 := Lib.hid (HG1.out.trans hg)
      clear hans hg
      go_wp2_with fail
      exact ⟨rfl, _, .repErr HE.out HANS.out, rfl, HG2.out⟩
    | ok t q' =>
      obtain ⟨x, ht, hq', rfl, ha, hg⟩ := hgv
      have HANS := Lib.hid hans
      have hz2 : w1.heap.size ≤ w2.heap.size := hg.size
      have HR2 := Lib.hid (res_alloc (res_kept HR1.out hg (by omega)) (.cells #[.int .i64 0, .string ⟨#[]⟩, .slice none 0 0, .int .i64 0, .int .i64 0, .slice none 0 0] 43))
      have HA2 := Lib.hid ha
      have HG2 := Lib.hid (HG1.out.trans hg)
      obtain ⟨h2, h5⟩ : x.ns.oneCell' = true ∧ x.ks.oneCell' = true := ⟨one_cell_ns ht, one_cell_ks ht⟩
      have H2 := Lib.hid h2
      have H5 := Lib.hid h5
      have HT := Lib.hid ht
      clear hans ha hg h2 h5 ht HR1 HA1 HG1
      have hz3 : w.heap.size < w2.heap.size := by omega
      -- the world behind the element's own block
      have HT3 : Hid (TreeAt ((w2.alloc (.cells #[.int .i64 0, .string ⟨#[]⟩, .slice none 0 0, .int .i64 0, .int .i64 0, .slice none 0 0] 43)).setRow w2.heap.size x.arr) (fun b => w1.heap.size ≤ b ∧ b ≠ w2.heap.size) x t) := by
        have h1 := HT.out.weak (P' := fun b => w1.heap.size ≤ b ∧ b ≠ w2.heap.size) (fun b hP hl => ⟨hP, by omega⟩)
        have h3 := h1.under (W' := w2.alloc (.cells #[.int .i64 0, .string ⟨#[]⟩, .slice none 0 0, .int .i64 0, .int .i64 0, .slice none 0 0] 43)) ((Below.refl _ _).alloc (Nat.le_refl _) _)
        exact h3.set_row (fun b hP => hP.2) _
      have HG3 : Hid (w.grownBy ((w2.alloc (.cells #[.int .i64 0, .string ⟨#[]⟩, .slice none 0 0, .int .i64 0, .int .i64 0, .slice none 0 0] 43)).setRow w2.heap.size x.arr) (some R)) := grown_row (grown_alloc HG2.out _) (by omega) _
      have HA3 : Hid (At ((w2.alloc (.cells #[.int .i64 0, .string ⟨#[]⟩, .slice none 0 0, .int .i64 0, .int .i64 0, .slice none 0 0] 43)).setRow w2.heap.size x.arr) R s q' d) := (HA2.out.alloc _).set_row (by have := HA2.out.lt; omega) _
      have HR3 : Hid (Res0 ((w2.alloc (.cells #[.int .i64 0, .string ⟨#[]⟩, .slice none 0 0, .int .i64 0, .int .i64 0, .slice none 0 0] 43)).setRow w2.heap.size x.arr) w.heap.size) := res_put HR2.out _ (by omega)
      cases b with
      | false =>
        go_wp2_with (first
          | (refine store_res rfl _ _ rfl w2.heap.size x rfl rfl (res_new w2) H2.out H5.out ?_)
          | (refine load_res rfl _ rfl w2.heap.size x rfl (res_row (res_new w2) _) ?_)
          | (refine store_res rfl _ _ rfl w.heap.size x rfl rfl HR3.out H2.out H5.out ?_))
        refine bodyPost_ret_by (run_res rfl _ _ w.heap.size x rfl HR3.out) rfl ⟨_, .repBare HE.out HANS.out, x, ?_, hq', rfl, HA3.out.set_row (by omega) _, grown_row HG3.out (Nat.le_refl _) _⟩
        exact (HT3.out.set_row (fun b hP => by omega) _).weak (fun b hP _ => by omega)
      | true =>
        by_cases hbad : 0 ≤ hi ∧ hi < lo
        · have q1 : decide (0 ≤ hi) = true := decide_eq_true hbad.1
          have q2 : decide (hi < lo) = true := decide_eq_true hbad.2
          have HBAD := Lib.hid hbad
          clear hbad
          go_wp2_with (refine store_res rfl _ _ rfl w2.heap.size x rfl rfl (res_new w2) H2.out H5.out ?_)
          refine (fail_any _ _).mono ?_
          rintro e w5 ⟨rfl, rfl⟩
          go_wp2_with fail
          exact ⟨rfl, _, .repLess HE.out HANS.out HBAD.out, rfl, HG3.out⟩
        · have fin : ∀ W : World, W = (w2.alloc (.cells #[.int .i64 0, .string ⟨#[]⟩, .slice none 0 0, .int .i64 0, .int .i64 0, .slice none 0 0] 43)).setRow w2.heap.size x.arr → Res0 (W.alloc (.cells x.arr 43)) w.heap.size ∧
              Reads R s d .rep p w (.returned (XV.val ⟨3, ⟨#[]⟩, .slice none 0 0, lo, hi, .slice (some ⟨w2.heap.size + 1, 0, none⟩) 1 1⟩)) ((W.alloc (.cells x.arr 43)).setRow w.heap.size (XV.arr ⟨3, ⟨#[]⟩, .slice none 0 0, lo, hi, .slice (some ⟨w2.heap.size + 1, 0, none⟩) 1 1⟩)) := by
            intro W hW
            subst hW
            refine ⟨res_alloc HR3.out _, _, .repOk HE.out HANS.out hbad, _, ?_, hq', rfl, (HA3.out.alloc _).set_row (by omega) _, grown_row (grown_alloc HG3.out _) (Nat.le_refl _) _⟩
            have hsz : w2.heap.size + 1 = ((w2.alloc (.cells #[.int .i64 0, .string ⟨#[]⟩, .slice none 0 0, .int .i64 0, .int .i64 0, .slice none 0 0] 43)).setRow w2.heap.size x.arr).heap.size := by simp [World.setRow]
            have hk := KidsAt.one (W := (w2.alloc (.cells #[.int .i64 0, .string ⟨#[]⟩, .slice none 0 0, .int .i64 0, .int .i64 0, .slice none 0 0] 43)).setRow w2.heap.size x.arr) (W' := (((w2.alloc (.cells #[.int .i64 0, .string ⟨#[]⟩, .slice none 0 0, .int .i64 0, .int .i64 0, .slice none 0 0] 43)).setRow w2.heap.size x.arr).alloc (.cells x.arr 43))) (base := w.heap.size + 1) (g := w2.heap.size + 1)
              (HT3.out.weak (fun b hP _ => by omega)) (by omega) (by omega) (by rw [hsz]; exact heap_alloc_new _ _) (fun b _ hl => heap_alloc_old _ _ hl) (by simp)
            exact ((hk.tree 3 lo hi).set_row (fun b hb => by omega) _).weak (fun b hb _ => by omega)
          have HF := Lib.hid (fin _ rfl)
          clear fin
          by_cases hlo : 0 ≤ hi
          · have q1 : decide (0 ≤ hi) = true := decide_eq_true hlo
            have q2 : decide (hi < lo) = false := decide_eq_false (fun h => hbad ⟨hlo, h⟩)
            clear hbad
            go_wp2_with (first
              | (refine store_res rfl _ _ rfl w2.heap.size x rfl rfl (res_new w2) H2.out H5.out ?_)
              | (refine load_res rfl _ rfl w2.heap.size x rfl (res_row (res_new w2) _) ?_)
              | (refine build_one rfl _ rfl x rfl H2.out H5.out ?_)
              | (refine store_res rfl _ _ rfl w.heap.size ⟨3, ⟨#[]⟩, .slice none 0 0, lo, hi, .slice (some ⟨w2.heap.size + 1, 0, none⟩) 1 1⟩ rfl rfl HF.out.1 rfl rfl ?_))
            exact bodyPost_ret_by (run_res rfl _ _ w.heap.size ⟨3, ⟨#[]⟩, .slice none 0 0, lo, hi, .slice (some ⟨w2.heap.size + 1, 0, none⟩) 1 1⟩ rfl HF.out.1) rfl HF.out.2
          · have q1 : decide (0 ≤ hi) = false := decide_eq_false hlo
            clear hbad
            go_wp2_with (first
              | (refine store_res rfl _ _ rfl w2.heap.size x rfl rfl (res_new w2) H2.out H5.out ?_)
              | (refine load_res rfl _ rfl w2.heap.size x rfl (res_row (res_new w2) _) ?_)
              | (refine build_one rfl _ rfl x rfl H2.out H5.out ?_)
              | (refine store_res rfl _ _ rfl w.heap.size ⟨3, ⟨#[]⟩, .slice none 0 0, lo, hi, .slice (some ⟨w2.heap.size + 1, 0, none⟩) 1 1⟩ rfl rfl HF.out.1 rfl rfl ?_))
            exact bodyPost_ret_by (run_res rfl _ _ w.heap.size ⟨3, ⟨#[]⟩, .slice none 0 0, lo, hi, .slice (some ⟨w2.heap.size + 1, 0, none⟩) 1 1⟩ rfl HF.out.1) rfl HF.out.2

end Go.Proofs.YtlaglkbcladfbaaDoor
