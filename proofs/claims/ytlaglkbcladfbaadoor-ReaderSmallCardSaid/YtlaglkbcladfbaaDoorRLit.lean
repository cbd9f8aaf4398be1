/- Expressions of texts in quotes whose letters stand for themselves are made by the program as the words say. -/
import Derived.Test.YtlaglkbcladfbaaDoorRFold
import Derived.OwnWalk
import Derived.Laws.OwnMore
namespace Go.Proofs.YtlaglkbcladfbaaDoor
open Go.RowKit
set_option linter.unusedVariables false
set_option linter.unusedSimpArgs false

theorem strOf_get {x : List Int} (hx : ∀ c ∈ x, 0 ≤ c ∧ c < 128) (i : Nat) (h : i < (strOf x).size) : x[i]? = some ((strOf x)[i].toNat : Int) := by
  have h' : i < x.length := by rwa [strOf_size] at h
  have h1 : (strOf x)[i] = byt x[i] := by
    have e : (strOf x).data.toList[i]? = some (byt x[i]) := by rw [strOf_data, List.getElem?_map, List.getElem?_eq_getElem h']; rfl
    have e2 : (strOf x).data.toList[i]? = some (strOf x)[i] := List.getElem?_eq_getElem (by simpa using h)
    exact Option.some.inj (e2.symm.trans e)
  rw [h1, List.getElem?_eq_getElem h']
  have hm := hx x[i] (List.getElem_mem h')
  unfold byt
  congr 1
  simp
  omega

theorem infoInt : (Tryd.prog.info? 3).map (fun i => (i.zero, i.size, i.bytes)) = some (some (.int .i64 0), 1, 8) := by kernel_rfl

/-- Within the loop: the numbers up to i are the text's bytes. -/
def InLit (x : List Int) (base g : Nat) (w wr : World) (i : Nat) : Prop :=
  ∃ ys : List Int, ys.length = x.length ∧ wr.ownsRow base 3 1 (.slice (some ⟨g, 0, none⟩) x.length x.length) x.length (icells ys) ∧ (∀ j, j < i → ys[j]? = x[j]?) ∧ Below w.heap.size w wr ∧ Res0 wr w.heap.size

theorem icells_set (ys : List Int) (i : Nat) (v : Int) : (icells ys).set i (.int .i64 v) = icells (ys.set i v) := by unfold icells; simp
theorem icells_rep (n : Nat) : List.replicate n (Value.int .i64 0) = icells (List.replicate n 0) := by unfold icells; simp

set_option maxRecDepth 100000 in
set_option maxHeartbeats 4000000 in
theorem lit_nums {x : List Int} {w : World} (hx : ∀ c ∈ x, 0 ≤ c ∧ c < 128) (hl : x.length ≤ 100000) (hne : x ≠ []) :
    Calls Tryd.prog 163 #[.string (strOf x), .bool true] w (MakesTree w.heap.size (.mk 6 [] x 0 0 []) w) := by
  obtain ⟨i0, hi0, hi1⟩ := Option.map_eq_some_iff.1 infoInt
  obtain ⟨hz0, hz1, hz2⟩ : i0.zero = some (.int .i64 0) ∧ i0.size = 1 ∧ i0.bytes = 8 := by simpa using hi1
  have hsz := strOf_size x
  have hpos : 0 < x.length := List.length_pos_iff.2 hne
  have hget := strOf_get hx
  obtain ⟨s, hs⟩ : ∃ s, s = strOf x := ⟨_, rfl⟩
  rw [← hs] at hsz hget ⊢
  obtain ⟨n, hn⟩ : ∃ n, n = x.length := ⟨_, rfl⟩
  rw [← hn] at hsz hpos hl
  have hlist : s.toList.isEmpty = false := by
    rw [Lib.toList_data]
    cases h : s.data.toList with
    | nil =>
      have : s.size = 0 := by
        show s.data.size = 0
        rw [← Array.length_toList, h]; rfl
      omega
    | cons a l => rfl
  have HN := Lib.hid hn
  have HSZ := Lib.hid hsz
  have HGET := Lib.hid hget
  have HR := Lib.hid (res_new w)
  have HB0 := Lib.hid ((Below.refl w.heap.size w).alloc (Nat.le_refl _) (.cells #[.int .i64 0, .string ⟨#[]⟩, .slice none 0 0, .int .i64 0, .int .i64 0, .slice none 0 0] 43))
  clear hx hne hs hn hget hi1
  go_enter Tryd.func163, Tryd.ntmps163
  go_wp2_with (refine wpList_make_full _ rfl _ _ 40 rfl w.heap.size 3 i0 (.int .i64 0) 1 Tryd.underlying40 hi0 hz0 hz1 .i64 .i64 (n : Int) (n : Int) n rfl rfl rfl rfl ?c1 ?c2 ?c3 ?_)
  case c1 => rw [hz2]; omega
  case c2 => unfold maxLen; omega
  case c3 => simp
  intro w1 hown hgrow
  have hR1 := HR.out.kept (hgrow.block w.heap.size (by simp) (by simp))
  have hB1 := HB0.out.grown hgrow (by simp) (fun k hk => by cases hk)
  have H1 : Hid (InLit x w.heap.size (w.heap.size + 1) w w1 0) := ⟨List.replicate n 0, by rw [List.length_replicate]; exact HN.out, by
    rw [← HN.out, ← icells_rep]
    have := hown
    rwa [toList_madeCells_one] at this, fun j hj => absurd hj (by omega), hB1, hR1⟩
  clear hown hgrow hR1 hB1 HR HB0
  go_wp2_with fail
  go_loopw [20] (fun v wr => ∃ i : Nat, v = .int .i64 i ∧ i ≤ n ∧ Hid (InLit x w.heap.size (w.heap.size + 1) w wr i)) (fun v _ => n - (intOf v).toNat)
  case atStart => exact ⟨0, rfl, by omega, H1⟩
  case round =>
    obtain ⟨i, rfl, hi, HI⟩ := hrel
    by_cases hlt : i < n
    · obtain ⟨ys, hy, hrow, hall, hbel, hres⟩ := HI.out
      rw [← HN.out] at hrow
      have hfz := row_frozen hrow i
      have hyl : i < ys.length := by rw [hy, ← HN.out]; exact hlt
      have hcl := row_cell hrow (icells_at ys i hyl)
      have hss : i < s.size := by omega
      have HX := Lib.hid (HGET.out i hss)
      have HROW := Lib.hid hrow
      have HALL := Lib.hid hall
      have HBEL := Lib.hid hbel
      have HRES := Lib.hid hres
      have HY := Lib.hid hy
      have hw : 0 ≤ ys[i] ∨ True := .inr trivial
      obtain ⟨old, hold⟩ : ∃ old, old = ys[i] := ⟨_, rfl⟩
      rw [← hold] at hcl
      clear hrow hall hbel hres hy hold hw
      go_wp2_with fail
      go_roundw
      case rel =>
        rw [wrap_byte]
        refine ⟨i + 1, by go_num, by omega, ?_⟩
        have hst := HROW.out.stored i (.int .i64 (s[i].toNat : Int))
        refine ⟨ys.set i (s[i].toNat : Int), by rw [List.length_set]; exact HY.out, ?_, fun j hj => ?_, ?_, ?_⟩
        · rw [← icells_set, ← HN.out]; exact hst.1
        · by_cases hji : j = i
          · subst hji; rw [List.getElem?_set_self hyl]; exact HX.out.symm
          · rw [List.getElem?_set_ne (fun e => hji e.symm)]; exact HALL.out j (by omega)
        · exact HBEL.out.setCell (by simp) _
        · exact HRES.out.kept (hst.2.block _ HRES.out.lt (fun e => by have := Option.some.inj e; omega))
      case measure => simp [intOf]; omega
    · obtain ⟨ys, hy, hrow, hall, hbel, hres⟩ := HI.out
      have hyx : ys = x := by
        apply List.ext_getElem?
        intro j
        by_cases hj : j < i
        · exact hall j hj
        · rw [List.getElem?_eq_none (by rw [hy, ← HN.out]; omega), List.getElem?_eq_none (by rw [← HN.out]; omega)]
      subst hyx
      rw [← HN.out] at hrow
      have HROW := Lib.hid hrow
      have HBEL := Lib.hid hbel
      have HRES := Lib.hid hres
      clear hrow hall hbel hres hy
      go_wp2_with (refine store_res rfl _ _ rfl w.heap.size ⟨6, ⟨#[]⟩, .slice (some ⟨w.heap.size + 1, 0, none⟩) n n, 0, 0, .slice none 0 0⟩ rfl rfl HRES.out rfl rfl ?_)
      refine bodyPost_ret_by (run_res rfl _ _ w.heap.size ⟨6, ⟨#[]⟩, .slice (some ⟨w.heap.size + 1, 0, none⟩) n n, 0, 0, .slice none 0 0⟩ rfl HRES.out) rfl ⟨_, ?_, rfl, below_setRow HBEL.out (Nat.le_refl _) _⟩
      have hrow := HROW.out
      rw [HN.out] at hrow ⊢
      have hup : wr.ownsRow (w.heap.size + 1) 3 1 (.slice (some ⟨w.heap.size + 1, 0, none⟩) ys.length ys.length) ys.length (icells ys) := by
        refine ⟨hrow.1, ?_⟩
        rcases hrow.2 with ⟨h0, _⟩ | ⟨g', cap', cur, hv, hb, rest⟩
        · cases h0
        · simp at hv
          obtain ⟨rfl, rfl⟩ := hv
          exact .inr ⟨_, _, cur, rfl, Nat.le_refl _, rest⟩
      have h1 := tree_nums (P := fun b => w.heap.size + 1 ≤ b) 6 hup (fun b hb => hb)
      exact (h1.set_row (fun b hb => by omega) _).weak (fun b hb _ => by omega)

theorem litT_fold {x : List Int} {b : Bool} (h : ¬ (b = true ∧ x ≠ [])) : litT x b = foldT x := by unfold litT; rw [if_neg h]
theorem litT_nums {x : List Int} (h : x ≠ []) : litT x true = .mk 6 [] x 0 0 [] := by unfold litT; rw [if_pos ⟨rfl, h⟩]

set_option maxRecDepth 100000 in
set_option maxHeartbeats 4000000 in
theorem lit_any {x : List Int} {w : World} (b : Bool) (hx : ∀ c ∈ x, 0 ≤ c ∧ c < 128) (hl : x.length ≤ 100000) :
    Calls Tryd.prog 163 #[.string (strOf x), .bool b] w (MakesTree w.heap.size (litT x b) w) := by
  by_cases hb : b = true ∧ x ≠ []
  · obtain ⟨rfl, hne⟩ := hb
    rw [litT_nums hne]
    exact lit_nums hx hl hne
  · rw [litT_fold hb]
    have HC := Lib.hid (fun W => fold_any (x := x) (w := W) hx hl)
    have HR := Lib.hid (res_new w)
    have HB0 := Lib.hid ((Below.refl w.heap.size w).alloc (Nat.le_refl _) (.cells #[.int .i64 0, .string ⟨#[]⟩, .slice none 0 0, .int .i64 0, .int .i64 0, .slice none 0 0] 43))
    cases b with
    | false =>
      obtain ⟨s, hs⟩ : ∃ s, s = strOf x := ⟨_, rfl⟩
      rw [← hs] at HC ⊢
      clear hs hx hl hb
      go_enter Tryd.func163, Tryd.ntmps163
      go_wp2_with fail
      refine (HC.out _).mono ?_
      rintro e w1 ⟨y, hy, rfl, hb⟩
      have HY := Lib.hid hy
      have HR1 := Lib.hid (HR.out.kept (hb.block w.heap.size (by simp)))
      have HB := Lib.hid (HB0.out.trans (hb.mono (by simp)))
      obtain ⟨h2, h5⟩ : y.ns.oneCell' = true ∧ y.ks.oneCell' = true := ⟨one_cell_ns hy, one_cell_ks hy⟩
      have H2 := Lib.hid h2
      have H5 := Lib.hid h5
      clear hb HR HB0 hy h2 h5
      go_wp2_with (refine store_res rfl _ _ rfl w.heap.size y rfl rfl HR1.out H2.out H5.out ?_)
      refine bodyPost_ret_by (run_res rfl _ _ w.heap.size y rfl HR1.out) rfl ⟨y, ?_, rfl, below_setRow HB.out (Nat.le_refl _) _⟩
      exact (HY.out.set_row (fun b hb => by simp at hb; omega) _).weak (fun b hb _ => by simp at hb; omega)
    | true =>
      have hx0 : x = [] := by
        by_cases g : x = []
        · exact g
        · exact absurd ⟨rfl, g⟩ hb
      subst hx0
      rw [strOf_nil] at HC ⊢
      clear hx hl hb
      go_enter Tryd.func163, Tryd.ntmps163
      go_wp2_with fail
      refine (HC.out _).mono ?_
      rintro e w1 ⟨y, hy, rfl, hb⟩
      have HY := Lib.hid hy
      have HR1 := Lib.hid (HR.out.kept (hb.block w.heap.size (by simp)))
      have HB := Lib.hid (HB0.out.trans (hb.mono (by simp)))
      obtain ⟨h2, h5⟩ : y.ns.oneCell' = true ∧ y.ks.oneCell' = true := ⟨one_cell_ns hy, one_cell_ks hy⟩
      have H2 := Lib.hid h2
      have H5 := Lib.hid h5
      clear hb HR HB0 hy h2 h5
      go_wp2_with (refine store_res rfl _ _ rfl w.heap.size y rfl rfl HR1.out H2.out H5.out ?_)
      refine bodyPost_ret_by (run_res rfl _ _ w.heap.size y rfl HR1.out) rfl ⟨y, ?_, rfl, below_setRow HB.out (Nat.le_refl _) _⟩
      exact (HY.out.set_row (fun b hb => by simp at hb; omega) _).weak (fun b hb _ => by simp at hb; omega)

end Go.Proofs.YtlaglkbcladfbaaDoor
