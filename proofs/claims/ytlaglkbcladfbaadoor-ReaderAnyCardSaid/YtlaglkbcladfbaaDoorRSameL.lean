/- SameLines answers true where both sides are one list of rules. -/
import Derived.Test.YtlaglkbcladfbaaDoorRSame
namespace Go.Proofs.YtlaglkbcladfbaaDoor
open Go.RowKit
set_option linter.unusedVariables false
set_option linter.unusedSimpArgs false

/-- A slice that reads as these rules. -/
def LinesIn (W : World) (P : Nat → Prop) (v : Value) (l : List Rule) : Prop :=
  ∃ ys : List LV, ys.length = l.length ∧ RowIn W P v l.length (ys.flatMap LV.cells) ∧ ∀ (i : Nat) (y : LV) (r : Rule), ys[i]? = some y → l[i]? = some r → LineAt W P y r
theorem LinesAt.reads {W : World} {base : Nat} {v : Value} {l : List Rule} (h : LinesAt W base v l) : LinesIn W (fun b => base ≤ b) v l := by
  obtain ⟨ys, h1, h2, h3⟩ := h
  exact ⟨ys, h1, RowIn.of_row h2 (fun b hb => hb), fun i y r hy hr => (h3 i y r hy hr).kept (fun b hP _ => ⟨rfl, hP.1⟩) (Nat.le_refl _)⟩
theorem LinesIn.under {W W' : World} {P : Nat → Prop} {v : Value} {l : List Rule} (h : LinesIn W P v l) (hb : Below W.heap.size W W') : LinesIn W' P v l := by
  obtain ⟨ys, h1, h2, h3⟩ := h
  exact ⟨ys, h1, h2.kept (fun b hP hl => ⟨hb.block b hl, hP⟩) hb.size, fun i y r hy hr => (h3 i y r hy hr).kept (fun b hP hl => ⟨hb.block b hl, hP⟩) hb.size⟩

theorem below_undrew {W W1 : World} (hb : Below W.drew.heap.size W.drew W1) : Below W.heap.size W W1 := ⟨hb.os, hb.tape, hb.output, hb.size, hb.block⟩

theorem flatL_at (vs : List LV) (i j : Nat) (x : LV) (h : vs[i]? = some x) (hj : j < 8) : (vs.flatMap LV.cells)[i * 8 + j]? = x.cells[j]? := by
  induction vs generalizing i with
  | nil => simp at h
  | cons y vs ih =>
    cases i with
    | zero =>
      simp at h
      subst h
      simp only [List.flatMap_cons, Nat.zero_mul, Nat.zero_add]
      rw [List.getElem?_append_left (by simp [LV.cells]; exact hj)]
    | succ i =>
      simp at h
      have := ih i h
      simp only [List.flatMap_cons]
      rw [List.getElem?_append_right (by simp [LV.cells]; omega), show (i + 1) * 8 + j - (LV.cells y).length = i * 8 + j by simp [LV.cells]; omega]
      exact this

set_option maxRecDepth 100000 in
set_option maxHeartbeats 8000000 in
theorem sameL_any {w : World} {P P' : Nat → Prop} {u v : Value} {l : List Rule} (h : LinesIn w P v l) (h' : LinesIn w P' u l) : Calls Tryd.prog 26 #[v, u] w (GivesBool true w) := by
  obtain ⟨ys, h1, h2, h3⟩ := h
  obtain ⟨us, g1, g2, g3⟩ := h'
  obtain ⟨c, cc, rfl, hcc, hnc, rc⟩ := h2.open
  obtain ⟨d, cd, rfl, hcd, hnd, rd0⟩ := g2.open
  obtain ⟨m, hm⟩ : ∃ m, m = l.length := ⟨_, rfl⟩
  have RC := Lib.hid rc
  have RD := Lib.hid rd0
  rw [← hm] at RC RD hcc hcd hnc ⊢
  have HM := Lib.hid hm
  have H1 := Lib.hid h1
  have G1 := Lib.hid g1
  have H3 := Lib.hid h3
  have G3 := Lib.hid g3
  clear h1 h2 h3 g1 g2 g3 rc rd0 hm hnd
  go_enter Tryd.func26, Tryd.ntmps26
  go_wp2_with fail
  go_loopw [5] (fun v wr => ∃ j : Nat, v = .int .i64 j ∧ j ≤ m ∧ Below w.heap.size w wr) (fun v _ => m - (intOf v).toNat)
  case atStart => exact ⟨0, rfl, by omega, Below.refl _ _⟩
  case round =>
    obtain ⟨j, rfl, hj, hbel⟩ := hrel
    have HBEL := Lib.hid hbel
    by_cases hlt : j < m
    · obtain ⟨g, rfl, hg, hca'⟩ := RC.out (by omega)
      obtain ⟨g', rfl, hg', hcb'⟩ := RD.out (by omega)
      obtain ⟨vx, hvx⟩ : ∃ y, ys[j]? = some y := ⟨_, List.getElem?_eq_getElem (by rw [H1.out, ← HM.out]; exact hlt)⟩
      obtain ⟨uy, huy⟩ : ∃ y, us[j]? = some y := ⟨_, List.getElem?_eq_getElem (by rw [G1.out, ← HM.out]; exact hlt)⟩
      obtain ⟨tt, htt⟩ : ∃ y, l[j]? = some y := ⟨_, List.getElem?_eq_getElem (by rw [← HM.out]; exact hlt)⟩
      have CX : ∀ (i : Nat) (u : Value), i < 8 → vx.cells[i]? = some u → wr.cell? ⟨g, j * 8 + i, none⟩ = some u := fun i u hi hu =>
        (hbel.cell (p := ⟨g, j * 8 + i, none⟩) hg).trans (hca' _ u ((flatL_at ys j i vx hvx hi).trans hu))
      have CY : ∀ (i : Nat) (u : Value), i < 8 → uy.cells[i]? = some u → wr.cell? ⟨g', j * 8 + i, none⟩ = some u := fun i u hi hu =>
        (hbel.cell (p := ⟨g', j * 8 + i, none⟩) hg').trans (hcb' _ u ((flatL_at us j i uy huy hi).trans hu))
      obtain ⟨hn1, hm1, ht1⟩ := H3.out j vx tt hvx htt
      obtain ⟨hn2, hm2, ht2⟩ := G3.out j uy tt huy htt
      obtain ⟨vn, vm, vx⟩ := vx
      obtain ⟨un, um, uy⟩ := uy
      obtain rfl : vn = un := hn1.trans hn2.symm
      obtain rfl : vm = um := hm1.trans hm2.symm
      have CALL : Hid (∀ W1, Below wr.heap.size wr W1 → Calls Tryd.prog 42 #[vx.val, uy.val] W1 (GivesBool true W1)) := fun W1 hb1 => by
        have hw1 : Below w.heap.size w W1 := hbel.trans (hb1.mono hbel.size)
        exact same_any ht1 W1 P' uy hw1 (ht2.under hw1)
      have e0 := CX 0 _ (by omega) rfl
      have e1 := CX 1 _ (by omega) rfl
      have e2 := CX 2 _ (by omega) rfl
      have e3 := CX 3 _ (by omega) rfl
      have e4 := CX 4 _ (by omega) rfl
      have e5 := CX 5 _ (by omega) rfl
      have e6 := CX 6 _ (by omega) rfl
      have e7 := CX 7 _ (by omega) rfl
      have f0 := CY 0 _ (by omega) rfl
      have f1 := CY 1 _ (by omega) rfl
      have f2 := CY 2 _ (by omega) rfl
      have f3 := CY 3 _ (by omega) rfl
      have f4 := CY 4 _ (by omega) rfl
      have f5 := CY 5 _ (by omega) rfl
      have f6 := CY 6 _ (by omega) rfl
      have f7 := CY 7 _ (by omega) rfl
      rw [Nat.add_zero] at e0 f0
      have q6 : decide ((j : Int) < (m : Int)) = true := decide_eq_true (by omega)
      have es := str_same' vn
      have es2 := str_same vn
      have em : (vm != vm) = false := by simp
      obtain ⟨vk, vt, vns, vlo, vhi, vks⟩ := vx
      obtain ⟨uk, ut, uns, ulo, uhi, uks⟩ := uy
      clear CX CY hca' hcb' hg hg' hvx huy htt hbel hn1 hn2 hm1 hm2 ht1 ht2
      go_wp2_with fail
      go_still_tail 35, (by kernel_rfl)
      trace_state
      change wpList _ _ _ _ _ wr.drew
      go_wp2_with fail
      refine (CALL.out _ ((Below.refl _ _).drew)).mono ?_
      rintro e w1 ⟨rfl, hb1⟩
      have HX := Lib.hid (HBEL.out.trans ((below_undrew hb1).mono HBEL.out.size))
      clear hb1 e0 e1 e2 e3 e4 e5 e6 e7 f0 f1 f2 f3 f4 f5 f6 f7
      go_wp2_with fail
      go_roundw
      case rel => exact ⟨j + 1, by go_num, by omega, HX.out⟩
      case measure => simp [intOf]; omega
    · have q6 : decide ((j : Int) < (m : Int)) = false := decide_eq_false (by omega)
      clear hbel
      go_wp2_with fail
      go_ret
      exact ⟨rfl, HBEL.out⟩

end Go.Proofs.YtlaglkbcladfbaaDoor
