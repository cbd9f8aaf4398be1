/- Joined texts; each begins with what it says. -/
import Derived.Test.YtclnadjgbpihcaaGreatDoorW4
import Derived.Test.YtclnadjgbpihcaaGreatDoorW0
import Derived.Test.YtclnadjgbpihcaaGreatDoorBase
import Derived.Orders
import Derived.Test.YtclnadjgbpihcaaGreatDoorMake
import Derived.BigFrame
import Derived.Great.BuildSlice
import Derived.Laws.IdiomStrings
import Derived.Test.YtclnadjgbpihcaaGreatDoorW3
import Derived.Test.YtclnadjgbpihcaaGreatDoorW2
import Derived.Deep.CutBlock
/-! The laws' letter, and expressions by numbers. No condition but how many numbers are taken. -/
namespace Go.Proofs.YtclnadjgbpihcaaGreatDoor
open Go.RowKit Go.Lib
set_option linter.unusedVariables false
set_option linter.unusedSimpArgs false

theorem let_set {r0 r1 r2 r3 lo hi : Int} (h : IsSet r0 r1 r2 r3 (rng lo hi)) : (⟨r0, r1, r2, r3⟩ : W4) = W4.of (letF lo hi) := by
  rw [isSet_of h]
  refine of_congr fun b _ => ?_
  unfold rng letF
  rw [Bool.decide_and]
set_option maxRecDepth 100000 in
set_option maxHeartbeats 4000000 in
theorem letter_any {P : Nat → Prop} (w : World) (lo hi : Int) : Calls Tryz.prog 23 #[.int .i64 lo, .int .i64 hi] w (GivesRe P (letM lo hi) w) := by
  obtain ⟨D, hD⟩ : ∃ D, D = w.heap.size := ⟨_, rfl⟩
  obtain ⟨w1, hw1⟩ : ∃ w1 : World, w1 = w.alloc (.cells #[.int .i64 0, .int .u64 0, .int .u64 0, .int .u64 0, .int .u64 0, .slice none 0 0] 28) := ⟨_, rfl⟩
  have hb1 : Below w.heap.size w w1 := by rw [hw1]; exact (Below.refl _ _).alloc (Nat.le_refl _) _
  have hnD : w1.heap[D]? = some (.cells #[.int .i64 0, .int .u64 0, .int .u64 0, .int .u64 0, .int .u64 0, .slice none 0 0] 28 (0, 0)) := by rw [hw1, hD]; exact heap_alloc_new _ _
  have hDl : D < w1.heap.size := (Array.getElem?_eq_some_iff.1 hnD).1
  have c1 := refof_any lo hi w1
  have HB1 := Lib.hid hb1
  have HND := Lib.hid hnD
  have HW1 := Lib.hid hw1
  have HDD := Lib.hid hD
  have HDL := Lib.hid hDl
  clear hb1 hw1 hD hDl hnD
  go_enter Tryz.func23, Tryz.ntmps23
  go_wp2_with fail
  rw [← HW1.out, ← HDD.out]
  ((with_reducible refine c1.mono ?_))
  rintro _ w2 ⟨r0, r1, r2, r3, hs, rfl, hb2⟩
  have h2D := (hb2.block D HDL.out).trans HND.out
  have H2D := Lib.hid h2D
  have d0 : w2.cell? ⟨D, 0, none⟩ = some (.int .i64 0) := by simp [World.cell?, h2D]
  have d1 : w2.cell? ⟨D, 1, none⟩ = some (.int .u64 0) := by simp [World.cell?, h2D]
  have d2 : w2.cell? ⟨D, 2, none⟩ = some (.int .u64 0) := by simp [World.cell?, h2D]
  have d3 : w2.cell? ⟨D, 3, none⟩ = some (.int .u64 0) := by simp [World.cell?, h2D]
  have d4 : w2.cell? ⟨D, 4, none⟩ = some (.int .u64 0) := by simp [World.cell?, h2D]
  have d5 : w2.cell? ⟨D, 5, none⟩ = some (.slice none 0 0) := by simp [World.cell?, h2D]
  have f0 := frozen_no h2D 0
  have f1 := frozen_no h2D 1
  have f2 := frozen_no h2D 2
  have f3 := frozen_no h2D 3
  have f4 := frozen_no h2D 4
  have f5 := frozen_no h2D 5
  have HS := Lib.hid hs
  have HB2 := Lib.hid hb2
  clear hs hb2 h2D c1
  go_wp2
  refine bodyPost_ret_by (results_cell_row rfl _ _ D 28 #[.int .i64 2, .int .u64 r0, .int .u64 r1, .int .u64 r2, .int .u64 r3, .slice none 0 0] (0, 0) _ rfl (set6_heap H2D.out _ _ _ _ _ _) Tryz.underlying28 rfl (by kernel_rfl)) rfl ?_
  refine ⟨⟨2, r0, r1, r2, r3, none, 0, 0⟩, rfl, ?_, six_set (HB1.out.trans (HB2.out.mono HB1.out.size)) (by have := HDD.out; omega) _ _ _ _ _ _⟩
  have e : letM lo hi = .mk 2 ⟨r0, r1, r2, r3⟩ [] := by unfold letM; rw [let_set HS.out]
  rw [e]
  exact kids_empty.tree 2 ⟨r0, r1, r2, r3⟩ (by rw [let_set HS.out]; exact of_ok _)

/-- The call answers this expression, in blocks of its own, and has taken so many numbers. -/
def GivesP (R : Nat) (v : Value) (zs : List Int) (t : RT) (a : Nat) (w : World) (e : Ending) (w' : World) : Prop :=
  ∃ x : ReV, e = .returned x.val ∧ RAt w' (fun b => w.heap.size ≤ b) x t ∧ PickAt w' R v zs a ∧ w.grownBy w' (some R)
/-- Likewise of a row of them, which lies apart. -/
def GivesL (R : Nat) (v : Value) (zs : List Int) (l : List RT) (a : Nat) (w : World) (e : Ending) (w' : World) : Prop :=
  ∃ (q : Option Addr) (n cp : Nat) (us : List ReV), e = .returned (.slice q n cp) ∧ n = l.length ∧ w'.ownsRow w.heap.size 28 6 (.slice q n cp) n (us.flatMap ReV.cells) ∧ us.length = n ∧
    (∀ (i : Nat) (y : ReV) (t : RT), us[i]? = some y → l[i]? = some t → RAt w' (fun b => w.heap.size ≤ b ∧ (Value.slice q n cp).ownBlock ≠ some b) y t) ∧ PickAt w' R v zs a ∧ w.grownBy w' (some R)
theorem keeps_grown {W W' : World} {R : Nat} {P : Nat → Prop} (hg : W.grownBy W' (some R)) (hP : ∀ b, P b → b ≠ R) : Keeps W W' P P :=
  Keeps.of hg.size fun b hb hl => ⟨hg.block b hl (fun e => hP b hb (by cases e; rfl)), hb⟩
theorem grown_one {w W : World} {r : Option Nat} {D : Nat} (h : w.grownBy W r) (hD : w.heap.size ≤ D) (o : Nat) (v : Value) : w.grownBy (W.setCell ⟨D, o, none⟩ v) r :=
  ⟨h.os, h.tape, h.output, by simpa [World.setCell] using h.size, fun b hl hne => (Below.heap_setCell _ _ _ _ (by show b ≠ D; omega)).trans (h.block b hl hne)⟩
theorem grown_six {w W : World} {r : Option Nat} {D : Nat} (h : w.grownBy W r) (hD : w.heap.size ≤ D) (a b c d e f : Value) :
    w.grownBy ((((((W.setCell ⟨D, 0, none⟩ a).setCell ⟨D, 1, none⟩ b).setCell ⟨D, 2, none⟩ c).setCell ⟨D, 3, none⟩ d).setCell ⟨D, 4, none⟩ e).setCell ⟨D, 5, none⟩ f) r :=
  grown_one (grown_one (grown_one (grown_one (grown_one (grown_one h hD _ _) hD _ _) hD _ _) hD _ _) hD _ _) hD _ _
theorem own_grownR {W W' : World} {base n R : Nat} {v : Value} {xs : List Value} (h : W.ownsRow base 28 6 v n xs) (hg : W.grownBy W' (some R)) (hR : R < base) : W'.ownsRow base 28 6 v n xs := by
  rcases row_forms h with ⟨rfl, h0⟩ | ⟨g, cp, rfl⟩
  · exact ⟨h.1, .inl ⟨rfl, h0⟩⟩
  · have h1 := row_base h
    exact own_at h (hg.block g h1.2.2.2 (fun e => by cases e; omega))

set_option maxRecDepth 100000 in
set_option maxHeartbeats 8000000 in
theorem some_any {R : Nat} {v : Value} {zs : List Int} {f : Nat → RT × Nat} {dz : Int} {M B : Nat} (hf : ∀ a, a ≤ (f a).2 ∧ (f a).2 ≤ a + B)
    (hc : ∀ (w : World) (a : Nat), PickAt w R v zs a → a ≤ M → Calls Tryz.prog 13 #[.pointer (some ⟨R, 0, none⟩), .int .i64 dz] w (GivesP R v zs (f a).1 (f a).2 w)) (w : World) (n a : Nat) (hp : PickAt w R v zs a) (hn : n ≤ 10) (ha : a + n * B ≤ M) :
    Calls Tryz.prog 24 #[.pointer (some ⟨R, 0, none⟩), .int .i64 (n : Int), .int .i64 dz] w (GivesL R v zs (listR f n a).1 (listR f n a).2 w) := by
  obtain ⟨i0, hi0, hz0, hz1, hz2⟩ := re_parts
  have hRw : R < w.heap.size := hp.lt
  have HC := Lib.hid hc
  have HP0 := Lib.hid hp
  have HA : Hid (∀ i, i ≤ n → (listR f i a).2 ≤ M) := fun i hi => by
    have := (listR_num hf i a).2
    have : i * B ≤ n * B := Nat.mul_le_mul_right _ hi
    omega
  clear hc hp ha hf
  go_enter Tryz.func24, Tryz.ntmps24
  go_wp2_with fail
  go_loopg [7, 8] n (fun gk vv vi wr => ∃ (i : Nat) (q : Option Addr) (N cp : Nat) (us : List ReV), vv = .slice q N cp ∧ vi = .int .i64 (i : Int) ∧ i ≤ n ∧ n - i ≤ gk ∧ N = i ∧ Hid (wr.ownsRow w.heap.size 28 6 (.slice q N cp) N (us.flatMap ReV.cells)) ∧ Hid (us.length = N) ∧
    Hid (∀ (j : Nat) (y : ReV) (t : RT), us[j]? = some y → (listR f i a).1[j]? = some t → RAt wr (fun b => w.heap.size ≤ b ∧ (Value.slice q N cp).ownBlock ≠ some b) y t) ∧ Hid (PickAt wr R v zs (listR f i a).2) ∧ Hid (w.grownBy wr (some R)))
  case atStart => exact ⟨0, none, 0, 0, [], rfl, rfl, by omega, by omega, rfl, World.ownsRow_nil _ _ _ _, rfl, fun j y t hy => by simp at hy, HP0.out, grown_refl _ _⟩
  case round =>
    obtain ⟨i, q0, N, cp0, us, rfl, rfl, hi, hgk, hN, HO, HL, HE, HP, HG⟩ := hrel
    subst hN
    by_cases hlt : N < n
    · have hltz : (N : Int) < (n : Int) := by omega
      have c1 := HC.out wr _ HP.out (HA.out N hi)
      go_wp2_with fail
      ((with_reducible refine c1.mono ?_))
      rintro _ w1 ⟨x, rfl, hx, hp1, hg1⟩
      obtain ⟨k, a0, b, c, dw, q, m, cp⟩ := x
      have hwr : w.heap.size ≤ wr.heap.size := HG.out.size
      have hw1 : w.heap.size ≤ w1.heap.size := Nat.le_trans hwr hg1.size
      have HO1 : Hid (w1.ownsRow w.heap.size 28 6 (.slice q0 N cp0) N (us.flatMap ReV.cells)) := own_grownR HO.out hg1 hRw
      have HOB : Hid ((w1.alloc (.cells #[.int .i64 k, .int .u64 a0, .int .u64 b, .int .u64 c, .int .u64 dw, .slice q m cp] 28)).ownsRow w.heap.size 28 6 (.slice q0 N cp0) N (us.flatMap ReV.cells)) := HO1.out.alloc _
      have HE1 : Hid (∀ (j : Nat) (y : ReV) (t : RT), us[j]? = some y → (listR f N a).1[j]? = some t → RAt w1 (fun b => w.heap.size ≤ b ∧ (Value.slice q0 N cp0).ownBlock ≠ some b) y t) := fun j y t hy ht => (HE.out j y t hy ht).kept (keeps_grown hg1 fun b hb => by omega)
      have HX : Hid (RAt w1 (fun b => w.heap.size ≤ b ∧ (Value.slice q0 N cp0).ownBlock ≠ some b) ⟨k, a0, b, c, dw, q, m, cp⟩ (f (listR f N a).2).1) := hx.weak fun b hb _ => by
        refine ⟨by omega, fun e => ?_⟩
        rcases row_forms HO.out with ⟨e2, _⟩ | ⟨g, cp', e2⟩
        · rw [e2] at e; cases e
        · have h1 := HO.out
          rw [e2] at h1 e
          have := (row_base h1).2.2.2
          have : g = b := by simpa [Value.ownBlock] using e
          omega
      have HP1 := Lib.hid hp1
      have HG1 : Hid (w.grownBy w1 (some R)) := HG.out.trans hg1
      clear hx hp1 hg1 c1
      unfold ReV.val
      go_wp2_with (at_builtin; go_loud (refine wpList_append_own_at _ rfl _ _ 26 rfl w.heap.size 28 i0 _ 6 64 Tryz.underlying26 hi0 hz0 hz1 hz2 rfl (by decide) _ _ _ rfl HOB.out ⟨w1.heap.size, 0, none⟩ 1 1 [.int .i64 k, .int .u64 a0, .int .u64 b, .int .u64 c, .int .u64 dw, .slice q m cp] rfl rfl (new3 w1 #[.int .i64 k, .int .u64 a0, .int .u64 b, .int .u64 c, .int .u64 dw, .slice q m cp] 28 [.int .i64 k, .int .u64 a0, .int .u64 b, .int .u64 c, .int .u64 dw, .slice q m cp] rfl) ?c2 ?c3 ?c4 ?c5 ?_))
      case c2 => first | exact ⟨rfl, rfl, rfl, rfl, rfl, rfl⟩ | (intro x hx; simp at hx; rcases hx with rfl | rfl | rfl | rfl | rfl | rfl <;> rfl)
      case c3 => unfold maxLen; omega
      case c4 => omega
      case c5 => first | omega | (simp; omega)
      intro v' w4 hown hgrow _ hat
      have HOWN := Lib.hid hown
      have HGR := Lib.hid hgrow
      have HAT := Lib.hid hat
      obtain ⟨g4, cap4, rfl⟩ := (row_forms hown).resolve_left (fun h => by cases h.2)
      clear hown hgrow hat
      go_wp2
      go_roundg (n - (N + 1))
      case measure => omega
      case rel =>
        have keep : ∀ (y : ReV) (t : RT), RAt w1 (fun b => w.heap.size ≤ b ∧ (Value.slice q0 N cp0).ownBlock ≠ some b) y t → RAt w4 (fun b => w.heap.size ≤ b ∧ (Value.slice (some ⟨g4, 0, none⟩) (N + 1) cap4).ownBlock ≠ some b) y t := by
          intro y t hr
          refine hr.kept (Keeps.of (Nat.le_trans (by simp) HGR.out.size) fun b hb hl => ?_)
          refine ⟨(HGR.out.block b (by simp; omega) (fun e => hb.2 e.symm)).trans (@heap_alloc_old _ _ _ hl), hb.1, fun e => ?_⟩
          rcases HAT.out with h | h
          · exact hb.2 (h.symm.trans e)
          · rw [h] at e
            have : w1.heap.size + 1 = b := by simpa using e
            omega
        refine ⟨N + 1, some ⟨g4, 0, none⟩, N + 1, cap4, us ++ [(⟨k, a0, b, c, dw, q, m, cp⟩ : ReV)], rfl, by go_num, by omega, Nat.le_refl _, rfl, ?_, ?_, ?_, ?_, ?_⟩
        · unfold Hid
          rw [List.flatMap_append]
          exact HOWN.out
        · unfold Hid
          rw [List.length_append, HL.out]
          rfl
        · intro j y t hy ht
          rw [listR] at ht
          by_cases hj : j < us.length
          · rw [List.getElem?_append_left hj] at hy
            rw [List.getElem?_append_left (by rw [listR_len, ← HL.out]; exact hj)] at ht
            exact keep y t (HE1.out j y t hy ht)
          · rw [List.getElem?_append_right (by omega)] at hy
            rw [List.getElem?_append_right (by rw [listR_len, ← HL.out]; omega), listR_len] at ht
            have eL := HL.out
            cases e : j - us.length with
            | zero =>
              have e2 : j - N = 0 := by omega
              rw [e] at hy
              rw [e2] at ht
              simp at hy ht
              subst hy ht
              exact keep _ _ HX.out
            | succ j2 => rw [e] at hy; simp at hy
        · rw [listR]
          refine HP1.out.kept fun b hb => ?_
          refine (HGR.out.block b (by have := HP1.out.lt; simp; omega) (fun e => ?_)).trans (@heap_alloc_old _ _ _ (by have := HP1.out.lt; omega))
          have := own_above HO1.out b e.symm
          omega
        · refine ⟨HGR.out.os.trans HG1.out.os, HGR.out.tape.trans HG1.out.tape, HGR.out.output.trans HG1.out.output, Nat.le_trans HG1.out.size (Nat.le_trans (by simp) HGR.out.size), fun b hl hne => ?_⟩
          refine (HGR.out.block b (by simp; omega) (fun e => ?_)).trans ((@heap_alloc_old _ _ _ (by omega)).trans (HG1.out.block b hl hne))
          have := own_above HO1.out b e.symm
          omega
    · have hltz : ¬ (N : Int) < (n : Int) := by omega
      obtain rfl : N = n := by omega
      go_wp2
      go_ret
      exact ⟨q0, N, cp0, us, rfl, (listR_len f N a).symm, HO.out, HL.out, HE.out, HP.out, HG.out⟩

def leafOk (k : Nat) : Prop := k < 5
set_option maxRecDepth 100000 in
set_option maxHeartbeats 16000000 in
theorem re_any {R : Nat} {v : Value} {zs : List Int} : ∀ (d : Nat), d ≤ 4 → ∀ (w : World) (a : Nat), PickAt w R v zs a → a ≤ 900000 - 8 ^ (d + 1) → Calls Tryz.prog 13 #[.pointer (some ⟨R, 0, none⟩), .int .i64 (d : Int)] w (GivesP R v zs (reM zs d a).1 (reM zs d a).2 w) := by
  intro d
  induction d with
  | zero =>
    intro _ w a hp ha
    have ha : a ≤ 899992 := by omega
    have hRw := hp.lt
    obtain ⟨T, hT⟩ : ∃ T, T = reM zs 0 a := ⟨_, rfl⟩
    rw [← hT]
    have HT : Hid (T = leafM zs (pickF zs a 11 % 5) (a + 1)) := by unfold Hid; rw [hT, reM]
    clear hT
    obtain ⟨D, hD⟩ : ∃ D, D = w.heap.size := ⟨_, rfl⟩
    obtain ⟨w1, hw1⟩ : ∃ w1 : World, w1 = w.alloc (.cells #[.int .i64 0, .int .u64 0, .int .u64 0, .int .u64 0, .int .u64 0, .slice none 0 0] 28) := ⟨_, rfl⟩
    have HW1 := Lib.hid hw1
    have HDD := Lib.hid hD
    have hp1 : PickAt w1 R v zs a := by rw [hw1]; exact hp.alloc _
    have HG1 : Hid (w.grownBy w1 (some R)) := by unfold Hid; rw [hw1]; exact World.grownBy_alloc w _ _
    have hnD : w1.heap[D]? = some (.cells #[.int .i64 0, .int .u64 0, .int .u64 0, .int .u64 0, .int .u64 0, .slice none 0 0] 28 (0, 0)) := by rw [hw1, hD]; exact heap_alloc_new _ _
    have hDl : D < w1.heap.size := (Array.getElem?_eq_some_iff.1 hnD).1
    have HND := Lib.hid hnD
    have c1 := picknum_any (n := 11) hp1 (by omega) (by decide)
    unfold Picks at c1
    clear hp hp1 hw1 hD hnD
    go_enter Tryz.func13, Tryz.ntmps13
    go_wp2_with fail
    rw [← HW1.out, ← HDD.out]
    ((with_reducible refine c1.mono ?_))
    rintro _ w3 ⟨rfl, hp3, hg3⟩
    have hDR : R ≠ D := by have := HDD.out; omega
    have H3D : Hid (w3.heap[D]? = some (.cells #[.int .i64 0, .int .u64 0, .int .u64 0, .int .u64 0, .int .u64 0, .slice none 0 0] 28 (0, 0))) := (hg3.block D hDl (fun e => by cases e; exact hDR rfl)).trans HND.out
    have HDL3 : Hid (D < w3.heap.size) := Nat.lt_of_lt_of_le hDl hg3.size
    have HP3 := Lib.hid hp3
    have HG3 : Hid (w.grownBy w3 (some R)) := HG1.out.trans hg3
    clear hp3 hg3 c1 hDl hDR
    have hK5 : pickF zs a 11 % 5 < 5 := Nat.mod_lt _ (by decide)
    obtain ⟨K, hK⟩ : ∃ K, K = pickF zs a 11 % 5 := ⟨_, rfl⟩
    have hmod : (pickF zs a 11 : Int) % 5 = (K : Int) := by omega
    rw [← hK] at hK5 HT
    clear hK
    by_cases h4 : K < 4
    · have h4z : (K : Int) < 4 := by omega
      have c2 := picknum_any (n := 3) HP3.out (by omega) (by decide)
      unfold Picks at c2
      have hm3 := pick3 zs (a + 1)
      obtain ⟨M, hM⟩ : ∃ M, M = pickF zs (a + 1) 3 := ⟨_, rfl⟩
      obtain ⟨M2, hM2⟩ : ∃ M2, M2 = pickF zs (a + 2) 4 := ⟨_, rfl⟩
      have hm4 := pick4 zs (a + 2)
      have HTT : Hid (T = (letM (97 + (M : Int)) (97 + (M : Int) + (M2 : Int) / 3), a + 1 + 2)) := by unfold Hid; rw [HT.out, leafM, if_pos h4, hM, hM2]
      rw [← hM] at c2 hm3
      rw [← hM2] at hm4
      have HM2 := Lib.hid hM2
      clear hM hM2 h4 hK5 HT
      have HT := HTT
      clear HTT
      go_wp2_with fail
      ((with_reducible refine c2.mono ?_))
      rintro _ w4 ⟨rfl, hp4, hg4⟩
      have c3 := picknum_any (n := 4) hp4 (by omega) (by decide)
      unfold Picks at c3
      rw [show a + 1 + 1 = a + 2 from rfl, ← HM2.out] at c3
      have hDR : R ≠ D := by have := HDD.out; omega
      have H4D : Hid (w4.heap[D]? = some (.cells #[.int .i64 0, .int .u64 0, .int .u64 0, .int .u64 0, .int .u64 0, .slice none 0 0] 28 (0, 0))) := (hg4.block D HDL3.out (fun e => by cases e; exact hDR rfl)).trans H3D.out
      have HG4 : Hid (w.grownBy w4 (some R)) := HG3.out.trans hg4
      have hw34 : w3.heap.size ≤ w4.heap.size := hg4.size
      clear hp4 hg4 c2
      go_wp2_with fail
      ((with_reducible refine c3.mono ?_))
      rintro _ w6 ⟨rfl, hp6, hg6⟩
      have c9 := letter_any (P := fun b => w6.heap.size ≤ b ∨ w6.heap.size ≤ b) w6 (97 + (M : Int)) (97 + (M : Int) + (M2 : Int) / 3)
      have H6D : Hid (w6.heap[D]? = some (.cells #[.int .i64 0, .int .u64 0, .int .u64 0, .int .u64 0, .int .u64 0, .slice none 0 0] 28 (0, 0))) := (hg6.block D (Nat.lt_of_lt_of_le HDL3.out hw34) (fun e => by cases e; exact hDR rfl)).trans H4D.out
      have HP6 := Lib.hid hp6
      have HG6 : Hid (w.grownBy w6 (some R)) := HG4.out.trans hg6
      have hw4 : w3.heap.size ≤ w6.heap.size := Nat.le_trans hw34 hg6.size
      clear hp6 hg6 c3 H4D HG4
      go_wp2_with fail
      ((with_reducible refine c9.mono ?_))
      rintro _ w5 ⟨x5, rfl, hx5, hb5⟩
      clear c9
      obtain ⟨k, a0, b, c, dw, q, m, cp⟩ := x5
      have h5D := (hb5.block D (Nat.lt_of_lt_of_le HDL3.out hw4)).trans H6D.out
      have H5D := Lib.hid h5D
      have d0 : w5.cell? ⟨D, 0, none⟩ = some (.int .i64 0) := by simp [World.cell?, h5D]
      have d1 : w5.cell? ⟨D, 1, none⟩ = some (.int .u64 0) := by simp [World.cell?, h5D]
      have d2 : w5.cell? ⟨D, 2, none⟩ = some (.int .u64 0) := by simp [World.cell?, h5D]
      have d3 : w5.cell? ⟨D, 3, none⟩ = some (.int .u64 0) := by simp [World.cell?, h5D]
      have d4 : w5.cell? ⟨D, 4, none⟩ = some (.int .u64 0) := by simp [World.cell?, h5D]
      have d5 : w5.cell? ⟨D, 5, none⟩ = some (.slice none 0 0) := by simp [World.cell?, h5D]
      have f0 := frozen_no h5D 0
      have f1 := frozen_no h5D 1
      have f2 := frozen_no h5D 2
      have f3 := frozen_no h5D 3
      have f4 := frozen_no h5D 4
      have f5 := frozen_no h5D 5
      have HX5 := Lib.hid hx5
      have HB5 := Lib.hid hb5
      clear hx5 hb5 h5D
      unfold ReV.val
      go_wp2
      refine bodyPost_ret_by (results_cell_row rfl _ _ D 28 #[.int .i64 k, .int .u64 a0, .int .u64 b, .int .u64 c, .int .u64 dw, .slice q m cp] (0, 0) _ rfl (set6_heap H5D.out _ _ _ _ _ _) Tryz.underlying28 rfl (by kernel_rfl)) rfl ?_
      rw [HT.out]
      refine ⟨⟨k, a0, b, c, dw, q, m, cp⟩, rfl, ?_, ?_, ?_⟩
      · refine HX5.out.kept (Keeps.of (by simp [World.setCell]) fun b hp hl => ?_)
        have h1 := HDL3.out
        have h2 := HDD.out
        have hbD : b ≠ D := by
          rcases hp with hp | hp
          · omega
          · omega
        exact ⟨six_ne hbD _ _ _ _ _ _, by rcases hp with hp | hp <;> omega⟩
      · refine HP6.out.kept fun b hb => ?_
        have h1 := HDD.out
        rw [six_ne (by omega)]
        exact HB5.out.block b (by have := HP6.out.lt; omega)
      · have hg5 := HG6.out.trans (grown_of (r := some R) HB5.out)
        exact grown_six hg5 (by have := HDD.out; omega) _ _ _ _ _ _
    · have h4z : ¬ (K : Int) < 4 := by omega
      have hK4 : (K : Int) = 4 := by omega
      have c2 := picknum_any (n := 4) HP3.out (by omega) (by decide)
      unfold Picks at c2
      have hm4 := pick4 zs (a + 1)
      obtain ⟨M, hM⟩ : ∃ M, M = pickF zs (a + 1) 4 := ⟨_, rfl⟩
      have HTT : Hid (T = (.mk ((M : Int) / 3) W4.zero [], a + 1 + 1)) := by unfold Hid; rw [HT.out, leafM, if_neg h4, hM]
      rw [← hM] at c2 hm4
      clear hM h4 hK5 HT
      have HT := HTT
      clear HTT
      go_wp2_with fail
      ((with_reducible refine c2.mono ?_))
      rintro _ w4 ⟨rfl, hp4, hg4⟩
      have hDR : R ≠ D := by have := HDD.out; omega
      have h4D : w4.heap[D]? = some (.cells #[.int .i64 0, .int .u64 0, .int .u64 0, .int .u64 0, .int .u64 0, .slice none 0 0] 28 (0, 0)) := (hg4.block D HDL3.out (fun e => by cases e; exact hDR rfl)).trans H3D.out
      have H4D := Lib.hid h4D
      have HP4 := Lib.hid hp4
      have HG4 : Hid (w.grownBy w4 (some R)) := HG3.out.trans hg4
      have d0 : w4.cell? ⟨D, 0, none⟩ = some (.int .i64 0) := by simp [World.cell?, h4D]
      have d1 : w4.cell? ⟨D, 1, none⟩ = some (.int .u64 0) := by simp [World.cell?, h4D]
      have d2 : w4.cell? ⟨D, 2, none⟩ = some (.int .u64 0) := by simp [World.cell?, h4D]
      have d3 : w4.cell? ⟨D, 3, none⟩ = some (.int .u64 0) := by simp [World.cell?, h4D]
      have d4 : w4.cell? ⟨D, 4, none⟩ = some (.int .u64 0) := by simp [World.cell?, h4D]
      have d5 : w4.cell? ⟨D, 5, none⟩ = some (.slice none 0 0) := by simp [World.cell?, h4D]
      have f0 := frozen_no h4D 0
      have f1 := frozen_no h4D 1
      have f2 := frozen_no h4D 2
      have f3 := frozen_no h4D 3
      have f4 := frozen_no h4D 4
      have f5 := frozen_no h4D 5
      clear hp4 hg4 c2 h4D
      go_wp2
      refine bodyPost_ret_by (results_cell_row rfl _ _ D 28 #[.int .i64 ((M : Int) / 3), .int .u64 0, .int .u64 0, .int .u64 0, .int .u64 0, .slice none 0 0] (0, 0) _ rfl (set6_heap H4D.out _ _ _ _ _ _) Tryz.underlying28 rfl (by kernel_rfl)) rfl ?_
      rw [HT.out]
      refine ⟨⟨(M : Int) / 3, 0, 0, 0, 0, none, 0, 0⟩, rfl, ?_, ?_, ?_⟩
      · exact kids_empty.tree ((M : Int) / 3) W4.zero zero_ok
      · refine HP4.out.kept fun b hb => ?_
        have h1 := HDD.out
        rw [six_ne (by omega)]
      · exact grown_six HG4.out (by have := HDD.out; omega) _ _ _ _ _ _
  | succ d ih =>
    intro hd w a hp ha
    have e8 : 8 ^ (d + 1 + 1) = 8 * 8 ^ (d + 1) := by rw [Nat.pow_succ 8 (d + 1), Nat.mul_comm]
    have hp8 : 1 ≤ 8 ^ (d + 1) := Nat.pow_pos (by decide)
    have hp9 : 8 ^ (d + 1) ≤ 4096 := Nat.pow_le_pow_right (by decide) (by omega : d + 1 ≤ 4)
    have hRw := hp.lt
    obtain ⟨T, hT⟩ : ∃ T, T = reM zs (d + 1) a := ⟨_, rfl⟩
    rw [← hT]
    rw [reM] at hT
    have HT := Lib.hid hT
    have HIH : Hid (∀ (w : World) (a : Nat), PickAt w R v zs a → a ≤ 900000 - 8 ^ (d + 1) → Calls Tryz.prog 13 #[.pointer (some ⟨R, 0, none⟩), .int .i64 (d : Int)] w (GivesP R v zs (reM zs d a).1 (reM zs d a).2 w)) := fun w a h1 h2 => ih (by omega) w a h1 h2
    have HB8 : Hid (8 ^ (d + 1) ≤ 4096 ∧ a + 8 * 8 ^ (d + 1) ≤ 900000) := ⟨hp9, by omega⟩
    have ha : a ≤ 899992 := by omega
    have hdz : ¬ ((d : Int) + 1 < 1) := by omega
    have ed : ((d + 1 : Nat) : Int) = (d : Int) + 1 := by omega
    rw [ed]
    clear hT ih e8 hp8 hp9 ed
    obtain ⟨D, hD⟩ : ∃ D, D = w.heap.size := ⟨_, rfl⟩
    obtain ⟨w1, hw1⟩ : ∃ w1 : World, w1 = w.alloc (.cells #[.int .i64 0, .int .u64 0, .int .u64 0, .int .u64 0, .int .u64 0, .slice none 0 0] 28) := ⟨_, rfl⟩
    have HW1 := Lib.hid hw1
    have HDD := Lib.hid hD
    have hp1 : PickAt w1 R v zs a := by rw [hw1]; exact hp.alloc _
    have HG1 : Hid (w.grownBy w1 (some R)) := by unfold Hid; rw [hw1]; exact World.grownBy_alloc w _ _
    have hnD : w1.heap[D]? = some (.cells #[.int .i64 0, .int .u64 0, .int .u64 0, .int .u64 0, .int .u64 0, .slice none 0 0] 28 (0, 0)) := by rw [hw1, hD]; exact heap_alloc_new _ _
    have hDl : D < w1.heap.size := (Array.getElem?_eq_some_iff.1 hnD).1
    have HND := Lib.hid hnD
    have c1 := picknum_any (n := 11) hp1 (by omega) (by decide)
    unfold Picks at c1
    clear hp hp1 hw1 hD hnD
    go_enter Tryz.func13, Tryz.ntmps13
    go_wp2_with fail
    rw [← HW1.out, ← HDD.out]
    ((with_reducible refine c1.mono ?_))
    rintro _ w3 ⟨rfl, hp3, hg3⟩
    have hDR : R ≠ D := by have := HDD.out; omega
    have H3D : Hid (w3.heap[D]? = some (.cells #[.int .i64 0, .int .u64 0, .int .u64 0, .int .u64 0, .int .u64 0, .slice none 0 0] 28 (0, 0))) := (hg3.block D hDl (fun e => by cases e; exact hDR rfl)).trans HND.out
    have HDL3 : Hid (D < w3.heap.size) := Nat.lt_of_lt_of_le hDl hg3.size
    have HP3 := Lib.hid hp3
    have HG3 : Hid (w.grownBy w3 (some R)) := HG1.out.trans hg3
    clear hp3 hg3 c1 hDl hDR
    by_cases hlt : pickF zs a 11 < 5
    · have hK5 := hlt
      obtain ⟨K, hK⟩ : ∃ K, K = pickF zs a 11 := ⟨_, rfl⟩
      have HT2 : Hid (T = leafM zs K (a + 1)) := by unfold Hid; rw [HT.out, if_pos hlt, hK]
      rw [← hK] at hK5 ⊢
      clear hK hlt HT
      have HT := HT2
      clear HT2
      by_cases h4 : K < 4
      · have h4z : (K : Int) < 4 := by omega
        have c2 := picknum_any (n := 3) HP3.out (by omega) (by decide)
        unfold Picks at c2
        have hm3 := pick3 zs (a + 1)
        obtain ⟨M, hM⟩ : ∃ M, M = pickF zs (a + 1) 3 := ⟨_, rfl⟩
        obtain ⟨M2, hM2⟩ : ∃ M2, M2 = pickF zs (a + 2) 4 := ⟨_, rfl⟩
        have hm4 := pick4 zs (a + 2)
        have HTT : Hid (T = (letM (97 + (M : Int)) (97 + (M : Int) + (M2 : Int) / 3), a + 1 + 2)) := by unfold Hid; rw [HT.out, leafM, if_pos h4, hM, hM2]
        rw [← hM] at c2 hm3
        rw [← hM2] at hm4
        have HM2 := Lib.hid hM2
        clear hM hM2 h4 hK5 HT
        have HT := HTT
        clear HTT
        go_wp2_with fail
        ((with_reducible refine c2.mono ?_))
        rintro _ w4 ⟨rfl, hp4, hg4⟩
        have c3 := picknum_any (n := 4) hp4 (by omega) (by decide)
        unfold Picks at c3
        rw [show a + 1 + 1 = a + 2 from rfl, ← HM2.out] at c3
        have hDR : R ≠ D := by have := HDD.out; omega
        have H4D : Hid (w4.heap[D]? = some (.cells #[.int .i64 0, .int .u64 0, .int .u64 0, .int .u64 0, .int .u64 0, .slice none 0 0] 28 (0, 0))) := (hg4.block D HDL3.out (fun e => by cases e; exact hDR rfl)).trans H3D.out
        have HG4 : Hid (w.grownBy w4 (some R)) := HG3.out.trans hg4
        have hw34 : w3.heap.size ≤ w4.heap.size := hg4.size
        clear hp4 hg4 c2
        go_wp2_with fail
        ((with_reducible refine c3.mono ?_))
        rintro _ w6 ⟨rfl, hp6, hg6⟩
        have c9 := letter_any (P := fun b => w6.heap.size ≤ b ∨ w6.heap.size ≤ b) w6 (97 + (M : Int)) (97 + (M : Int) + (M2 : Int) / 3)
        have H6D : Hid (w6.heap[D]? = some (.cells #[.int .i64 0, .int .u64 0, .int .u64 0, .int .u64 0, .int .u64 0, .slice none 0 0] 28 (0, 0))) := (hg6.block D (Nat.lt_of_lt_of_le HDL3.out hw34) (fun e => by cases e; exact hDR rfl)).trans H4D.out
        have HP6 := Lib.hid hp6
        have HG6 : Hid (w.grownBy w6 (some R)) := HG4.out.trans hg6
        have hw4 : w3.heap.size ≤ w6.heap.size := Nat.le_trans hw34 hg6.size
        clear hp6 hg6 c3 H4D HG4
        go_wp2_with fail
        ((with_reducible refine c9.mono ?_))
        rintro _ w5 ⟨x5, rfl, hx5, hb5⟩
        clear c9
        obtain ⟨k, a0, b, c, dw, q, m, cp⟩ := x5
        have h5D := (hb5.block D (Nat.lt_of_lt_of_le HDL3.out hw4)).trans H6D.out
        have H5D := Lib.hid h5D
        have d0 : w5.cell? ⟨D, 0, none⟩ = some (.int .i64 0) := by simp [World.cell?, h5D]
        have d1 : w5.cell? ⟨D, 1, none⟩ = some (.int .u64 0) := by simp [World.cell?, h5D]
        have d2 : w5.cell? ⟨D, 2, none⟩ = some (.int .u64 0) := by simp [World.cell?, h5D]
        have d3 : w5.cell? ⟨D, 3, none⟩ = some (.int .u64 0) := by simp [World.cell?, h5D]
        have d4 : w5.cell? ⟨D, 4, none⟩ = some (.int .u64 0) := by simp [World.cell?, h5D]
        have d5 : w5.cell? ⟨D, 5, none⟩ = some (.slice none 0 0) := by simp [World.cell?, h5D]
        have f0 := frozen_no h5D 0
        have f1 := frozen_no h5D 1
        have f2 := frozen_no h5D 2
        have f3 := frozen_no h5D 3
        have f4 := frozen_no h5D 4
        have f5 := frozen_no h5D 5
        have HX5 := Lib.hid hx5
        have HB5 := Lib.hid hb5
        clear hx5 hb5 h5D
        unfold ReV.val
        go_wp2
        refine bodyPost_ret_by (results_cell_row rfl _ _ D 28 #[.int .i64 k, .int .u64 a0, .int .u64 b, .int .u64 c, .int .u64 dw, .slice q m cp] (0, 0) _ rfl (set6_heap H5D.out _ _ _ _ _ _) Tryz.underlying28 rfl (by kernel_rfl)) rfl ?_
        rw [HT.out]
        refine ⟨⟨k, a0, b, c, dw, q, m, cp⟩, rfl, ?_, ?_, ?_⟩
        · refine HX5.out.kept (Keeps.of (by simp [World.setCell]) fun b hp hl => ?_)
          have h1 := HDL3.out
          have h2 := HDD.out
          have hbD : b ≠ D := by
            rcases hp with hp | hp
            · omega
            · omega
          exact ⟨six_ne hbD _ _ _ _ _ _, by rcases hp with hp | hp <;> omega⟩
        · refine HP6.out.kept fun b hb => ?_
          have h1 := HDD.out
          rw [six_ne (by omega)]
          exact HB5.out.block b (by have := HP6.out.lt; omega)
        · have hg5 := HG6.out.trans (grown_of (r := some R) HB5.out)
          exact grown_six hg5 (by have := HDD.out; omega) _ _ _ _ _ _
      · have h4z : ¬ (K : Int) < 4 := by omega
        have hK4 : (K : Int) = 4 := by omega
        have c2 := picknum_any (n := 4) HP3.out (by omega) (by decide)
        unfold Picks at c2
        have hm4 := pick4 zs (a + 1)
        obtain ⟨M, hM⟩ : ∃ M, M = pickF zs (a + 1) 4 := ⟨_, rfl⟩
        have HTT : Hid (T = (.mk ((M : Int) / 3) W4.zero [], a + 1 + 1)) := by unfold Hid; rw [HT.out, leafM, if_neg h4, hM]
        rw [← hM] at c2 hm4
        clear hM h4 hK5 HT
        have HT := HTT
        clear HTT
        go_wp2_with fail
        ((with_reducible refine c2.mono ?_))
        rintro _ w4 ⟨rfl, hp4, hg4⟩
        have hDR : R ≠ D := by have := HDD.out; omega
        have h4D : w4.heap[D]? = some (.cells #[.int .i64 0, .int .u64 0, .int .u64 0, .int .u64 0, .int .u64 0, .slice none 0 0] 28 (0, 0)) := (hg4.block D HDL3.out (fun e => by cases e; exact hDR rfl)).trans H3D.out
        have H4D := Lib.hid h4D
        have HP4 := Lib.hid hp4
        have HG4 : Hid (w.grownBy w4 (some R)) := HG3.out.trans hg4
        have d0 : w4.cell? ⟨D, 0, none⟩ = some (.int .i64 0) := by simp [World.cell?, h4D]
        have d1 : w4.cell? ⟨D, 1, none⟩ = some (.int .u64 0) := by simp [World.cell?, h4D]
        have d2 : w4.cell? ⟨D, 2, none⟩ = some (.int .u64 0) := by simp [World.cell?, h4D]
        have d3 : w4.cell? ⟨D, 3, none⟩ = some (.int .u64 0) := by simp [World.cell?, h4D]
        have d4 : w4.cell? ⟨D, 4, none⟩ = some (.int .u64 0) := by simp [World.cell?, h4D]
        have d5 : w4.cell? ⟨D, 5, none⟩ = some (.slice none 0 0) := by simp [World.cell?, h4D]
        have f0 := frozen_no h4D 0
        have f1 := frozen_no h4D 1
        have f2 := frozen_no h4D 2
        have f3 := frozen_no h4D 3
        have f4 := frozen_no h4D 4
        have f5 := frozen_no h4D 5
        clear hp4 hg4 c2 h4D
        go_wp2
        refine bodyPost_ret_by (results_cell_row rfl _ _ D 28 #[.int .i64 ((M : Int) / 3), .int .u64 0, .int .u64 0, .int .u64 0, .int .u64 0, .slice none 0 0] (0, 0) _ rfl (set6_heap H4D.out _ _ _ _ _ _) Tryz.underlying28 rfl (by kernel_rfl)) rfl ?_
        rw [HT.out]
        refine ⟨⟨(M : Int) / 3, 0, 0, 0, 0, none, 0, 0⟩, rfl, ?_, ?_, ?_⟩
        · exact kids_empty.tree ((M : Int) / 3) W4.zero zero_ok
        · refine HP4.out.kept fun b hb => ?_
          have h1 := HDD.out
          rw [six_ne (by omega)]
        · exact grown_six HG4.out (by have := HDD.out; omega) _ _ _ _ _ _
    · obtain ⟨K, hK⟩ : ∃ K, K = pickF zs a 11 := ⟨_, rfl⟩
      have HT' := HT.out
      rw [if_neg hlt, ← hK] at HT'
      rw [← hK] at hlt ⊢
      have n4 : ¬ (K : Int) < 4 := by omega
      have n5 : ((K : Int) == 4) = false := by simp; omega
      clear hK HT
      by_cases h7 : K < 7
      · have h7z : (K : Int) < 7 := by omega
        rw [if_pos h7] at HT'
        have HT := Lib.hid HT'
        have c2 := HIH.out w3 (a + 1) HP3.out (by have := HB8.out; omega)
        clear HT' h7 hlt
        go_wp2_with fail
        ((with_reducible refine c2.mono ?_))
        rintro _ w4 ⟨x, rfl, hx, hp4, hg4⟩
        have hDR : R ≠ D := by have := HDD.out; omega
        have c3 := refstar_any w4 x _ hx
        have H4D : Hid (w4.heap[D]? = some (.cells #[.int .i64 0, .int .u64 0, .int .u64 0, .int .u64 0, .int .u64 0, .slice none 0 0] 28 (0, 0))) := (hg4.block D HDL3.out (fun e => by cases e; exact hDR rfl)).trans H3D.out
        have HP4 := Lib.hid hp4
        have HG4 : Hid (w.grownBy w4 (some R)) := HG3.out.trans hg4
        have hw4 : w3.heap.size ≤ w4.heap.size := hg4.size
        clear hx hp4 hg4 c2
        go_wp2_with fail
        ((with_reducible refine c3.mono ?_))
        rintro _ w5 ⟨x5, rfl, hx5, hb5⟩
        obtain ⟨k, a0, b, c, dw, q, m, cp⟩ := x5
        have h5D := (hb5.block D (Nat.lt_of_lt_of_le HDL3.out hw4)).trans H4D.out
        have H5D := Lib.hid h5D
        have d0 : w5.cell? ⟨D, 0, none⟩ = some (.int .i64 0) := by simp [World.cell?, h5D]
        have d1 : w5.cell? ⟨D, 1, none⟩ = some (.int .u64 0) := by simp [World.cell?, h5D]
        have d2 : w5.cell? ⟨D, 2, none⟩ = some (.int .u64 0) := by simp [World.cell?, h5D]
        have d3 : w5.cell? ⟨D, 3, none⟩ = some (.int .u64 0) := by simp [World.cell?, h5D]
        have d4 : w5.cell? ⟨D, 4, none⟩ = some (.int .u64 0) := by simp [World.cell?, h5D]
        have d5 : w5.cell? ⟨D, 5, none⟩ = some (.slice none 0 0) := by simp [World.cell?, h5D]
        have f0 := frozen_no h5D 0
        have f1 := frozen_no h5D 1
        have f2 := frozen_no h5D 2
        have f3 := frozen_no h5D 3
        have f4 := frozen_no h5D 4
        have f5 := frozen_no h5D 5
        have HX5 := Lib.hid hx5
        have HB5 := Lib.hid hb5
        clear hx5 hb5 h5D c3
        unfold ReV.val
        go_wp2
        refine bodyPost_ret_by (results_cell_row rfl _ _ D 28 #[.int .i64 k, .int .u64 a0, .int .u64 b, .int .u64 c, .int .u64 dw, .slice q m cp] (0, 0) _ rfl (set6_heap H5D.out _ _ _ _ _ _) Tryz.underlying28 rfl (by kernel_rfl)) rfl ?_
        rw [HT.out]
        refine ⟨⟨k, a0, b, c, dw, q, m, cp⟩, rfl, ?_, ?_, ?_⟩
        · refine HX5.out.kept (Keeps.of (by simp [World.setCell]) fun b hp hl => ?_)
          have h1 := HDL3.out
          have h2 := HDD.out
          have hbD : b ≠ D := by
            rcases hp with hp | hp
            · omega
            · omega
          exact ⟨six_ne hbD _ _ _ _ _ _, by rcases hp with hp | hp <;> omega⟩
        · refine HP4.out.kept fun b hb => ?_
          have h1 := HDD.out
          rw [six_ne (by omega)]
          exact HB5.out.block b (by have := HP4.out.lt; omega)
        · have hg5 := HG4.out.trans (grown_of (r := some R) HB5.out)
          exact grown_six hg5 (by have := HDD.out; omega) _ _ _ _ _ _
      · have n7 : ¬ (K : Int) < 7 := by omega
        rw [if_neg h7] at HT'
        have c2 := picknum_any (n := 3) HP3.out (by omega) (by decide)
        have hp3 := pick3 zs (a + 1)
        obtain ⟨M, hM⟩ : ∃ M, M = pickF zs (a + 1) 3 := ⟨_, rfl⟩
        unfold Picks at c2
        rw [← hM] at c2 HT' hp3
        have hs := some_any (R := R) (v := v) (zs := zs) (f := reM zs d) (dz := (d : Int)) (M := 900000 - 8 ^ (d + 1)) (B := 8 ^ (d + 1)) (fun a => ⟨(re_facts zs d a).2.2.2.1, (re_facts zs d a).2.2.2.2⟩) HIH.out
        have HSO : Hid (∀ w4, PickAt w4 R v zs (a + 1 + 1) → Calls Tryz.prog 24 #[.pointer (some ⟨R, 0, none⟩), .int .i64 (1 + (M : Int)), .int .i64 (d : Int)] w4 (GivesL R v zs (listR (reM zs d) (1 + M) (a + 2)).1 (listR (reM zs d) (1 + M) (a + 2)).2 w4)) := by
          intro w4 h4
          have := hs w4 (1 + M) (a + 2) h4 (by omega) (by
            have h1 := HB8.out
            have : (1 + M) * 8 ^ (d + 1) ≤ 3 * 8 ^ (d + 1) := Nat.mul_le_mul_right _ (by omega)
            omega)
          rw [show ((1 + M : Nat) : Int) = 1 + (M : Int) by omega] at this
          exact this
        have HSZ : Hid (((listR (reM zs d) (1 + M) (a + 2)).1.map RT.sz).sum ≤ 9000000000) := by
          have h1 := listR_sum (f := reM zs d) (B := 8 ^ d) (fun a => (re_facts zs d a).2.1) (1 + M) (a + 2)
          have h2 : (1 + M) * 8 ^ d ≤ 3 * 8 ^ (d + 1) := Nat.mul_le_mul (by omega) (Nat.pow_le_pow_right (by decide) (by omega))
          have h3 := HB8.out
          unfold Hid
          omega
        have hMb : (M : Int) ≤ 2 := by omega
        have HLI : Hid (T = (if K < 9 then (catM (listR (reM zs d) (1 + M) (a + 2)).1, (listR (reM zs d) (1 + M) (a + 2)).2) else (eitherM (listR (reM zs d) (1 + M) (a + 2)).1, (listR (reM zs d) (1 + M) (a + 2)).2))) := HT'
        obtain ⟨LL, hLL⟩ : ∃ LL, LL = listR (reM zs d) (1 + M) (a + 2) := ⟨_, rfl⟩
        rw [← hLL] at HSO HSZ HLI
        clear hs hM HT' h7 hlt hp3 hLL
        by_cases h9 : K < 9
        · have h9z : (K : Int) < 9 := by omega
          have HT : Hid (T = (catM LL.1, LL.2)) := by unfold Hid; rw [HLI.out, if_pos h9]
          clear h9 HLI
          go_wp2_with fail
          ((with_reducible refine c2.mono ?_))
          rintro _ w4' ⟨rfl, hp4, hg4⟩
          have c3 := HSO.out w4' hp4
          have hDR : R ≠ D := by have := HDD.out; omega
          have H7D : Hid (w4'.heap[D]? = some (.cells #[.int .i64 0, .int .u64 0, .int .u64 0, .int .u64 0, .int .u64 0, .slice none 0 0] 28 (0, 0))) := (hg4.block D HDL3.out (fun e => by cases e; exact hDR rfl)).trans H3D.out
          have HG7 : Hid (w.grownBy w4' (some R)) := HG3.out.trans hg4
          have hw7 : w3.heap.size ≤ w4'.heap.size := hg4.size
          clear hp4 hg4 c2
          go_wp2_with fail
          ((with_reducible refine c3.mono ?_))
          rintro _ w4 ⟨q4, n4, cp4, us4, rfl, hn4, ho4, hl4, he4, hp4, hg4⟩
          have hkr : KidsR w4 (fun b => w3.heap.size ≤ b) q4 n4 cp4 us4 LL.1 := by
            refine ⟨?_, hn4, hl4.trans hn4, fun i y t hy ht => (he4 i y t hy ht).weak fun b hb _ => by omega⟩
            rcases row_forms ho4 with ⟨e, h0⟩ | ⟨g, cp', e⟩
            · cases e; exact .inl ⟨h0, fun _ => rfl⟩
            · cases e
              obtain ⟨r1, r2, r3, r4⟩ := row_base ho4
              rcases ho4.2 with ⟨h2, _⟩ | ⟨g', cap', cur, hv, hb, hh, hc, hm, hsz, ht⟩
              · cases h2
              · obtain rfl : g = g' := by simp at hv; omega
                exact .inr ⟨g, 0, rfl, r2, r3, by omega, ⟨cur, _, by decide, hh⟩, fun j u hj => by rw [Nat.zero_add]; exact row_cell ho4 hj⟩
          have c5 := refcat_any w4 hkr HSZ.out
          have H4D : Hid (w4.heap[D]? = some (.cells #[.int .i64 0, .int .u64 0, .int .u64 0, .int .u64 0, .int .u64 0, .slice none 0 0] 28 (0, 0))) := (hg4.block D (Nat.lt_of_lt_of_le HDL3.out hw7) (fun e => by cases e; exact hDR rfl)).trans H7D.out
          have HP4 := Lib.hid hp4
          have HG4 : Hid (w.grownBy w4 (some R)) := HG7.out.trans hg4
          have hw4 : w3.heap.size ≤ w4.heap.size := Nat.le_trans hw7 hg4.size
          clear hn4 ho4 hl4 he4 hp4 hg4 hkr c3
          go_wp2_with fail
          ((with_reducible refine c5.mono ?_))
          rintro _ w5 ⟨x5, rfl, hx5, hb5⟩
          clear c5
          obtain ⟨k, a0, b, c, dw, q, m, cp⟩ := x5
          have h5D := (hb5.block D (Nat.lt_of_lt_of_le HDL3.out hw4)).trans H4D.out
          have H5D := Lib.hid h5D
          have d0 : w5.cell? ⟨D, 0, none⟩ = some (.int .i64 0) := by simp [World.cell?, h5D]
          have d1 : w5.cell? ⟨D, 1, none⟩ = some (.int .u64 0) := by simp [World.cell?, h5D]
          have d2 : w5.cell? ⟨D, 2, none⟩ = some (.int .u64 0) := by simp [World.cell?, h5D]
          have d3 : w5.cell? ⟨D, 3, none⟩ = some (.int .u64 0) := by simp [World.cell?, h5D]
          have d4 : w5.cell? ⟨D, 4, none⟩ = some (.int .u64 0) := by simp [World.cell?, h5D]
          have d5 : w5.cell? ⟨D, 5, none⟩ = some (.slice none 0 0) := by simp [World.cell?, h5D]
          have f0 := frozen_no h5D 0
          have f1 := frozen_no h5D 1
          have f2 := frozen_no h5D 2
          have f3 := frozen_no h5D 3
          have f4 := frozen_no h5D 4
          have f5 := frozen_no h5D 5
          have HX5 := Lib.hid hx5
          have HB5 := Lib.hid hb5
          clear hx5 hb5 h5D
          unfold ReV.val
          go_wp2
          refine bodyPost_ret_by (results_cell_row rfl _ _ D 28 #[.int .i64 k, .int .u64 a0, .int .u64 b, .int .u64 c, .int .u64 dw, .slice q m cp] (0, 0) _ rfl (set6_heap H5D.out _ _ _ _ _ _) Tryz.underlying28 rfl (by kernel_rfl)) rfl ?_
          rw [HT.out]
          refine ⟨⟨k, a0, b, c, dw, q, m, cp⟩, rfl, ?_, ?_, ?_⟩
          · refine HX5.out.kept (Keeps.of (by simp [World.setCell]) fun b hp hl => ?_)
            have h1 := HDL3.out
            have h2 := HDD.out
            have hbD : b ≠ D := by
              rcases hp with hp | hp
              · omega
              · omega
            exact ⟨six_ne hbD _ _ _ _ _ _, by rcases hp with hp | hp <;> omega⟩
          · refine HP4.out.kept fun b hb => ?_
            have h1 := HDD.out
            rw [six_ne (by omega)]
            exact HB5.out.block b (by have := HP4.out.lt; omega)
          · have hg5 := HG4.out.trans (grown_of (r := some R) HB5.out)
            exact grown_six hg5 (by have := HDD.out; omega) _ _ _ _ _ _
        · have n9 : ¬ (K : Int) < 9 := by omega
          have HT : Hid (T = (eitherM LL.1, LL.2)) := by unfold Hid; rw [HLI.out, if_neg h9]
          clear h9 HLI
          go_wp2_with fail
          ((with_reducible refine c2.mono ?_))
          rintro _ w4' ⟨rfl, hp4, hg4⟩
          have c3 := HSO.out w4' hp4
          have hDR : R ≠ D := by have := HDD.out; omega
          have H7D : Hid (w4'.heap[D]? = some (.cells #[.int .i64 0, .int .u64 0, .int .u64 0, .int .u64 0, .int .u64 0, .slice none 0 0] 28 (0, 0))) := (hg4.block D HDL3.out (fun e => by cases e; exact hDR rfl)).trans H3D.out
          have HG7 : Hid (w.grownBy w4' (some R)) := HG3.out.trans hg4
          have hw7 : w3.heap.size ≤ w4'.heap.size := hg4.size
          clear hp4 hg4 c2
          go_wp2_with fail
          ((with_reducible refine c3.mono ?_))
          rintro _ w4 ⟨q4, n4, cp4, us4, rfl, hn4, ho4, hl4, he4, hp4, hg4⟩
          have hkr : KidsR w4 (fun b => w3.heap.size ≤ b) q4 n4 cp4 us4 LL.1 := by
            refine ⟨?_, hn4, hl4.trans hn4, fun i y t hy ht => (he4 i y t hy ht).weak fun b hb _ => by omega⟩
            rcases row_forms ho4 with ⟨e, h0⟩ | ⟨g, cp', e⟩
            · cases e; exact .inl ⟨h0, fun _ => rfl⟩
            · cases e
              obtain ⟨r1, r2, r3, r4⟩ := row_base ho4
              rcases ho4.2 with ⟨h2, _⟩ | ⟨g', cap', cur, hv, hb, hh, hc, hm, hsz, ht⟩
              · cases h2
              · obtain rfl : g = g' := by simp at hv; omega
                exact .inr ⟨g, 0, rfl, r2, r3, by omega, ⟨cur, _, by decide, hh⟩, fun j u hj => by rw [Nat.zero_add]; exact row_cell ho4 hj⟩
          have c5 := refeither_any w4 hkr HSZ.out
          have H4D : Hid (w4.heap[D]? = some (.cells #[.int .i64 0, .int .u64 0, .int .u64 0, .int .u64 0, .int .u64 0, .slice none 0 0] 28 (0, 0))) := (hg4.block D (Nat.lt_of_lt_of_le HDL3.out hw7) (fun e => by cases e; exact hDR rfl)).trans H7D.out
          have HP4 := Lib.hid hp4
          have HG4 : Hid (w.grownBy w4 (some R)) := HG7.out.trans hg4
          have hw4 : w3.heap.size ≤ w4.heap.size := Nat.le_trans hw7 hg4.size
          clear hn4 ho4 hl4 he4 hp4 hg4 hkr c3
          go_wp2_with fail
          ((with_reducible refine c5.mono ?_))
          rintro _ w5 ⟨x5, rfl, hx5, hb5⟩
          clear c5
          obtain ⟨k, a0, b, c, dw, q, m, cp⟩ := x5
          have h5D := (hb5.block D (Nat.lt_of_lt_of_le HDL3.out hw4)).trans H4D.out
          have H5D := Lib.hid h5D
          have d0 : w5.cell? ⟨D, 0, none⟩ = some (.int .i64 0) := by simp [World.cell?, h5D]
          have d1 : w5.cell? ⟨D, 1, none⟩ = some (.int .u64 0) := by simp [World.cell?, h5D]
          have d2 : w5.cell? ⟨D, 2, none⟩ = some (.int .u64 0) := by simp [World.cell?, h5D]
          have d3 : w5.cell? ⟨D, 3, none⟩ = some (.int .u64 0) := by simp [World.cell?, h5D]
          have d4 : w5.cell? ⟨D, 4, none⟩ = some (.int .u64 0) := by simp [World.cell?, h5D]
          have d5 : w5.cell? ⟨D, 5, none⟩ = some (.slice none 0 0) := by simp [World.cell?, h5D]
          have f0 := frozen_no h5D 0
          have f1 := frozen_no h5D 1
          have f2 := frozen_no h5D 2
          have f3 := frozen_no h5D 3
          have f4 := frozen_no h5D 4
          have f5 := frozen_no h5D 5
          have HX5 := Lib.hid hx5
          have HB5 := Lib.hid hb5
          clear hx5 hb5 h5D
          unfold ReV.val
          go_wp2
          refine bodyPost_ret_by (results_cell_row rfl _ _ D 28 #[.int .i64 k, .int .u64 a0, .int .u64 b, .int .u64 c, .int .u64 dw, .slice q m cp] (0, 0) _ rfl (set6_heap H5D.out _ _ _ _ _ _) Tryz.underlying28 rfl (by kernel_rfl)) rfl ?_
          rw [HT.out]
          refine ⟨⟨k, a0, b, c, dw, q, m, cp⟩, rfl, ?_, ?_, ?_⟩
          · refine HX5.out.kept (Keeps.of (by simp [World.setCell]) fun b hp hl => ?_)
            have h1 := HDL3.out
            have h2 := HDD.out
            have hbD : b ≠ D := by
              rcases hp with hp | hp
              · omega
              · omega
            exact ⟨six_ne hbD _ _ _ _ _ _, by rcases hp with hp | hp <;> omega⟩
          · refine HP4.out.kept fun b hb => ?_
            have h1 := HDD.out
            rw [six_ne (by omega)]
            exact HB5.out.block b (by have := HP4.out.lt; omega)
          · have hg5 := HG4.out.trans (grown_of (r := some R) HB5.out)
            exact grown_six hg5 (by have := HDD.out; omega) _ _ _ _ _ _

end Go.Proofs.YtclnadjgbpihcaaGreatDoor

/-! A region that draws its order, by an invariant: each operation is walked once. No condition. -/
namespace Go.Proofs.YtclnadjgbpihcaaGreatDoor
open Go.RowKit
set_option linter.unusedVariables false
set_option linter.unusedSimpArgs false

section
variable {P : Program} {ops : Array Oper} {Q : Exit → Act → World → Prop} {md : Region.Mode}
theorem ready_iff {listed : Array Bool} {i : Nat} : i ∈ Region.ready md ops listed ↔ i < ops.size ∧ listed.getD i true = false ∧ ∃ o, ops[i]? = some o ∧ ∀ e ∈ o.after, Region.binds md e = true → listed.getD e.on false = true := by
  unfold Region.ready
  rw [List.mem_filter, List.mem_range]
  refine and_congr_right fun hi => ?_
  rw [Array.getElem?_eq_getElem hi]
  simp only [Option.map_some, Option.getD_some, Bool.and_eq_true, Bool.not_eq_true', Array.all_eq_true_iff_forall_mem, Bool.or_eq_true]
  refine and_congr_right fun _ => ⟨fun h => ⟨_, rfl, fun e he hb => (h e he).resolve_left (by simp [hb])⟩, fun ⟨o, ho, h⟩ e he => ?_⟩
  have e1 := Option.some.inj ho
  subst e1
  cases hb : Region.binds md e with
  | false => exact .inl rfl
  | true => exact .inr (h e he hb)
theorem count_set : ∀ (l : List Bool) (i : Nat), l[i]? = some false → (l.set i true).count false + 1 = l.count false
  | [], i, h => by simp at h
  | b :: l, 0, h => by
    simp at h
    subst h
    simp
  | b :: l, i + 1, h => by
    simp at h
    have := count_set l i h
    simp only [List.set_cons_succ, List.count_cons]
    omega
theorem wpAny_inv {J : Array Bool → Act → World → Prop} (hstep : ∀ (listed : Array Bool) (a : Act) (w : World) (i : Nat), listed.size = ops.size → J listed a w → i ∈ Region.ready md ops listed → wpOp P ops Q i (J (listed.setIfInBounds i true)) a w)
    (hdone : ∀ (listed : Array Bool) (a : Act) (w : World), listed.size = ops.size → J listed a w → Region.ready md ops listed = [] → Q .normal a w) :
    ∀ (fuel : Nat) (listed : Array Bool) (a : Act) (w : World), listed.size = ops.size → listed.toList.count false ≤ fuel → J listed a w → wpAny P md ops Q fuel listed a w
  | 0, listed, a, w, hs, hc, hJ => by
    have hr : Region.ready md ops listed = [] := by
      rw [List.eq_nil_iff_forall_not_mem]
      intro i hi
      obtain ⟨h1, h2, _⟩ := ready_iff.1 hi
      have hl : i < listed.size := by omega
      rw [Array.getD_eq_getD_getElem?, Array.getElem?_eq_getElem hl] at h2
      have hm : false ∈ listed.toList := by
        rw [← show listed[i] = false from h2]
        exact Array.getElem_mem_toList hl
      have := List.count_pos_iff.2 hm
      omega
    exact ⟨hr, hdone _ _ _ hs hJ hr⟩
  | fuel + 1, listed, a, w, hs, hc, hJ => by
    refine ⟨hdone _ _ _ hs hJ, fun i hi => wpOp_mono (fun a' w' h => wpAny_inv hstep hdone fuel _ a' w' (by simpa using hs) ?_ h) (hstep _ _ _ i hs hJ hi)⟩
    obtain ⟨h1, h2, _⟩ := ready_iff.1 hi
    have hl : i < listed.size := by omega
    rw [Array.getD_eq_getD_getElem?, Array.getElem?_eq_getElem hl] at h2
    have h3 := count_set listed.toList i (by rw [Array.getElem?_toList, Array.getElem?_eq_getElem hl]; exact congrArg some h2)
    rw [Array.toList_setIfInBounds]
    omega
/-- Where each operation waits for elder ones alone, all have come up in the end. -/
theorem all_listed {listed : Array Bool} (hacy : ∀ (i : Nat) (o : Oper), ops[i]? = some o → ∀ e ∈ o.after, e.on < i) (hs : listed.size = ops.size) (hr : Region.ready md ops listed = []) : ∀ i, i < ops.size → listed.getD i false = true := by
  intro i
  induction i using Nat.strongRecOn with
  | _ i ih =>
  intro hi
  cases hl : listed.getD i false with
  | true => rfl
  | false =>
    have hm : i ∈ Region.ready md ops listed := ready_iff.2 ⟨hi, by rw [Array.getD_eq_getD_getElem?, Array.getElem?_eq_getElem (by omega)] at hl ⊢; exact hl, ops[i], Array.getElem?_eq_getElem hi, fun e he _ => ih e.on (hacy i _ (Array.getElem?_eq_getElem hi) e he) (by have := hacy i _ (Array.getElem?_eq_getElem hi) e he; omega)⟩
    rw [hr] at hm
    cases hm
/-- A region that draws its order, by what holds at every time. -/
theorem wp_region_inv {id : Nat} {a : Act} {w : World} (J : Array Bool → Act → World → Prop) (hm : P.follows .mixedOrders = true)
    (h0 : J (Array.replicate ops.size false) a { w with drawn := w.drawn + 1 })
    (hstep : ∀ (listed : Array Bool) (a : Act) (w : World) (i : Nat), listed.size = ops.size → J listed a w → i ∈ Region.ready .any ops listed → wpOp P ops Q i (J (listed.setIfInBounds i true)) a w)
    (hdone : ∀ (listed : Array Bool) (a : Act) (w : World), listed.size = ops.size → J listed a w → Region.ready .any ops listed = [] → Q .normal a w) : (Code.region id ops true).wp P Q a w :=
  wp_region_any hm (wpAny_inv hstep hdone ops.size _ a _ (by simp) (by simp) h0)
end

end Go.Proofs.YtclnadjgbpihcaaGreatDoor

/-! Regions that draw their order and only read, call and reckon, held by an invariant: one law for each kind of operation. No condition. -/
namespace Go.Proofs.YtclnadjgbpihcaaGreatDoor
open Go.RowKit Go.Lib
set_option linter.unusedVariables false
set_option linter.unusedSimpArgs false

/-- The operations of a region. -/
noncomputable def opsAt (n : Nat) : Code → Array Oper
  | .region m ops _ => if m = n then ops else #[]
  | .seq a b => if (opsAt n a).size = 0 then opsAt n b else opsAt n a
  | _ => #[]
/-- Where operation i of n writes: the last one elsewhere. -/
def dR (n a0 b0 i : Nat) : Nat := if i + 1 = n then a0 else i + b0
/-- What a slot holds: this value, an expression, a slice of this one byte. -/
inductive SD
  | v (u : Value)
  | x (t : RT)
  | b (z : Int)
  | k (t u : RT)
def SD.at : SD → World → Value → Prop
  | .v u, _, z => z = u
  | .x t, W, z => ∃ y : ReV, z = y.val ∧ RAt W (fun _ => True) y t
  | .b c, W, z => ∃ g, z = .slice (some ⟨g, 0, none⟩) 1 1 ∧ g < W.heap.size ∧ W.cell? ⟨g, 0, none⟩ = some (.int .u8 c)
  | .k t u, W, z => ∃ (q : Option Addr) (m cp : Nat) (vs : List ReV), z = .slice q m cp ∧ KidsR W (fun _ => True) q m cp vs [t, u]
theorem SD.under {s : SD} {W W' : World} {z : Value} (h : s.at W z) (hb : Below W.heap.size W W') : s.at W' z := by
  cases s with
  | v u => exact h
  | x t => obtain ⟨y, e, h⟩ := h; exact ⟨y, e, h.under hb⟩
  | b c => obtain ⟨g, e, hl, h⟩ := h; exact ⟨g, e, Nat.lt_of_lt_of_le hl hb.size, (hb.cell (p := ⟨g, 0, none⟩) hl).trans h⟩
  | k t u => obtain ⟨q, m, cp, vs, e, h⟩ := h; exact ⟨q, m, cp, vs, e, h.under hb⟩
def tt : Value := .bool true
/-- While a region runs: S says what each operation's slot holds, F what slots hold that no operation writes. -/
def JR (n nt a0 b0 : Nat) (S : List SD) (F : List (Nat × Value)) (W : World) (L : Array Bool) (a : Act) (w : World) : Prop :=
  a.tmps.size = nt ∧ a.defers = [] ∧ Below W.heap.size W w ∧ (∀ x ∈ F, a.tmps.getD x.1 undef = x.2) ∧ ∀ (i : Nat) (s : SD), S[i]? = some s → L.getD i false = true → s.at w (a.tmps.getD (dR n a0 b0 i) undef)
/-- What is asked of a region. -/
structure RegK (ops : Array Oper) (n nt a0 b0 : Nat) (S : List SD) (F : List (Nat × Value)) : Prop where
  sz : ops.size = n
  elder : (ops.toList.zipIdx.all fun x => x.1.after.all fun e => decide (e.on < x.2)) = true
  len : S.length = n
  ab : a0 < b0
  top : b0 + n ≤ nt + 1
  keys : ∀ x ∈ F, x.1 ≠ a0 ∧ x.1 < b0
section
variable {ops : Array Oper} {n nt a0 b0 : Nat} {S : List SD} {F : List (Nat × Value)} {W w w' : World} {v : Value} {i j : Nat} {L : Array Bool} {a : Act} {s : SD} {K : Act → World → Prop} {Q : Exit → Act → World → Prop} {o : Oper}
theorem RegK.acy (hk : RegK ops n nt a0 b0 S F) (i : Nat) (o : Oper) (h : ops[i]? = some o) : ∀ e ∈ o.after, e.on < i := by
  have h1 := List.all_eq_true.1 hk.elder (o, i) (by rw [List.mem_zipIdx_iff_getElem?]; simpa using h)
  intro e he
  simpa using (Array.all_eq_true_iff_forall_mem.1 h1) e he
theorem JR.step (hk : RegK ops n nt a0 b0 S F) (h : JR n nt a0 b0 S F W L a w) (hi : S[i]? = some s) (hL : L.size = n) (hs : s.at w' v) (hb : Below w.heap.size w w') : JR n nt a0 b0 S F W (L.setIfInBounds i true) (a.put (some (dR n a0 b0 i)) v) w' := by
  obtain ⟨h1, h2, h3, h4, h6⟩ := h
  have hi' : i < n := by have := (List.getElem?_eq_some_iff.1 hi).1; have := hk.len; omega
  have hab := hk.ab
  have htop := hk.top
  have hd : dR n a0 b0 i < nt := by unfold dR; split <;> omega
  refine ⟨by simpa [Act.put] using h1, h2, h3.trans (hb.mono h3.size), fun x hx => ?_, fun k s' hk' hl => ?_⟩
  · have hx1 := hk.keys x hx
    have hne : dR n a0 b0 i ≠ x.1 := by unfold dR; split <;> omega
    simp only [Act.put]
    rw [Array.getD_eq_getD_getElem?, Array.getElem?_setIfInBounds_ne hne, ← Array.getD_eq_getD_getElem?]
    exact h4 x hx
  · have hkn : k < n := by have := (List.getElem?_eq_some_iff.1 hk').1; have := hk.len; omega
    simp only [Act.put]
    by_cases e : k = i
    · subst e
      rw [hi] at hk'
      obtain rfl := Option.some.inj hk'
      rw [Array.getD_eq_getD_getElem?, Array.getElem?_setIfInBounds_self_of_lt (by omega)]
      exact hs
    · have hne : dR n a0 b0 i ≠ dR n a0 b0 k := by unfold dR; split <;> split <;> omega
      rw [Array.getD_eq_getD_getElem?, Array.getElem?_setIfInBounds_ne hne, ← Array.getD_eq_getD_getElem?]
      rw [Array.getD_eq_getD_getElem?, Array.getElem?_setIfInBounds_ne (Ne.symm e), ← Array.getD_eq_getD_getElem?] at hl
      exact SD.under (h6 k s' hk' hl) hb
theorem JR.get (h : JR n nt a0 b0 S F W L a w) (hr : i ∈ Region.ready .any ops L) (hd : ((ops[i]?).map fun o => o.after.any fun e => decide (e.on = j) && Region.binds .any e) = some true) (hj : S[j]? = some s) : s.at w (a.tmps.getD (dR n a0 b0 j) undef) := by
  obtain ⟨_, _, o, ho, h3⟩ := ready_iff.1 hr
  rw [ho] at hd
  have hd' : (o.after.any fun e => decide (e.on = j) && Region.binds .any e) = true := Option.some.inj hd
  rw [← Array.any_toList] at hd'
  obtain ⟨e, he, hc⟩ := List.any_eq_true.1 hd'
  have he := Array.mem_toList_iff.1 he
  simp only [Bool.and_eq_true, decide_eq_true_eq] at hc
  have := h3 e he hc.2
  rw [hc.1] at this
  exact h.2.2.2.2 j s hj this
set_option maxRecDepth 100000 in
theorem atP {d : Nat} {X : Op} (hm : ((ops[i]?).map fun o => (o.dst, o.op, o.guard)) = some (some d, X, none)) (h : ∀ o : Oper, o.op = X → o.dst = some d → o.wp Tryz.prog a w K Q) : wpOp Tryz.prog ops Q i K a w := by
  obtain ⟨o, ho, he⟩ := Option.map_eq_some_iff.1 hm
  simp only [Prod.mk.injEq] at he
  unfold wpOp
  rw [ho]
  show if Region.wanted o _ then _ else _
  rw [if_pos (by unfold Region.wanted; rw [he.2.2])]
  exact .inl (h o he.2.1 he.1)
set_option maxRecDepth 100000 in
theorem atG {d : Nat} {X : Op} {g m : Nat} (hm : ((ops[i]?).map fun o => (o.dst, o.op, o.guard)) = some (some d, X, some (g, true))) (hg : (ops[g]?).bind (·.dst) = some m) (hv : a.tmps.getD m undef = tt) (h : ∀ o : Oper, o.op = X → o.dst = some d → o.wp Tryz.prog a w K Q) : wpOp Tryz.prog ops Q i K a w := by
  obtain ⟨o, ho, he⟩ := Option.map_eq_some_iff.1 hm
  simp only [Prod.mk.injEq] at he
  have hy : yielded ops a.tmps g = some true := by
    unfold yielded
    rw [hg]
    show (match a.tmps[m]? with | some (.bool b) => some b | _ => none) = some true
    rw [Array.getD_eq_getD_getElem?] at hv
    cases e : a.tmps[m]? with
    | none => rw [e] at hv; exact absurd hv (by unfold undef tt; simp)
    | some z => rw [e] at hv; simp at hv; rw [hv]; rfl
  unfold wpOp
  rw [ho]
  show if Region.wanted o _ then _ else _
  rw [if_pos (by unfold Region.wanted; rw [he.2.2]; simp [hy])]
  exact .inl (h o he.2.1 he.1)
theorem opMove {d : Tmp} {s : SD} (hd : s.at w (a.tmps.getD d undef)) (ho : o.op = .move (.tmp d)) (hK : ∀ v w', s.at w' v → Below w.heap.size w w' → K (a.put o.dst v) w') : o.wp Tryz.prog a w K Q := by
  unfold Oper.wp execOp
  simp only [ho]
  exact hK _ _ hd (Below.refl _ _)
theorem opAssign {d : Tmp} {s : SD} (hd : s.at w (a.tmps.getD d undef)) (ho : o.op = .assign (.tmp d)) (hK : ∀ v w', s.at w' v → Below w.heap.size w w' → K (a.put o.dst v) w') : o.wp Tryz.prog a w K Q := by
  unfold Oper.wp execOp
  simp only [ho]
  exact hK _ _ hd (Below.refl _ _)
theorem opPick {c d : Tmp} (hc : a.tmps.getD c undef = tt) (hd : a.tmps.getD d undef = tt) (ho : o.op = .pick (.tmp c) (.tmp d) (.const (.bool false))) (hK : ∀ v w', (SD.v tt).at w' v → Below w.heap.size w w' → K (a.put o.dst v) w') : o.wp Tryz.prog a w K Q := by
  have hx : a.eval (.tmp c) = .bool true := hc
  have hy : a.eval (.tmp d) = .bool true := hd
  have hk := hK (.bool true) w rfl (Below.refl _ _)
  unfold Oper.wp
  generalize a.eval = ev at hx hy ⊢
  simp [execOp, ho, hx, hy, go_sem]
  exact hk
theorem opNot {c : Tmp} {b : Bool} (hc : a.tmps.getD c undef = .bool b) (ho : o.op = .unOp .not 4 (.tmp c)) (hK : ∀ v w', (SD.v (.bool (!b))).at w' v → Below w.heap.size w w' → K (a.put o.dst v) w') : o.wp Tryz.prog a w K Q := by
  have hx : a.eval (.tmp c) = .bool b := hc
  have hk := hK (.bool (!b)) w rfl (Below.refl _ _)
  unfold Oper.wp
  generalize a.eval = ev at hx ⊢
  simp [execOp, ho, hx, go_sem]
  exact hk
theorem opEqB {c d : Tmp} {b : Bool} (hc : a.tmps.getD c undef = .bool b) (hd : a.tmps.getD d undef = .bool b) (ho : o.op = .binOp .eql 4 (.tmp c) (.tmp d) 4) (hK : ∀ v w', (SD.v tt).at w' v → Below w.heap.size w w' → K (a.put o.dst v) w') : o.wp Tryz.prog a w K Q := by
  have hx : a.eval (.tmp c) = .bool b := hc
  have hy : a.eval (.tmp d) = .bool b := hd
  have hk := hK (.bool true) w rfl (Below.refl _ _)
  unfold Oper.wp
  generalize a.eval = ev at hx hy ⊢
  simp [execOp, ho, hx, hy, go_sem]
  exact hk
theorem opEqI {c : Tmp} {z : Int} (hc : a.tmps.getD c undef = .int .i64 z) (ho : o.op = .binOp .eql 3 (.tmp c) (.const (.int .i64 z)) 3) (hK : ∀ v w', (SD.v tt).at w' v → Below w.heap.size w w' → K (a.put o.dst v) w') : o.wp Tryz.prog a w K Q := by
  have hx : a.eval (.tmp c) = .int .i64 z := hc
  have hy : a.eval (.const (.int .i64 z)) = .int .i64 z := rfl
  have hk := hK (.bool true) w rfl (Below.refl _ _)
  unfold Oper.wp
  generalize a.eval = ev at hx hy ⊢
  simp [execOp, ho, hx, hy, go_sem]
  exact hk
theorem field0d (k a b c d : Int) (p : Option Addr) (n cap : Nat) (w : World) : (Instr.field 28 (.agg #[.int .i64 k, .int .u64 a, .int .u64 b, .int .u64 c, .int .u64 d, .slice p n cap]) 0).run Tryz.prog w = .ok (.int .i64 k) w := by
  kernel_rfl
theorem opField {c : Tmp} {t : RT} (hc : (SD.x t).at w (a.tmps.getD c undef)) (ho : o.op = .field 28 (.tmp c) 0) (hK : ∀ v w', (SD.v (.int .i64 t.kind)).at w' v → Below w.heap.size w w' → K (a.put o.dst v) w') : o.wp Tryz.prog a w K Q := by
  obtain ⟨⟨k, x, y, z, u, q, m, cp⟩, he, hr⟩ := hc
  obtain ⟨vs, et, hok, hk⟩ := hr.kids
  have ek : t.kind = k := by rw [et]; rfl
  have hx : a.eval (.tmp c) = _ := he
  have hk := hK (.int .i64 k) w (by rw [ek]; rfl) (Below.refl _ _)
  unfold Oper.wp
  generalize a.eval = ev at hx ⊢
  simp [execOp, ho, hx, ReV.val, field0d]
  exact hk
theorem infoReD : (Tryz.prog.info? 28).map (·.size) = some 6 := by kernel_rfl
theorem opLoad {d : Tmp} {C : Nat} {y : ReV} {t : RT} {P : Nat → Prop} (hd : a.tmps.getD d undef = .pointer (some ⟨C, 0, none⟩)) (hC : w.heap[C]? = some (.cells y.cells.toArray 28 (0, 0))) (hr : RAt w P y t) (ho : o.op = .load 28 (.tmp d))
    (hK : ∀ v w', (SD.x t).at w' v → Below w.heap.size w w' → K (a.put o.dst v) w') : o.wp Tryz.prog a w K Q := by
  obtain ⟨k, x, y, z, u, q, m, cp⟩ := y
  refine wp_load_row 28 (.tmp d) ho C hd _ _ (0, 0) _ hC Tryz.underlying28 rfl ?_ (hK _ _ ⟨⟨k, x, y, z, u, q, m, cp⟩, rfl, hr.weak fun _ _ _ => trivial⟩ (Below.refl _ _))
  rw [infoReD]
  rfl
set_option maxRecDepth 100000 in
theorem opCall1 {Fn : FuncId} {x : Operand} {u : Value} {T : Array TypeId} {R : Ending → World → Prop} {s : SD} (hx : a.eval x = u) (ho : o.op = .call { callee := .value (.func Fn), args := #[x], argTypes := T }) (hc : Calls Tryz.prog Fn #[u] w R)
    (hF : ∀ args w, (callFunc Fn args).run Tryz.prog w = .ok (.enter Fn args) w)
    (hR : ∀ e w', R e w' → ∃ v, e = .returned v ∧ s.at w' v ∧ Below w.heap.size w w') (hK : ∀ v w', s.at w' v → Below w.heap.size w w' → K (a.put o.dst v) w') : o.wp Tryz.prog a w K Q := by
  unfold Oper.wp
  have hf : a.eval (.func Fn) = .func (.func Fn) #[] #[] := rfl
  generalize a.eval = ev at hx hf ⊢
  simp [execOp, ho, hx, hf, go_sem, hF, resolve, invoke]
  refine hc.mono (fun e w' hr => ?_)
  obtain ⟨v, rfl, hs, hb⟩ := hR e w' hr
  exact hK v w' hs hb
set_option maxRecDepth 100000 in
theorem opCall2 {Fn : FuncId} {x x' : Operand} {u u' : Value} {T : Array TypeId} {R : Ending → World → Prop} {s : SD} (hx : a.eval x = u) (hx' : a.eval x' = u') (ho : o.op = .call { callee := .value (.func Fn), args := #[x, x'], argTypes := T }) (hc : Calls Tryz.prog Fn #[u, u'] w R)
    (hF : ∀ args w, (callFunc Fn args).run Tryz.prog w = .ok (.enter Fn args) w)
    (hR : ∀ e w', R e w' → ∃ v, e = .returned v ∧ s.at w' v ∧ Below w.heap.size w w') (hK : ∀ v w', s.at w' v → Below w.heap.size w w' → K (a.put o.dst v) w') : o.wp Tryz.prog a w K Q := by
  unfold Oper.wp
  have hf : a.eval (.func Fn) = .func (.func Fn) #[] #[] := rfl
  generalize a.eval = ev at hx hx' hf ⊢
  simp [execOp, ho, hx, hx', hf, go_sem, hF, resolve, invoke]
  refine hc.mono (fun e w' hr => ?_)
  obtain ⟨v, rfl, hs, hb⟩ := hR e w' hr
  exact hK v w' hs hb
theorem treeOf {P : Nat → Prop} {t : RT} {e : Ending} {w' : World} (h : GivesRe P t w e w') : ∃ v, e = .returned v ∧ (SD.x t).at w' v ∧ Below w.heap.size w w' := by
  obtain ⟨y, he, hr, hb⟩ := h
  exact ⟨_, he, ⟨y, rfl, hr.weak fun _ _ _ => trivial⟩, hb⟩
theorem boolOf {b : Bool} {e : Ending} {w' : World} (h : GivesBool b w e w') : ∃ v, e = .returned v ∧ (SD.v (.bool b)).at w' v ∧ Below w.heap.size w w' := ⟨_, h.1, rfl, h.2⟩
/-- A call on an expression. -/
theorem opTree {Fn : FuncId} {d : Tmp} {T : Array TypeId} {R : Ending → World → Prop} {t : RT} {s : SD} (hd : (SD.x t).at w (a.tmps.getD d undef)) (ho : o.op = .call { callee := .value (.func Fn), args := #[.tmp d], argTypes := T })
    (hc : ∀ y, RAt w (fun _ => True) y t → Calls Tryz.prog Fn #[y.val] w R)
    (hF : ∀ args w, (callFunc Fn args).run Tryz.prog w = .ok (.enter Fn args) w)
    (hR : ∀ e w', R e w' → ∃ v, e = .returned v ∧ s.at w' v ∧ Below w.heap.size w w') (hK : ∀ v w', s.at w' v → Below w.heap.size w w' → K (a.put o.dst v) w') : o.wp Tryz.prog a w K Q := by
  obtain ⟨y, he, hr⟩ := hd
  exact opCall1 (x := .tmp d) he ho (hc y hr) hF hR hK
/-- A call on an expression and a value. -/
theorem opTreeV {Fn : FuncId} {d : Tmp} {x' : Operand} {u' : Value} {T : Array TypeId} {R : Ending → World → Prop} {t : RT} {s : SD} (hd : (SD.x t).at w (a.tmps.getD d undef)) (hx' : a.eval x' = u') (ho : o.op = .call { callee := .value (.func Fn), args := #[.tmp d, x'], argTypes := T })
    (hc : ∀ y, RAt w (fun _ => True) y t → Calls Tryz.prog Fn #[y.val, u'] w R)
    (hF : ∀ args w, (callFunc Fn args).run Tryz.prog w = .ok (.enter Fn args) w)
    (hR : ∀ e w', R e w' → ∃ v, e = .returned v ∧ s.at w' v ∧ Below w.heap.size w w') (hK : ∀ v w', s.at w' v → Below w.heap.size w w' → K (a.put o.dst v) w') : o.wp Tryz.prog a w K Q := by
  obtain ⟨y, he, hr⟩ := hd
  exact opCall2 (x := .tmp d) he hx' ho (hc y hr) hF hR hK
/-- A call on two expressions. -/
theorem opTrees {Fn : FuncId} {d d' : Tmp} {T : Array TypeId} {R : Ending → World → Prop} {t t' : RT} {s : SD} (hd : (SD.x t).at w (a.tmps.getD d undef)) (hd' : (SD.x t').at w (a.tmps.getD d' undef)) (ho : o.op = .call { callee := .value (.func Fn), args := #[.tmp d, .tmp d'], argTypes := T })
    (hc : ∀ y y', RAt w (fun _ => True) y t → RAt w (fun _ => True) y' t' → Calls Tryz.prog Fn #[y.val, y'.val] w R)
    (hF : ∀ args w, (callFunc Fn args).run Tryz.prog w = .ok (.enter Fn args) w)
    (hR : ∀ e w', R e w' → ∃ v, e = .returned v ∧ s.at w' v ∧ Below w.heap.size w w') (hK : ∀ v w', s.at w' v → Below w.heap.size w w' → K (a.put o.dst v) w') : o.wp Tryz.prog a w K Q := by
  obtain ⟨y, he, hr⟩ := hd
  obtain ⟨y', he', hr'⟩ := hd'
  exact opCall2 (x := .tmp d) (x' := .tmp d') he he' ho (hc y y' hr hr') hF hR hK
theorem conv_u8 (k : Nat) (hk : k < 256) (w : World) : (convert 3 5 (.int .i64 (k : Int))).run Tryz.prog w = .ok (.int .u8 (k : Int)) w := by
  have h2 : Tryz.prog.intKind 5 = .u8 := by kernel_rfl
  have h1 := run_convert_int (P := Tryz.prog) w 3 5 .i64 (k : Int) (by rw [Tryz.underlying3]; rfl) (by rw [Tryz.underlying5, h2])
  rw [h2] at h1
  rw [h1]
  have : IntKind.u8.wrap (k : Int) = (k : Int) := by simp [IntKind.wrap, IntKind.min, IntKind.max, IntKind.bits, IntKind.signed]; omega
  rw [this]
theorem opConv {c : Tmp} {k : Nat} (hk8 : k < 256) (hc : a.tmps.getD c undef = .int .i64 (k : Int)) (ho : o.op = .convert 3 5 (.tmp c)) (hK : ∀ v w', (SD.v (.int .u8 (k : Int))).at w' v → Below w.heap.size w w' → K (a.put o.dst v) w') : o.wp Tryz.prog a w K Q := by
  have hx : a.eval (.tmp c) = .int .i64 (k : Int) := hc
  have hk := hK (.int .u8 (k : Int)) w rfl (Below.refl _ _)
  have hw := conv_u8 k hk8 w
  unfold Oper.wp
  generalize a.eval = ev at hx ⊢
  simp [execOp, ho, hx, hw]
  exact hk
theorem opAddS {c d : Tmp} {A B U : ByteArray} (hU : A ++ B = U) (hc : a.tmps.getD c undef = .string A) (hd : a.tmps.getD d undef = .string B) (hl : A.size + B.size ≤ 9223372036854775807) (ho : o.op = .binOp .add 9 (.tmp c) (.tmp d) 9) (hK : ∀ v w', (SD.v (.string U)).at w' v → Below w.heap.size w w' → K (a.put o.dst v) w') : o.wp Tryz.prog a w K Q := by
  subst hU
  have hx : a.eval (.tmp c) = .string A := hc
  have hy : a.eval (.tmp d) = .string B := hd
  have hk := hK (.string (A ++ B)) w rfl (Below.refl _ _)
  have hs := run_string_add_sum (P := Tryz.prog) w A B hl
  unfold Oper.wp
  generalize a.eval = ev at hx hy ⊢
  simp [execOp, ho, hx, hy, go_sem, hs]
  exact hk
theorem u8_partsD : ∃ i0, Tryz.prog.info? 5 = some i0 ∧ i0.zero = some (.int .u8 0) ∧ i0.size = 1 := by
  cases h : Tryz.prog.info? 5 with
  | none =>
    have h2 : (Tryz.prog.info? 5).isSome = true := by kernel_rfl
    rw [h] at h2
    cases h2
  | some i =>
    refine ⟨i, rfl, ?_, ?_⟩
    · have : (Tryz.prog.info? 5).bind (·.zero) = some (.int .u8 0) := by kernel_rfl
      rw [h] at this
      exact this
    · have : (Tryz.prog.info? 5).map (·.size) = some 1 := by kernel_rfl
      rw [h] at this
      exact Option.some.inj this
theorem fill_one (z : Int) : Instr.fill (fun i => some (i * 1, 1)) ((Array.range (1 * 1)).map ((Value.int .u8 0).cells[· % (Value.int .u8 0).cells.size]!)) [(0, .int .u8 z)] = some #[.int .u8 z] := by
  kernel_rfl
theorem opOne {c : Tmp} {z : Int} (hc : a.tmps.getD c undef = .int .u8 z) (ho : o.op = .buildSlice 22 1 #[(0, .tmp c)]) (hK : ∀ v w', (SD.b z).at w' v → Below w.heap.size w w' → K (a.put o.dst v) w') : o.wp Tryz.prog a w K Q := by
  obtain ⟨i0, hi0, hz0, hz1⟩ := u8_partsD
  refine wp_buildSlice 22 5 1 #[(0, .tmp c)] ho #[.int .u8 z] i0 _ Tryz.underlying22 hi0 hz0 (by rw [hz1]; decide) (by rw [hz1]; decide) ?_ (hK _ _ ⟨w.heap.size, rfl, by simp, by simp only [World.cell?, heap_alloc_new]; rfl⟩ ((Below.refl _ _).alloc (Nat.le_refl _) _))
  rw [hz1]
  simp only [List.map_toArray, List.map_cons, List.map_nil]
  rw [show a.eval (.tmp c) = .int .u8 z from hc]
  exact fill_one z
theorem opStr {c : Tmp} {k : Nat} {U : ByteArray} (hk8 : k < 256) (hU : ⟨#[UInt8.ofNat k]⟩ = U) (hc : (SD.b (k : Int)).at w (a.tmps.getD c undef)) (ho : o.op = .convert 22 9 (.tmp c)) (hK : ∀ v w', (SD.v (.string U)).at w' v → Below w.heap.size w w' → K (a.put o.dst v) w') : o.wp Tryz.prog a w K Q := by
  subst hU
  obtain ⟨g, he, hl, hcell⟩ := hc
  have hx : a.eval (.tmp c) = .slice (some ⟨g, 0, none⟩) 1 1 := he
  have hk := hK (.string ⟨#[UInt8.ofNat k]⟩) w rfl (Below.refl _ _)
  have hw := run_convert_bytes_back (P := Tryz.prog) w 22 9 5 ⟨g, 0, none⟩ 1 [UInt8.ofNat k] Tryz.underlying22 Tryz.underlying5 Tryz.underlying9 (fun j hj => by
    have hj0 : j = 0 := by simp at hj; exact hj
    subst hj0
    have e : ((UInt8.ofNat k).toNat : Int) = k := by simp; omega
    show World.cell? w ⟨g, 0, none⟩ = some (.int .u8 ((UInt8.ofNat k).toNat : Int))
    rw [e]
    exact hcell)
  have hw : (convert 22 9 (.slice (some ⟨g, 0, none⟩) 1 1)).run Tryz.prog w = .ok (.string ⟨#[UInt8.ofNat k]⟩) w := hw
  unfold Oper.wp
  generalize a.eval = ev at hx ⊢
  simp [execOp, ho, hx, hw]
  exact hk
/-- The region ends, and all slots hold what they should. -/
theorem region_all {id : Nat} {tmps : Array Value} {ops' : Array Oper} (hk : RegK ops n nt a0 b0 S F) (hops : ops = ops') (hsz : tmps.size = nt) (hf : ∀ x ∈ F, tmps.getD x.1 undef = x.2)
    (hstep : ∀ L a w i, L.size = n → JR n nt a0 b0 S F W L a w → i ∈ Region.ready .any ops L → i < n → wpOp Tryz.prog ops Q i (JR n nt a0 b0 S F W (L.setIfInBounds i true)) a w)
    (hQ : ∀ (tm : Array Value) (w : World), tm.size = nt → (∀ x ∈ F, tm.getD x.1 undef = x.2) → (∀ (i : Nat) (s : SD), S[i]? = some s → s.at w (tm.getD (dR n a0 b0 i) undef)) → Below W.heap.size W w → Q .normal ⟨tm, []⟩ w) : (Code.region id ops' true).wp Tryz.prog Q ⟨tmps, []⟩ W := by
  subst hops
  have hm : Tryz.prog.follows .mixedOrders = true := by kernel_rfl
  refine wp_region_inv (JR n nt a0 b0 S F W) hm ⟨hsz, rfl, ⟨rfl, rfl, rfl, Nat.le_refl _, fun k _ => rfl⟩, hf, fun i s hs hl => ?_⟩ (fun L a w i hL hJ hr => ?_) (fun L a w hL hJ hr => ?_)
  · exfalso
    rw [Array.getD_eq_getD_getElem?, Array.getElem?_replicate] at hl
    split at hl <;> simp at hl
  · have hi := (ready_iff.1 hr).1
    rw [hk.sz] at hi hL
    exact hstep L a w i hL hJ hr hi
  · have hl := all_listed hk.acy hL hr
    obtain ⟨tm, df⟩ := a
    obtain ⟨j1, j2, j3, j4, j6⟩ := hJ
    simp only at j2
    subst j2
    exact hQ _ _ j1 j4 (fun i s hs => j6 i s hs (hl i (by have := (List.getElem?_eq_some_iff.1 hs).1; have := hk.len; rw [hk.sz]; omega))) j3
end

end Go.Proofs.YtclnadjgbpihcaaGreatDoor

/-! The last region of the law's awake: whatever order its operations take, it says true. No condition. -/
namespace Go.Proofs.YtclnadjgbpihcaaGreatDoor
open Go.RowKit Go.Lib
set_option linter.unusedVariables false
set_option linter.unusedSimpArgs false

noncomputable def opsAw : Array Oper := ((Tryz.prog.funcs[7]?.bind (·.body)).map (opsAt 3)).getD #[]
theorem entD : ∀ args w, (callFunc 16 args).run Tryz.prog w = .ok (.enter 16 args) w := enters_of Tryz.func16 (by kernel_rfl) rfl
theorem entN : ∀ args w, (callFunc 17 args).run Tryz.prog w = .ok (.enter 17 args) w := enters_of Tryz.func17 (by kernel_rfl) rfl
theorem entM : ∀ args w, (callFunc 8 args).run Tryz.prog w = .ok (.enter 8 args) w := enters_of Tryz.func8 (by kernel_rfl) rfl
theorem entT : ∀ args w, (callFunc 11 args).run Tryz.prog w = .ok (.enter 11 args) w := enters_of Tryz.func11 (by kernel_rfl) rfl
theorem entS : ∀ args w, (callFunc 15 args).run Tryz.prog w = .ok (.enter 15 args) w := enters_of Tryz.func15 (by kernel_rfl) rfl
noncomputable def sAw (C A : Nat) (x y : ReV) : List SD := [.x awR, .x awR, .x awR, .v tt, .v tt, .x awR, .x emptyM, .v (.int .i64 1), .v tt, .v tt, .v tt, .x awR, .v (.bool false), .v tt, .v tt, .v tt, .x awR, .v tt, .v tt, .v tt, .x awR, .v (.bool false), .v tt, .v tt, .v tt, .x awA, .x (starM awA), .v tt, .v tt, .v tt]
noncomputable def fAw (C A : Nat) (x y : ReV) : List (Nat × Value) := [(3, .pointer (some ⟨C, 0, none⟩)), (1, .pointer (some ⟨A, 0, none⟩))]
theorem regKAw (C A : Nat) (x y : ReV) : RegK opsAw 30 42 0 13 (sAw C A x y) (fAw C A x y) :=
  ⟨by kernel_rfl, by kernel_rfl, rfl, by decide, by decide, (fun x hx => by simp [fAw] at hx; rcases hx with rfl | rfl <;> simp)⟩
/-- What is known. -/
structure HAw (C A : Nat) (x y : ReV) (W : World) : Prop where
  hC : W.heap[C]? = some (.cells x.cells.toArray 28 (0, 0))
  hx : RAt W (fun _ => True) x awR
  hA : W.heap[A]? = some (.cells y.cells.toArray 28 (0, 0))
  hy : RAt W (fun _ => True) y awA
  hD97 : ∀ w, Below W.heap.size W w → ∀ y, RAt w (fun _ => True) y awR → Calls Tryz.prog 16 #[y.val, .int .i64 97] w (GivesRe (fun _ => True) awR w)
  hD98 : ∀ w, Below W.heap.size W w → ∀ y, RAt w (fun _ => True) y awR → Calls Tryz.prog 16 #[y.val, .int .i64 98] w (GivesRe (fun _ => True) emptyM w)
  hS : ∀ w, Below W.heap.size W w → ∀ y y', RAt w (fun _ => True) y awR → RAt w (fun _ => True) y' awR → Calls Tryz.prog 15 #[y.val, y'.val] w (GivesBool true w)
  hN : ∀ w, Below W.heap.size W w → ∀ y, RAt w (fun _ => True) y awR → Calls Tryz.prog 17 #[y.val] w (GivesBool false w)
  hM1 : ∀ w, Below W.heap.size W w → ∀ y, RAt w (fun _ => True) y awR → Calls Tryz.prog 8 #[y.val, .string ⟨#[97, 97, 98]⟩] w (GivesBool true w)
  hM2 : ∀ w, Below W.heap.size W w → ∀ y, RAt w (fun _ => True) y awR → Calls Tryz.prog 8 #[y.val, .string ⟨#[97, 98, 97]⟩] w (GivesBool false w)
  hSt : ∀ w, Below W.heap.size W w → ∀ y, RAt w (fun _ => True) y awA → Calls Tryz.prog 11 #[y.val] w (GivesRe (fun _ => True) (starM awA) w)
  hN2 : ∀ w, Below W.heap.size W w → ∀ y, RAt w (fun _ => True) y (starM awA) → Calls Tryz.prog 17 #[y.val] w (GivesBool true w)
set_option maxRecDepth 100000 in
set_option maxHeartbeats 8000000 in
theorem stepAw (C A : Nat) (x y : ReV) {W w : World} {L : Array Bool} {a : Act} {i : Nat} {Q : Exit → Act → World → Prop} (hH : HAw C A x y W) (hL : L.size = 30) (hJ : JR 30 42 0 13 (sAw C A x y) (fAw C A x y) W L a w) (hr : i ∈ Region.ready .any opsAw L) (hi : i < 30) : wpOp Tryz.prog opsAw Q i (JR 30 42 0 13 (sAw C A x y) (fAw C A x y) W (L.setIfInBounds i true)) a w := by
  have hk := regKAw C A x y
  match i, hi with
  | 0, _ => exact atP (d := 13) (by kernel_rfl) fun o ho hd => opLoad (d := 3) (hJ.2.2.2.1 (3, .pointer (some ⟨C, 0, none⟩)) (by simp [fAw])) ((hJ.2.2.1.block _ (Array.getElem?_eq_some_iff.1 hH.hC).1).trans hH.hC) (hH.hx.under hJ.2.2.1) ho (fun v w' hs hb => by rw [hd]; exact hJ.step hk (i := 0) (s := .x awR) rfl hL hs hb)
  | 1, _ => exact atP (d := 14) (by kernel_rfl) fun o ho hd => opTreeV (T := #[28, 3]) (x' := .const (.int .i64 97)) (d := 13) (s := (SD.x awR)) (u' := .int .i64 97) (hJ.get (i := 1) (j := 0) hr (by kernel_rfl) rfl) rfl ho (fun y hy => hH.hD97 w hJ.2.2.1 y hy) entD (fun _ _ h => treeOf h) (fun v w' hs hb => by rw [hd]; exact hJ.step hk (i := 1) (s := .x awR) rfl hL hs hb)
  | 2, _ => exact atP (d := 15) (by kernel_rfl) fun o ho hd => opLoad (d := 3) (hJ.2.2.2.1 (3, .pointer (some ⟨C, 0, none⟩)) (by simp [fAw])) ((hJ.2.2.1.block _ (Array.getElem?_eq_some_iff.1 hH.hC).1).trans hH.hC) (hH.hx.under hJ.2.2.1) ho (fun v w' hs hb => by rw [hd]; exact hJ.step hk (i := 2) (s := .x awR) rfl hL hs hb)
  | 3, _ => exact atP (d := 16) (by kernel_rfl) fun o ho hd => opTrees (T := #[28, 28]) (d := 14) (d' := 15) (s := (SD.v tt)) (hJ.get (i := 3) (j := 1) hr (by kernel_rfl) rfl) (hJ.get (i := 3) (j := 2) hr (by kernel_rfl) rfl) ho (fun y y' hy hy' => hH.hS w hJ.2.2.1 y y' hy hy') entS (fun _ _ h => boolOf h) (fun v w' hs hb => by rw [hd]; exact hJ.step hk (i := 3) (s := .v tt) rfl hL hs hb)
  | 4, _ => exact atP (d := 17) (by kernel_rfl) fun o ho hd => opMove (d := 16) (s := (SD.v tt)) (hJ.get (i := 4) (j := 3) hr (by kernel_rfl) rfl) ho (fun v w' hs hb => by rw [hd]; exact hJ.step hk (i := 4) (s := .v tt) rfl hL hs hb)
  | 5, _ => exact atG (d := 18) (g := 4) (m := 17) (by kernel_rfl) (by kernel_rfl) (hJ.get (i := 5) (j := 4) hr (by kernel_rfl) rfl) fun o ho hd => opLoad (d := 3) (hJ.2.2.2.1 (3, .pointer (some ⟨C, 0, none⟩)) (by simp [fAw])) ((hJ.2.2.1.block _ (Array.getElem?_eq_some_iff.1 hH.hC).1).trans hH.hC) (hH.hx.under hJ.2.2.1) ho (fun v w' hs hb => by rw [hd]; exact hJ.step hk (i := 5) (s := .x awR) rfl hL hs hb)
  | 6, _ => exact atG (d := 19) (g := 4) (m := 17) (by kernel_rfl) (by kernel_rfl) (hJ.get (i := 6) (j := 4) hr (by kernel_rfl) rfl) fun o ho hd => opTreeV (T := #[28, 3]) (x' := .const (.int .i64 98)) (d := 18) (s := (SD.x emptyM)) (u' := .int .i64 98) (hJ.get (i := 6) (j := 5) hr (by kernel_rfl) rfl) rfl ho (fun y hy => hH.hD98 w hJ.2.2.1 y hy) entD (fun _ _ h => treeOf h) (fun v w' hs hb => by rw [hd]; exact hJ.step hk (i := 6) (s := .x emptyM) rfl hL hs hb)
  | 7, _ => exact atG (d := 20) (g := 4) (m := 17) (by kernel_rfl) (by kernel_rfl) (hJ.get (i := 7) (j := 4) hr (by kernel_rfl) rfl) fun o ho hd => opField (c := 19) (hJ.get (i := 7) (j := 6) hr (by kernel_rfl) rfl) ho (fun v w' hs hb => by rw [hd]; exact hJ.step hk (i := 7) (s := .v (.int .i64 1)) rfl hL hs hb)
  | 8, _ => exact atG (d := 21) (g := 4) (m := 17) (by kernel_rfl) (by kernel_rfl) (hJ.get (i := 8) (j := 4) hr (by kernel_rfl) rfl) fun o ho hd => opEqI (c := 20) (z := 1) (hJ.get (i := 8) (j := 7) hr (by kernel_rfl) rfl) ho (fun v w' hs hb => by rw [hd]; exact hJ.step hk (i := 8) (s := .v tt) rfl hL hs hb)
  | 9, _ => exact atP (d := 22) (by kernel_rfl) fun o ho hd => opPick (c := 17) (d := 21) (hJ.get (i := 9) (j := 4) hr (by kernel_rfl) rfl) (hJ.get (i := 9) (j := 8) hr (by kernel_rfl) rfl) ho (fun v w' hs hb => by rw [hd]; exact hJ.step hk (i := 9) (s := .v tt) rfl hL hs hb)
  | 10, _ => exact atP (d := 23) (by kernel_rfl) fun o ho hd => opMove (d := 22) (s := (SD.v tt)) (hJ.get (i := 10) (j := 9) hr (by kernel_rfl) rfl) ho (fun v w' hs hb => by rw [hd]; exact hJ.step hk (i := 10) (s := .v tt) rfl hL hs hb)
  | 11, _ => exact atG (d := 24) (g := 10) (m := 23) (by kernel_rfl) (by kernel_rfl) (hJ.get (i := 11) (j := 10) hr (by kernel_rfl) rfl) fun o ho hd => opLoad (d := 3) (hJ.2.2.2.1 (3, .pointer (some ⟨C, 0, none⟩)) (by simp [fAw])) ((hJ.2.2.1.block _ (Array.getElem?_eq_some_iff.1 hH.hC).1).trans hH.hC) (hH.hx.under hJ.2.2.1) ho (fun v w' hs hb => by rw [hd]; exact hJ.step hk (i := 11) (s := .x awR) rfl hL hs hb)
  | 12, _ => exact atG (d := 25) (g := 10) (m := 23) (by kernel_rfl) (by kernel_rfl) (hJ.get (i := 12) (j := 10) hr (by kernel_rfl) rfl) fun o ho hd => opTree (T := #[28]) (d := 24) (s := (SD.v (.bool false))) (hJ.get (i := 12) (j := 11) hr (by kernel_rfl) rfl) ho (fun y hy => hH.hN w hJ.2.2.1 y hy) entN (fun _ _ h => boolOf h) (fun v w' hs hb => by rw [hd]; exact hJ.step hk (i := 12) (s := .v (.bool false)) rfl hL hs hb)
  | 13, _ => exact atG (d := 26) (g := 10) (m := 23) (by kernel_rfl) (by kernel_rfl) (hJ.get (i := 13) (j := 10) hr (by kernel_rfl) rfl) fun o ho hd => opNot (c := 25) (b := false) (hJ.get (i := 13) (j := 12) hr (by kernel_rfl) rfl) ho (fun v w' hs hb => by rw [hd]; exact hJ.step hk (i := 13) (s := .v tt) rfl hL hs hb)
  | 14, _ => exact atP (d := 27) (by kernel_rfl) fun o ho hd => opPick (c := 23) (d := 26) (hJ.get (i := 14) (j := 10) hr (by kernel_rfl) rfl) (hJ.get (i := 14) (j := 13) hr (by kernel_rfl) rfl) ho (fun v w' hs hb => by rw [hd]; exact hJ.step hk (i := 14) (s := .v tt) rfl hL hs hb)
  | 15, _ => exact atP (d := 28) (by kernel_rfl) fun o ho hd => opMove (d := 27) (s := (SD.v tt)) (hJ.get (i := 15) (j := 14) hr (by kernel_rfl) rfl) ho (fun v w' hs hb => by rw [hd]; exact hJ.step hk (i := 15) (s := .v tt) rfl hL hs hb)
  | 16, _ => exact atG (d := 29) (g := 15) (m := 28) (by kernel_rfl) (by kernel_rfl) (hJ.get (i := 16) (j := 15) hr (by kernel_rfl) rfl) fun o ho hd => opLoad (d := 3) (hJ.2.2.2.1 (3, .pointer (some ⟨C, 0, none⟩)) (by simp [fAw])) ((hJ.2.2.1.block _ (Array.getElem?_eq_some_iff.1 hH.hC).1).trans hH.hC) (hH.hx.under hJ.2.2.1) ho (fun v w' hs hb => by rw [hd]; exact hJ.step hk (i := 16) (s := .x awR) rfl hL hs hb)
  | 17, _ => exact atG (d := 30) (g := 15) (m := 28) (by kernel_rfl) (by kernel_rfl) (hJ.get (i := 17) (j := 15) hr (by kernel_rfl) rfl) fun o ho hd => opTreeV (T := #[28, 9]) (x' := .const (.string ⟨#[97, 97, 98]⟩)) (d := 29) (s := (SD.v tt)) (u' := .string ⟨#[97, 97, 98]⟩) (hJ.get (i := 17) (j := 16) hr (by kernel_rfl) rfl) rfl ho (fun y hy => hH.hM1 w hJ.2.2.1 y hy) entM (fun _ _ h => boolOf h) (fun v w' hs hb => by rw [hd]; exact hJ.step hk (i := 17) (s := .v tt) rfl hL hs hb)
  | 18, _ => exact atP (d := 31) (by kernel_rfl) fun o ho hd => opPick (c := 28) (d := 30) (hJ.get (i := 18) (j := 15) hr (by kernel_rfl) rfl) (hJ.get (i := 18) (j := 17) hr (by kernel_rfl) rfl) ho (fun v w' hs hb => by rw [hd]; exact hJ.step hk (i := 18) (s := .v tt) rfl hL hs hb)
  | 19, _ => exact atP (d := 32) (by kernel_rfl) fun o ho hd => opMove (d := 31) (s := (SD.v tt)) (hJ.get (i := 19) (j := 18) hr (by kernel_rfl) rfl) ho (fun v w' hs hb => by rw [hd]; exact hJ.step hk (i := 19) (s := .v tt) rfl hL hs hb)
  | 20, _ => exact atG (d := 33) (g := 19) (m := 32) (by kernel_rfl) (by kernel_rfl) (hJ.get (i := 20) (j := 19) hr (by kernel_rfl) rfl) fun o ho hd => opLoad (d := 3) (hJ.2.2.2.1 (3, .pointer (some ⟨C, 0, none⟩)) (by simp [fAw])) ((hJ.2.2.1.block _ (Array.getElem?_eq_some_iff.1 hH.hC).1).trans hH.hC) (hH.hx.under hJ.2.2.1) ho (fun v w' hs hb => by rw [hd]; exact hJ.step hk (i := 20) (s := .x awR) rfl hL hs hb)
  | 21, _ => exact atG (d := 34) (g := 19) (m := 32) (by kernel_rfl) (by kernel_rfl) (hJ.get (i := 21) (j := 19) hr (by kernel_rfl) rfl) fun o ho hd => opTreeV (T := #[28, 9]) (x' := .const (.string ⟨#[97, 98, 97]⟩)) (d := 33) (s := (SD.v (.bool false))) (u' := .string ⟨#[97, 98, 97]⟩) (hJ.get (i := 21) (j := 20) hr (by kernel_rfl) rfl) rfl ho (fun y hy => hH.hM2 w hJ.2.2.1 y hy) entM (fun _ _ h => boolOf h) (fun v w' hs hb => by rw [hd]; exact hJ.step hk (i := 21) (s := .v (.bool false)) rfl hL hs hb)
  | 22, _ => exact atG (d := 35) (g := 19) (m := 32) (by kernel_rfl) (by kernel_rfl) (hJ.get (i := 22) (j := 19) hr (by kernel_rfl) rfl) fun o ho hd => opNot (c := 34) (b := false) (hJ.get (i := 22) (j := 21) hr (by kernel_rfl) rfl) ho (fun v w' hs hb => by rw [hd]; exact hJ.step hk (i := 22) (s := .v tt) rfl hL hs hb)
  | 23, _ => exact atP (d := 36) (by kernel_rfl) fun o ho hd => opPick (c := 32) (d := 35) (hJ.get (i := 23) (j := 19) hr (by kernel_rfl) rfl) (hJ.get (i := 23) (j := 22) hr (by kernel_rfl) rfl) ho (fun v w' hs hb => by rw [hd]; exact hJ.step hk (i := 23) (s := .v tt) rfl hL hs hb)
  | 24, _ => exact atP (d := 37) (by kernel_rfl) fun o ho hd => opMove (d := 36) (s := (SD.v tt)) (hJ.get (i := 24) (j := 23) hr (by kernel_rfl) rfl) ho (fun v w' hs hb => by rw [hd]; exact hJ.step hk (i := 24) (s := .v tt) rfl hL hs hb)
  | 25, _ => exact atG (d := 38) (g := 24) (m := 37) (by kernel_rfl) (by kernel_rfl) (hJ.get (i := 25) (j := 24) hr (by kernel_rfl) rfl) fun o ho hd => opLoad (d := 1) (hJ.2.2.2.1 (1, .pointer (some ⟨A, 0, none⟩)) (by simp [fAw])) ((hJ.2.2.1.block _ (Array.getElem?_eq_some_iff.1 hH.hA).1).trans hH.hA) (hH.hy.under hJ.2.2.1) ho (fun v w' hs hb => by rw [hd]; exact hJ.step hk (i := 25) (s := .x awA) rfl hL hs hb)
  | 26, _ => exact atG (d := 39) (g := 24) (m := 37) (by kernel_rfl) (by kernel_rfl) (hJ.get (i := 26) (j := 24) hr (by kernel_rfl) rfl) fun o ho hd => opTree (T := #[28]) (d := 38) (s := (SD.x (starM awA))) (hJ.get (i := 26) (j := 25) hr (by kernel_rfl) rfl) ho (fun y hy => hH.hSt w hJ.2.2.1 y hy) entT (fun _ _ h => treeOf h) (fun v w' hs hb => by rw [hd]; exact hJ.step hk (i := 26) (s := .x (starM awA)) rfl hL hs hb)
  | 27, _ => exact atG (d := 40) (g := 24) (m := 37) (by kernel_rfl) (by kernel_rfl) (hJ.get (i := 27) (j := 24) hr (by kernel_rfl) rfl) fun o ho hd => opTree (T := #[28]) (d := 39) (s := (SD.v tt)) (hJ.get (i := 27) (j := 26) hr (by kernel_rfl) rfl) ho (fun y hy => hH.hN2 w hJ.2.2.1 y hy) entN (fun _ _ h => boolOf h) (fun v w' hs hb => by rw [hd]; exact hJ.step hk (i := 27) (s := .v tt) rfl hL hs hb)
  | 28, _ => exact atP (d := 41) (by kernel_rfl) fun o ho hd => opPick (c := 37) (d := 40) (hJ.get (i := 28) (j := 24) hr (by kernel_rfl) rfl) (hJ.get (i := 28) (j := 27) hr (by kernel_rfl) rfl) ho (fun v w' hs hb => by rw [hd]; exact hJ.step hk (i := 28) (s := .v tt) rfl hL hs hb)
  | 29, _ => exact atP (d := 0) (by kernel_rfl) fun o ho hd => opAssign (d := 41) (s := (SD.v tt)) (hJ.get (i := 29) (j := 28) hr (by kernel_rfl) rfl) ho (fun v w' hs hb => by rw [hd]; exact hJ.step hk (i := 29) (s := .v tt) rfl hL hs hb)
  | n + 30, h => omega
set_option maxRecDepth 100000 in
/-- The region, whatever order its operations take. -/
theorem regAw (C A : Nat) (x y : ReV) {W : World} {tmps : Array Value} {ops : Array Oper} {Q : Exit → Act → World → Prop} (hH : HAw C A x y W) (hops : opsAw = ops) (hsz : tmps.size = 42) (hf : ∀ q0 ∈ fAw C A x y, tmps.getD q0.1 undef = q0.2)
    (hQ : ∀ (tm : Array Value) (w : World), tm.size = 42 → tm.getD 0 undef = .bool true → Below W.heap.size W w → Q .normal ⟨tm, []⟩ w) : (Code.region 3 ops true).wp Tryz.prog Q ⟨tmps, []⟩ W :=
  region_all (regKAw C A x y) hops hsz hf (fun L a w i hL hJ hr hi => stepAw C A x y hH hL hJ hr hi) (fun tm w h1 _ h3 h4 => hQ tm w h1 (h3 29 (.v tt) rfl) h4)

end Go.Proofs.YtclnadjgbpihcaaGreatDoor

/-! What the calls of a law want of the expressions that it makes: how big what is left of them becomes. No condition. -/
namespace Go.Proofs.YtclnadjgbpihcaaGreatDoor
open Go.RowKit Go.Lib
set_option linter.unusedVariables false
set_option linter.unusedSimpArgs false

theorem lv4_T {t : RT} (h : Lv 161 4842888568831 5008 5766931476091 4966 t) : good t ∧ (∀ k, k < 6 → T k (seqOf t) ≤ 370000000) ∧ T 6 (seqOf t) ≤ 5700000000 := by
  have hg := h.good
  have h1 := lvany4 h []
  have h2 := (seq_sz hg).1
  have h3 := h.sz
  have hp : Psi [] = 0 := rfl
  rw [hp] at h1
  have k := fun j => T_seq j t []
  have e : ∀ j, T (j + 1) (seqOf t) = Dm j t [] := fun j => by
    have h4 := k j
    rw [List.append_nil] at h4
    have h5 : T (j + 1) ([] : List RT) = 0 := rfl
    rw [h4, h5]
    simp
  have e0 := e 0
  have e1 := e 1
  have e2 := e 2
  have e3 := e 3
  have e4 := e 4
  have e5 := e 5
  simp only [Nat.zero_add, Nat.reduceAdd] at e0 e1 e2 e3 e4 e5
  unfold Del at h1
  refine ⟨hg, fun j hj => ?_, by omega⟩
  match j, hj with
  | 0, _ => omega
  | 1, _ => omega
  | 2, _ => omega
  | 3, _ => omega
  | 4, _ => omega
  | 5, _ => omega
  | n + 6, hj => omega
/-- So Match may be asked of it, with six bytes at most. -/
theorem fitM_lv {t : RT} (h : Lv 161 4842888568831 5008 5766931476091 4966 t) (hd : t.dep ≤ 62) (l : List Nat) (hl : l.length ≤ 6) : FitM t l := by
  obtain ⟨hg, h1, h2⟩ := lv4_T h
  refine fitM_of l t hg ?_ (fun k hk => by have := h1 k (by omega); omega) ?_
  · have : 2 ^ l.length ≤ 2 ^ 6 := Nat.pow_le_pow_right (by decide) hl
    have h3 : t.dep * 2 ^ l.length ≤ 62 * 2 ^ 6 := Nat.mul_le_mul hd this
    omega
  · by_cases e : l.length = 6
    · rw [e]
      omega
    · have := h1 l.length (by omega)
      omega
theorem aw_lv : Lv 161 4842888568831 5008 5766931476091 4966 awR := by
  rw [← aw_catR]
  refine lv3_up (lv2_up (lv1_cats (fun t ht => ?_) (by decide) (by decide)))
  simp at ht
  rcases ht with rfl | rfl
  · exact lv0_star (let_lv (by decide) (by decide) (by decide))
  · exact lv0_up (let_lv (by decide) (by decide) (by decide))
theorem awR_dep : awR.dep ≤ 3 := by
  unfold awR
  refine dep_mk.2 fun t ht => ?_
  simp at ht
  rcases ht with rfl | rfl
  · refine dep_mk.2 fun t ht => ?_
    simp at ht
    subst ht
    unfold awA letM
    rw [dep_leaf]
    exact Nat.le_refl _
  · unfold awB letM
    rw [dep_leaf]
    omega
theorem aw_fit (l : List Nat) (hl : l.length ≤ 6) : FitM awR l := fitM_lv aw_lv (by have := awR_dep; omega) l hl

end Go.Proofs.YtclnadjgbpihcaaGreatDoor

/-! What the last region of awake asks of its calls. No condition. -/
namespace Go.Proofs.YtclnadjgbpihcaaGreatDoor
open Go.RowKit Go.Lib
set_option linter.unusedVariables false
set_option linter.unusedSimpArgs false

theorem GivesRe.any {P : Nat → Prop} {t : RT} {w : World} {e : Ending} {w' : World} (h : GivesRe P t w e w') : GivesRe (fun _ => True) t w e w' := by
  obtain ⟨x, he, hr, hb⟩ := h
  exact ⟨x, he, hr.weak fun _ _ _ => trivial, hb⟩
theorem awR_sz : awR.sz ≤ 100 := by
  unfold awR awA awB letM
  simp [sz_mk]
theorem aw_same : sameB awR awR = true := (sameB_iff _ _).2 rfl
theorem awH {W : World} (hT : Tab1 W) {C A : Nat} {x y : ReV} (hC : W.heap[C]? = some (.cells x.cells.toArray 28 (0, 0))) (hx : RAt W (fun _ => True) x awR) (hA : W.heap[A]? = some (.cells y.cells.toArray 28 (0, 0))) (hy : RAt W (fun _ => True) y awA) : HAw C A x y W where
  hC := hC
  hx := hx
  hA := hA
  hy := hy
  hD97 := fun w hb y hy => by
    have h := deriv_any w 97 (by decide) y awR hy (hT.stays hb) (aw_fit [97] (by decide)).1 (by have := awR_sz; omega)
    rw [aw_d97] at h
    exact h.mono fun _ _ q => q.any
  hD98 := fun w hb y hy => by
    have h := deriv_any w 98 (by decide) y awR hy (hT.stays hb) (aw_fit [98] (by decide)).1 (by have := awR_sz; omega)
    rw [aw_d98] at h
    exact h.mono fun _ _ q => q.any
  hS := fun w hb y y' hy hy' => by
    have h := sameg_any 3 awR awR y y' w awR_dep (by have := awR_sz; omega) hy hy'
    rw [aw_same] at h
    exact h
  hN := fun w hb y hy => by
    have h := nullable_any w y awR hy (by have := awR_sz; omega)
    rw [aw_nR] at h
    exact h
  hM1 := fun w hb y hy => by
    have h := match_any w y awR ⟨#[97, 97, 98]⟩ hy (hT.stays hb) (aw_fit _ (by decide)) (by decide)
    rw [show byteL ⟨#[97, 97, 98]⟩ = [97, 97, 98] from rfl, aw_aab] at h
    exact h
  hM2 := fun w hb y hy => by
    have h := match_any w y awR ⟨#[97, 98, 97]⟩ hy (hT.stays hb) (aw_fit _ (by decide)) (by decide)
    rw [show byteL ⟨#[97, 98, 97]⟩ = [97, 98, 97] from rfl, aw_aba] at h
    exact h
  hSt := fun w hb y hy => (refstar_any w y awA hy).mono fun _ _ q => q.any
  hN2 := fun w hb y hy => by
    have h := nullable_any w y (starM awA) hy (by rw [aw_star]; unfold awA letM; simp [sz_mk])
    rw [aw_star, aw_nS] at h
    exact h

end Go.Proofs.YtclnadjgbpihcaaGreatDoor

/-! What any right program of layer 8 answers. No condition but the library's tables. -/
namespace Go.Proofs.YtclnadjgbpihcaaGreatDoor
open Go.RowKit Go.Lib
set_option linter.unusedVariables false
set_option linter.unusedSimpArgs false

theorem let_ra {W : World} {P : Nat → Prop} {a b c d lo hi : Int} (h : IsSet a b c d (rng lo hi)) : RAt W P ⟨2, a, b, c, d, none, 0, 0⟩ (letM lo hi) := by
  have e : letM lo hi = .mk 2 ⟨a, b, c, d⟩ [] := by unfold letM; rw [let_set h]
  rw [e]
  exact kids_empty.tree 2 ⟨a, b, c, d⟩ (by rw [let_set h]; exact of_ok _)
theorem below_alc (w : World) (o : Obj) : Below w.heap.size w (w.alloc o) := (Below.refl _ _).alloc (Nat.le_refl _) _
theorem apart_new (w : World) (o : Obj) (b : Nat) (h : False ∨ ((w.alloc o).drew).heap.size ≤ b) : b ≠ w.heap.size := by
  rcases h with h | h
  · exact absurd h id
  · have h2 : (w.alloc o).heap.size ≤ b := h
    simp at h2
    omega
set_option maxRecDepth 100000 in
set_option maxHeartbeats 8000000 in
theorem awaked_any (w : World) (hT : Tab1 w) : Calls Tryz.prog 7 #[] w (GivesBool true w) := by
  have c1 := refof_any 97 97 w
  have HT := Lib.hid hT
  clear hT
  go_enter Tryz.func7, Tryz.ntmps7
  go_wp2_with fail
  ((with_reducible refine c1.mono ?_))
  rintro _ w1 ⟨a1, a2, a3, a4, hs1, rfl, hb1⟩
  have c2 := refof_any 98 98 w1
  have HS1 := Lib.hid hs1
  have HB1 := Lib.hid hb1
  clear hs1 hb1 c1
  go_wp2_with fail
  ((with_reducible refine c2.mono ?_))
  rintro _ w2 ⟨b1, b2, b3, b4, hs2, rfl, hb2⟩
  have HS2 := Lib.hid hs2
  have HB2 := Lib.hid hb2
  clear hs2 hb2 c2
  obtain ⟨A, hA⟩ : ∃ A, A = w2.heap.size := ⟨_, rfl⟩
  obtain ⟨w4, hw4⟩ : ∃ w4 : World, w4 = (w2.alloc (.cells #[.int .i64 2, .int .u64 a1, .int .u64 a2, .int .u64 a3, .int .u64 a4, .slice none 0 0] 28)).alloc (.cells #[.int .i64 2, .int .u64 b1, .int .u64 b2, .int .u64 b3, .int .u64 b4, .slice none 0 0] 28) := ⟨_, rfl⟩
  have h4A : w4.heap[A]? = some (.cells #[.int .i64 2, .int .u64 a1, .int .u64 a2, .int .u64 a3, .int .u64 a4, .slice none 0 0] 28 (0, 0)) := by rw [hw4, hA, @heap_alloc_old _ _ _ (by simp)]; exact heap_alloc_new _ _
  have h4B : w4.heap[A + 1]? = some (.cells #[.int .i64 2, .int .u64 b1, .int .u64 b2, .int .u64 b3, .int .u64 b4, .slice none 0 0] 28 (0, 0)) := by rw [hw4, hA]; exact two_new w2 _ _
  have hs4 : w4.heap.size = A + 1 + 1 := by rw [hw4, hA]; simp
  have hb24 : Below w2.heap.size w2 w4 := by rw [hw4]; exact ((Below.refl _ _).alloc (Nat.le_refl _) _).alloc (by simp) _
  have hB4 : Below w.heap.size w w4 := HB1.out.trans ((HB2.out.trans (hb24.mono HB2.out.size)).mono HB1.out.size)
  have H4A := Lib.hid h4A
  have H4B := Lib.hid h4B
  have HS4 := Lib.hid hs4
  have HB4 := Lib.hid hB4
  have HAA := Lib.hid hA
  have HW4 := Lib.hid hw4
  have hd4A : (w4.drew).heap[A]? = some (.cells #[.int .i64 2, .int .u64 a1, .int .u64 a2, .int .u64 a3, .int .u64 a4, .slice none 0 0] 28 (0, 0)) := h4A
  clear h4A h4B hs4 hb24 hB4 hA hw4
  go_wp2_with fail
  rw [← HW4.out, ← HAA.out]
  have cs := fun W => refstar_any (P := fun _ => False) W ⟨2, a1, a2, a3, a4, none, 0, 0⟩ awA ((let_ra HS1.out : RAt W (fun _ => False) ⟨2, a1, a2, a3, a4, none, 0, 0⟩ awA))
  have hrb : ∀ (W : World) (P : Nat → Prop), RAt W P ⟨2, b1, b2, b3, b4, none, 0, 0⟩ awB := fun W P => let_ra HS2.out
  unfold ReV.val at cs
  simp only [] at cs
  have HCS := Lib.hid cs
  obtain ⟨⟨ca0, ca1, ca2, ca3, ca4, ca5⟩, _⟩ := six_facts H4A.out
  obtain ⟨⟨cb0, cb1, cb2, cb3, cb4, cb5⟩, _⟩ := six_facts H4B.out
  obtain ⟨⟨ja0, ja1, ja2, ja3, ja4, ja5⟩, _⟩ := six_facts ((@heap_alloc_old w4 (.cells #[.int .i64 0, .int .u64 0, .int .u64 0, .int .u64 0, .int .u64 0, .slice none 0 0] 28) _ (Array.getElem?_eq_some_iff.1 H4A.out).1).trans H4A.out)
  obtain ⟨⟨jb0, jb1, jb2, jb3, jb4, jb5⟩, _⟩ := six_facts ((@heap_alloc_old w4 (.cells #[.int .i64 0, .int .u64 0, .int .u64 0, .int .u64 0, .int .u64 0, .slice none 0 0] 28) _ (Array.getElem?_eq_some_iff.1 H4B.out).1).trans H4B.out)
  clear cs
  have hcat := fun (P : Nat → Prop) (W : World) (G : Nat) (x : ReV) (hP : P G) (hG : W.heap[G]? = some (.cells (x.cells ++ (⟨2, b1, b2, b3, b4, none, 0, 0⟩ : ReV).cells).toArray 28 (0, 0))) (hx : RAt W P x (starM awA)) => refcat_any (P := P) W (two_kids hP hG hx (hrb W P)) (by rw [aw_star]; simp [awA, awB, letM, sz_mk])
  rw [aw_catR] at hcat
  have HCAT := Lib.hid hcat
  have HRB := Lib.hid hrb
  clear hcat hrb
  have hsz1 : A + 1 < (w4.drew).heap.size := by show A + 1 < w4.heap.size; rw [HS4.out]; omega
  have HZ1 := Lib.hid hsz1
  clear hsz1 hd4A
  go_cut [3] from 2 to 3 (fun s3 W => ∃ (C : Nat) (x : ReV), s3 = .pointer (some ⟨C, 0, none⟩) ∧ Hid (W.heap[C]? = some (.cells x.cells.toArray 28 (0, 0))) ∧ Hid (RAt W (fun _ => True) x awR) ∧ Hid (Below w4.heap.size w4 W))
  · go_region_law (first
      | (go_simp; go_at_call 11; (with_reducible (refine (HCS.out w4.drew).mono ?_)); rintro _ w6 ⟨x6, rfl, hx6, hb6⟩; obtain ⟨e0, e1, e2, e3, e4, q6, m6, cp6⟩ := x6; unfold ReV.val; have h6 := (hb6.block (A + 1) HZ1.out).trans H4B.out; obtain ⟨⟨eb0, eb1, eb2, eb3, eb4, eb5⟩, _⟩ := six_facts h6; obtain ⟨⟨ec0, ec1, ec2, ec3, ec4, ec5⟩, _⟩ := six_facts ((@heap_alloc_old w6 (.cells #[.int .i64 0, .int .u64 0, .int .u64 0, .int .u64 0, .int .u64 0, .slice none 0 0] 28) _ (Array.getElem?_eq_some_iff.1 h6).1).trans h6); have HX6 := Lib.hid hx6; have HB6 : Hid (Below w4.heap.size w4 w6) := (below_drawn (Below.refl _ _) 1).trans hb6; clear hx6 hb6 h6)
      | (go_simp; go_at_call 11; (with_reducible (refine (HCS.out ((w4.alloc (.cells #[.int .i64 0, .int .u64 0, .int .u64 0, .int .u64 0, .int .u64 0, .slice none 0 0] 28)).drew)).mono ?_)); rintro _ w6 ⟨x6, rfl, hx6, hb6⟩; obtain ⟨e0, e1, e2, e3, e4, q6, m6, cp6⟩ := x6; unfold ReV.val; have h6 := (hb6.block (A + 1) (by show A + 1 < (w4.alloc (.cells #[.int .i64 0, .int .u64 0, .int .u64 0, .int .u64 0, .int .u64 0, .slice none 0 0] 28)).heap.size; have := HZ1.out; have : A + 1 < w4.heap.size := this; simp; omega)).trans ((@heap_alloc_old w4 _ _ HZ1.out).trans H4B.out); obtain ⟨⟨eb0, eb1, eb2, eb3, eb4, eb5⟩, _⟩ := six_facts h6; obtain ⟨⟨ec0, ec1, ec2, ec3, ec4, ec5⟩, _⟩ := six_facts ((@heap_alloc_old w6 (.cells #[.int .i64 0, .int .u64 0, .int .u64 0, .int .u64 0, .int .u64 0, .slice none 0 0] 28) _ (Array.getElem?_eq_some_iff.1 h6).1).trans h6); have h6D := (hb6.block w4.heap.size (by show w4.heap.size < (w4.alloc _).heap.size; simp)).trans (heap_alloc_new w4 _); have H6D := Lib.hid h6D; clear h6D; have HX6 := Lib.hid hx6; have HB6 : Hid (Below w4.heap.size w4 w6) := (below_drawn (below_alc w4 _) 1).trans (hb6.mono (by show w4.heap.size ≤ (w4.alloc _).heap.size; simp)); clear hx6 hb6 h6)
      | (go_simp; go_at_call 10; (with_reducible (refine (HCAT.out (fun g => g ≠ w4.heap.size) (w6.alloc (.cells #[.int .i64 e0, .int .u64 e1, .int .u64 e2, .int .u64 e3, .int .u64 e4, .slice q6 m6 cp6, .int .i64 2, .int .u64 b1, .int .u64 b2, .int .u64 b3, .int .u64 b4, .slice none 0 0] 28)) w6.heap.size ⟨e0, e1, e2, e3, e4, q6, m6, cp6⟩ (by have := (Array.getElem?_eq_some_iff.1 H6D.out).1; simp; omega) (heap_alloc_new _ _) ((HX6.out.weak fun b hb hl => (apart_new w4 _ b hb)).under (below_alc w6 _))).mono ?_)); rintro _ w7 ⟨x7, rfl, hx7, hb7⟩; obtain ⟨g0, g1, g2, g3, g4, q7, m7, cp7⟩ := x7; unfold ReV.val; have h7D := (hb7.block w4.heap.size (by have := (Array.getElem?_eq_some_iff.1 H6D.out).1; simp; omega)).trans ((@heap_alloc_old w6 _ _ (Array.getElem?_eq_some_iff.1 H6D.out).1).trans H6D.out); obtain ⟨⟨z0, z1, z2, z3, z4, z5⟩, y0, y1, y2, y3, y4, y5⟩ := zero_facts h7D; have H7D := Lib.hid h7D; clear h7D; have HX7 : Hid (RAt w7 (fun b => b ≠ w4.heap.size) ⟨g0, g1, g2, g3, g4, q7, m7, cp7⟩ awR) := hx7.weak (fun b hb _ => by rcases hb with hb | hb; exact hb; (have := (Array.getElem?_eq_some_iff.1 H6D.out).1; simp at hb; omega)); have HB7 : Hid (Below w6.heap.size w6 w7) := (below_alc w6 _).trans (hb7.mono (by simp)); clear hx7 hb7)
      | (go_simp; go_at_call 10; (with_reducible (refine (HCAT.out (fun _ => True) (w6.alloc (.cells #[.int .i64 e0, .int .u64 e1, .int .u64 e2, .int .u64 e3, .int .u64 e4, .slice q6 m6 cp6, .int .i64 2, .int .u64 b1, .int .u64 b2, .int .u64 b3, .int .u64 b4, .slice none 0 0] 28)) w6.heap.size ⟨e0, e1, e2, e3, e4, q6, m6, cp6⟩ trivial (heap_alloc_new _ _) ((HX6.out.weak fun b hb hl => trivial).under (below_alc w6 _))).mono ?_)); rintro _ w7 ⟨x7, rfl, hx7, hb7⟩; obtain ⟨g0, g1, g2, g3, g4, q7, m7, cp7⟩ := x7; unfold ReV.val; have HX7 := Lib.hid hx7; have HB7 : Hid (Below w6.heap.size w6 w7) := (below_alc w6 _).trans (hb7.mono (by simp)); clear hx7 hb7)
      | (go_simp; go_at_call 10; (with_reducible (refine (HCAT.out (fun g => g ≠ w6.heap.size + 1) ((w6.alloc (.cells #[.int .i64 e0, .int .u64 e1, .int .u64 e2, .int .u64 e3, .int .u64 e4, .slice q6 m6 cp6, .int .i64 2, .int .u64 b1, .int .u64 b2, .int .u64 b3, .int .u64 b4, .slice none 0 0] 28)).alloc (.cells #[.int .i64 0, .int .u64 0, .int .u64 0, .int .u64 0, .int .u64 0, .slice none 0 0] 28)) (w6.heap.size) ⟨e0, e1, e2, e3, e4, q6, m6, cp6⟩ (by simp) ((@heap_alloc_old _ _ _ (by simp)).trans (heap_alloc_new _ _)) ((HX6.out.weak fun b hb hl => (by omega)).under (((below_alc w6 (.cells #[.int .i64 e0, .int .u64 e1, .int .u64 e2, .int .u64 e3, .int .u64 e4, .slice q6 m6 cp6, .int .i64 2, .int .u64 b1, .int .u64 b2, .int .u64 b3, .int .u64 b4, .slice none 0 0] 28)).alloc (by simp) (.cells #[.int .i64 0, .int .u64 0, .int .u64 0, .int .u64 0, .int .u64 0, .slice none 0 0] 28))))).mono ?_)); rintro _ w7 ⟨x7, rfl, hx7, hb7⟩; obtain ⟨g0, g1, g2, g3, g4, q7, m7, cp7⟩ := x7; unfold ReV.val; have h7D := (hb7.block (w6.heap.size + 1) (by first | (simp; done) | (simp; omega))).trans (two_new w6 _ _); obtain ⟨⟨z0, z1, z2, z3, z4, z5⟩, y0, y1, y2, y3, y4, y5⟩ := zero_facts h7D; have H7D := Lib.hid h7D; clear h7D; have HX7 : Hid (RAt w7 (fun b => b ≠ w6.heap.size + 1) ⟨g0, g1, g2, g3, g4, q7, m7, cp7⟩ awR) := hx7.weak (fun b hb _ => by rcases hb with hb | hb; exact hb; (simp at hb; omega)); have HB7 : Hid (Below w6.heap.size w6 w7) := (((below_alc w6 (.cells #[.int .i64 e0, .int .u64 e1, .int .u64 e2, .int .u64 e3, .int .u64 e4, .slice q6 m6 cp6, .int .i64 2, .int .u64 b1, .int .u64 b2, .int .u64 b3, .int .u64 b4, .slice none 0 0] 28)).alloc (by simp) (.cells #[.int .i64 0, .int .u64 0, .int .u64 0, .int .u64 0, .int .u64 0, .slice none 0 0] 28))).trans (hb7.mono (((below_alc w6 (.cells #[.int .i64 e0, .int .u64 e1, .int .u64 e2, .int .u64 e3, .int .u64 e4, .slice q6 m6 cp6, .int .i64 2, .int .u64 b1, .int .u64 b2, .int .u64 b3, .int .u64 b4, .slice none 0 0] 28)).alloc (by simp) (.cells #[.int .i64 0, .int .u64 0, .int .u64 0, .int .u64 0, .int .u64 0, .slice none 0 0] 28))).size); clear hx7 hb7)
      | (go_simp; go_at_call 10; (with_reducible (refine (HCAT.out (fun g => g ≠ w6.heap.size) ((w6.alloc (.cells #[.int .i64 0, .int .u64 0, .int .u64 0, .int .u64 0, .int .u64 0, .slice none 0 0] 28)).alloc (.cells #[.int .i64 e0, .int .u64 e1, .int .u64 e2, .int .u64 e3, .int .u64 e4, .slice q6 m6 cp6, .int .i64 2, .int .u64 b1, .int .u64 b2, .int .u64 b3, .int .u64 b4, .slice none 0 0] 28)) (w6.heap.size + 1) ⟨e0, e1, e2, e3, e4, q6, m6, cp6⟩ (by simp) (two_new w6 _ _) ((HX6.out.weak fun b hb hl => (by omega)).under (((below_alc w6 (.cells #[.int .i64 0, .int .u64 0, .int .u64 0, .int .u64 0, .int .u64 0, .slice none 0 0] 28)).alloc (by simp) (.cells #[.int .i64 e0, .int .u64 e1, .int .u64 e2, .int .u64 e3, .int .u64 e4, .slice q6 m6 cp6, .int .i64 2, .int .u64 b1, .int .u64 b2, .int .u64 b3, .int .u64 b4, .slice none 0 0] 28))))).mono ?_)); rintro _ w7 ⟨x7, rfl, hx7, hb7⟩; obtain ⟨g0, g1, g2, g3, g4, q7, m7, cp7⟩ := x7; unfold ReV.val; have h7D := (hb7.block (w6.heap.size) (by first | (simp; done) | (simp; omega))).trans ((@heap_alloc_old _ _ _ (by simp)).trans (heap_alloc_new _ _)); obtain ⟨⟨z0, z1, z2, z3, z4, z5⟩, y0, y1, y2, y3, y4, y5⟩ := zero_facts h7D; have H7D := Lib.hid h7D; clear h7D; have HX7 : Hid (RAt w7 (fun b => b ≠ w6.heap.size) ⟨g0, g1, g2, g3, g4, q7, m7, cp7⟩ awR) := hx7.weak (fun b hb _ => by rcases hb with hb | hb; exact hb; (simp at hb; omega)); have HB7 : Hid (Below w6.heap.size w6 w7) := (((below_alc w6 (.cells #[.int .i64 0, .int .u64 0, .int .u64 0, .int .u64 0, .int .u64 0, .slice none 0 0] 28)).alloc (by simp) (.cells #[.int .i64 e0, .int .u64 e1, .int .u64 e2, .int .u64 e3, .int .u64 e4, .slice q6 m6 cp6, .int .i64 2, .int .u64 b1, .int .u64 b2, .int .u64 b3, .int .u64 b4, .slice none 0 0] 28))).trans (hb7.mono (((below_alc w6 (.cells #[.int .i64 0, .int .u64 0, .int .u64 0, .int .u64 0, .int .u64 0, .slice none 0 0] 28)).alloc (by simp) (.cells #[.int .i64 e0, .int .u64 e1, .int .u64 e2, .int .u64 e3, .int .u64 e4, .slice q6 m6 cp6, .int .i64 2, .int .u64 b1, .int .u64 b2, .int .u64 b3, .int .u64 b4, .slice none 0 0] 28))).size); clear hx7 hb7)
      | fail)
    all_goals (go_wp2_with fail; go_meet)
    all_goals have hall : Below w4.heap.size w4 w7 := HB6.out.trans (HB7.out.mono HB6.out.size)
    all_goals first
      | (have hD := H7D.out; exact ⟨_, ⟨g0, g1, g2, g3, g4, q7, m7, cp7⟩, rfl, set6_heap hD _ _ _ _ _ _, HX7.out.kept (Keeps.of (by simp [World.setCell]) fun b hp hl => ⟨six_ne hp _ _ _ _ _ _, trivial⟩), six_set hall (by have := HB6.out.size; omega) _ _ _ _ _ _⟩)
      | exact ⟨w7.heap.size, ⟨g0, g1, g2, g3, g4, q7, m7, cp7⟩, rfl, heap_alloc_new w7 _, (HX7.out.under (below_alc w7 _)).weak fun _ _ _ => trivial, hall.trans ((below_alc w7 _).mono hall.size)⟩
  obtain ⟨C, x, rfl, hC, hx, hb⟩ := hcut
  refine (by assumption : ∀ (a : Act) (w : World), Code.wp Tryz.prog _ _ a w → _) _ _ ?_
  have hT4 : Tab1 wc := HT.out.stays (HB4.out.trans (hb.out.mono HB4.out.size))
  have hAc : wc.heap[A]? = some (.cells (⟨2, a1, a2, a3, a4, none, 0, 0⟩ : ReV).cells.toArray 28 (0, 0)) := (hb.out.block A (by rw [HS4.out]; omega)).trans H4A.out
  have hH := awH hT4 hC.out hx.out hAc (let_ra HS1.out)
  refine wp_seq ?_
  refine regAw C A x _ hH (by kernel_rfl) rfl ?_ ?_
  · intro q hq
    simp only [fAw, List.mem_cons, List.not_mem_nil, or_false] at hq
    rcases hq with rfl | rfl <;> rfl
  intro tm w9 htm h4 hb9
  have hres : (results Tryz.f7 tm).run Tryz.prog w9 = .ok (.bool true) w9 := by
    have hf : Tryz.f7.results = #[.tmp 0] := by kernel_rfl
    simp [results, hf]
    rw [← Array.getD_eq_getD_getElem?]
    exact h4
  have hend : GivesBool true w (.returned (.bool true)) w9 := ⟨rfl, HB4.out.trans ((hb.out.trans (hb9.mono hb.out.size)).mono HB4.out.size)⟩
  exact wp_ret (bodyPost_ret_by (P := Tryz.prog) (fn := Tryz.f7) (R := GivesBool true w) (a := ⟨tm, []⟩) hres rfl hend)

end Go.Proofs.YtclnadjgbpihcaaGreatDoor

/-! The laws' Made: an expression by numbers, at depth 4. No condition but how many numbers are taken. -/
namespace Go.Proofs.YtclnadjgbpihcaaGreatDoor
open Go.RowKit Go.Lib
set_option linter.unusedVariables false
set_option linter.unusedSimpArgs false

theorem BytesLow.up {W : World} {R R' : Nat} {v : Value} {zs : List Int} (h : BytesLow W R v zs) (hr : R ≤ R') : BytesLow W R' v zs := by
  obtain ⟨a, cap, h1, h2, h3, h4, h5⟩ := h
  refine ⟨a, cap, h1, h2, h3, h4, fun hn => ?_⟩
  obtain ⟨b, off, ha, hlt, hc⟩ := h5 hn
  exact ⟨b, off, ha, by omega, hc⟩
set_option maxRecDepth 100000 in
set_option maxHeartbeats 8000000 in
theorem made_any (w : World) (a0 : Option Addr) (cap0 : Nat) (zs : List Int) (a : Nat) (ha : a ≤ 867232) (hv : BytesLow w w.heap.size (.slice a0 zs.length cap0) zs) :
    Calls Tryz.prog 5 #[.slice a0 zs.length cap0, .int .i64 (a : Int)] w (GivesRe (fun b => w.heap.size ≤ b) (reM zs 4 a).1 w) := by
  obtain ⟨D, hD⟩ : ∃ D, D = w.heap.size := ⟨_, rfl⟩
  obtain ⟨w1, hw1⟩ : ∃ w1 : World, w1 = w.alloc (.cells #[.int .i64 0, .int .u64 0, .int .u64 0, .int .u64 0, .int .u64 0, .slice none 0 0] 28) := ⟨_, rfl⟩
  have hb1 : Below w.heap.size w w1 := by rw [hw1]; exact (Below.refl _ _).alloc (Nat.le_refl _) _
  have hnD : w1.heap[D]? = some (.cells #[.int .i64 0, .int .u64 0, .int .u64 0, .int .u64 0, .int .u64 0, .slice none 0 0] 28 (0, 0)) := by rw [hw1, hD]; exact heap_alloc_new _ _
  have hDl : D < w1.heap.size := (Array.getElem?_eq_some_iff.1 hnD).1
  have hs1 : w1.heap.size = D + 1 := by rw [hw1, hD]; simp
  obtain ⟨R, hR⟩ : ∃ R, R = D + 1 := ⟨_, rfl⟩
  obtain ⟨w2, hw2⟩ : ∃ w2 : World, w2 = w1.alloc (.cells #[.slice a0 zs.length cap0, .int .i64 (a : Int)] 40) := ⟨_, rfl⟩
  have hb2 : Below w.heap.size w w2 := by rw [hw2]; exact hb1.alloc (by omega) _
  have hp2 : PickAt w2 R (.slice a0 zs.length cap0) zs a := by
    refine ⟨?_, ?_⟩
    · rw [hw2, hR, ← hs1]; exact heap_alloc_new _ _
    · exact (hv.kept fun b hb => hb2.block b hb).up (by omega)
  have h2D : w2.heap[D]? = some (.cells #[.int .i64 0, .int .u64 0, .int .u64 0, .int .u64 0, .int .u64 0, .slice none 0 0] 28 (0, 0)) := by rw [hw2]; exact (@heap_alloc_old _ _ _ hDl).trans hnD
  have hs2 : w2.heap.size = D + 2 := by rw [hw2]; simp [hs1]
  have c1 := re_any (R := R) (v := .slice a0 zs.length cap0) (zs := zs) 4 (by decide) w2 a hp2 (by omega)
  obtain ⟨T, hT⟩ : ∃ T, T = reM zs 4 a := ⟨_, rfl⟩
  rw [← hT] at c1 ⊢
  rw [show ((4 : Nat) : Int) = 4 from rfl] at c1
  have HW1 := Lib.hid hw1
  have HW2 := Lib.hid hw2
  have HDD := Lib.hid hD
  have HRR := Lib.hid hR
  have HB2 := Lib.hid hb2
  have H2D := Lib.hid h2D
  have HS1 := Lib.hid hs1
  have HS2 := Lib.hid hs2
  clear hw1 hw2 hD hR hb1 hb2 hp2 hv hnD hDl h2D hs1 hs2 hT
  go_enter Tryz.func5, Tryz.ntmps5
  go_wp2_with fail
  rw [← HW1.out, ← HDD.out, ← HW2.out, ← HRR.out]
  ((with_reducible refine c1.mono ?_))
  rintro _ w5 ⟨x5, rfl, hx5, hp5, hg5⟩
  clear c1
  obtain ⟨k, a1, b, c, dw, q, m, cp⟩ := x5
  have h5D := (hg5.block D (by rw [HS2.out]; omega) (fun e => by have := HRR.out; have := HS1.out; cases e; omega)).trans H2D.out
  have H5D := Lib.hid h5D
  have d0 : w5.cell? ⟨D, 0, none⟩ = some (.int .i64 0) := by simp [World.cell?, h5D]
  have d1 : w5.cell? ⟨D, 1, none⟩ = some (.int .u64 0) := by simp [World.cell?, h5D]
  have d2 : w5.cell? ⟨D, 2, none⟩ = some (.int .u64 0) := by simp [World.cell?, h5D]
  have d3 : w5.cell? ⟨D, 3, none⟩ = some (.int .u64 0) := by simp [World.cell?, h5D]
  have d4 : w5.cell? ⟨D, 4, none⟩ = some (.int .u64 0) := by simp [World.cell?, h5D]
  have d5 : w5.cell? ⟨D, 5, none⟩ = some (.slice none 0 0) := by simp [World.cell?, h5D]
  have f0 := frozen_no h5D 0
  have f1 := frozen_no h5D 1
  have f2 := frozen_no h5D 2
  have f3 := frozen_no h5D 3
  have f4 := frozen_no h5D 4
  have f5 := frozen_no h5D 5
  have HX5 := Lib.hid hx5
  have HG5 := Lib.hid hg5
  clear hx5 hp5 hg5 h5D
  unfold ReV.val
  go_wp2
  refine bodyPost_ret_by (results_cell_row rfl _ _ D 28 #[.int .i64 k, .int .u64 a1, .int .u64 b, .int .u64 c, .int .u64 dw, .slice q m cp] (0, 0) _ rfl (set6_heap H5D.out _ _ _ _ _ _) Tryz.underlying28 rfl (by kernel_rfl)) rfl ?_
  have hbig : Below w.heap.size w w5 := HB2.out.grown HG5.out (by have := HS2.out; have := HDD.out; omega) (fun r hr => by have := HRR.out; have := HS1.out; have := HDD.out; cases hr; omega)
  refine ⟨⟨k, a1, b, c, dw, q, m, cp⟩, rfl, ?_, six_set hbig (by have := HDD.out; omega) _ _ _ _ _ _⟩
  refine HX5.out.kept (Keeps.of (by simp [World.setCell]) fun b hp hl => ?_)
  have h1 := HS2.out
  have h2 := HDD.out
  have hbD : b ≠ D := by omega
  exact ⟨six_ne hbD _ _ _ _ _ _, by omega⟩

end Go.Proofs.YtclnadjgbpihcaaGreatDoor

/-! The law's own texts of few letters: some text, no longer than asked. No condition. -/
namespace Go.Proofs.YtclnadjgbpihcaaGreatDoor
open Go.RowKit Go.Lib
set_option linter.unusedVariables false
set_option linter.unusedSimpArgs false

/-- The call returns a text of so many bytes at most. -/
def GivesUpto (n : Nat) (w : World) (e : Ending) (w' : World) : Prop := ∃ s : ByteArray, s.size ≤ n ∧ e = .returned (.string s) ∧ Below w.heap.size w w'

set_option maxRecDepth 100000 in
set_option maxHeartbeats 8000000 in
theorem pieces_low {zs : List Int} {a0 : Option Addr} {cap : Nat} {w : World} (hv : BytesLow w w.heap.size (.slice a0 zs.length cap) zs) (g : Nat) (hs : w.heap[g]? = some (.cells #[.string ⟨#[97]⟩, .string ⟨#[98]⟩, .string ⟨#[99]⟩, .string ⟨#[100]⟩, .string ⟨#[97]⟩] 9 (0, 0))) :
    Calls Tryz.prog 14 #[.slice a0 zs.length cap, .slice (some ⟨g, 0, none⟩) 5 5] w (GivesUpto 14 w) := by
  obtain ⟨a, cap', he, hcap, hmax, hz, hc⟩ := hv
  cases he
  unfold maxLen at hmax
  have HZ := Lib.hid hz
  have HC := Lib.hid hc
  have hs5 : ∀ i : Nat, i < 5 → ∃ s : ByteArray, w.cell? ⟨g, i, none⟩ = some (.string s) ∧ s.size = 1 := fun i hi => by
    match i, hi with
    | 0, _ => exact ⟨_, by simp only [World.cell?, hs]; rfl, rfl⟩
    | 1, _ => exact ⟨_, by simp only [World.cell?, hs]; rfl, rfl⟩
    | 2, _ => exact ⟨_, by simp only [World.cell?, hs]; rfl, rfl⟩
    | 3, _ => exact ⟨_, by simp only [World.cell?, hs]; rfl, rfl⟩
    | 4, _ => exact ⟨_, by simp only [World.cell?, hs]; rfl, rfl⟩
    | n + 5, h => omega
  have HS := Lib.hid hs5
  obtain ⟨n, hn⟩ : ∃ n, n = zs.length := ⟨_, rfl⟩
  rw [← hn] at hcap hmax ⊢
  have HN := Lib.hid hn
  clear hz hc hs hs5 hn
  go_enter Tryz.func14, Tryz.ntmps14
  go_wp2_with fail
  go_loop [5, 6] (fun t i => ∃ (k : Nat) (s : ByteArray), i = .int .i64 k ∧ t = .string s ∧ k ≤ 14 ∧ s.size ≤ k) (fun _ i => 14 - (intOf i).toNat)
  case atStart => exact ⟨0, ⟨#[]⟩, rfl, rfl, by omega, by decide⟩
  case round =>
    obtain ⟨k, s, rfl, rfl, hk, hs⟩ := hrel
    by_cases h1 : k < n
    · have q1 : decide ((k : Int) < (n : Int)) = true := decide_eq_true (by omega)
      have q1' : decide (k < n) = true := decide_eq_true h1
      by_cases h2 : k < 14
      · have q2 : decide ((k : Int) < 14) = true := decide_eq_true (by omega)
        have q2' : decide (k < 14) = true := decide_eq_true h2
        obtain ⟨b, off, rfl, hb, hcell⟩ := HC.out (by rw [← HN.out]; omega)
        have hkl : k < zs.length := by rw [← HN.out]; exact h1
        have c0 := hcell k zs[k] (List.getElem?_eq_getElem hkl)
        have hz := HZ.out zs[k] (List.getElem_mem hkl)
        obtain ⟨z, hzz⟩ : ∃ z, z = zs[k] := ⟨_, rfl⟩
        rw [← hzz] at c0 hz
        obtain ⟨p, hp, hpl⟩ := HS.out (z % 5).toNat (by omega)
        have hm0 : 0 ≤ z % 5 := by omega
        have hm1 : z % 5 < 5 := by omega
        have hsz : (s ++ p).size = s.size + p.size := ByteArray.size_append ..
        have HSZ := Lib.hid hsz
        clear hcell hzz hsz
        go_wp2_with fail
        go_round
        case rel => exact ⟨k + 1, s ++ p, by go_num, rfl, by omega, by rw [HSZ.out]; omega⟩
        case measure => simp [intOf]; omega
      · have q2 : decide ((k : Int) < 14) = false := decide_eq_false (by omega)
        have q2' : decide (k < 14) = false := decide_eq_false h2
        go_wp2_with fail
        go_ret
        exact ⟨s, by omega, rfl, Below.refl _ _⟩
    · have q1 : decide ((k : Int) < (n : Int)) = false := decide_eq_false (by omega)
      have q1' : decide (k < n) = false := decide_eq_false h1
      go_wp2_with fail
      go_ret
      exact ⟨s, by omega, rfl, Below.refl _ _⟩

set_option maxRecDepth 100000 in
set_option maxHeartbeats 8000000 in
theorem letters_any {zs : List Int} {a0 : Option Addr} {cap : Nat} {w : World} (hv : BytesLow w w.heap.size (.slice a0 zs.length cap) zs) (m : Nat) (hm : m ≤ 6) :
    Calls Tryz.prog 6 #[.slice a0 zs.length cap, .int .i64 (m : Int)] w (GivesUpto m w) := by
  obtain ⟨w1, hw1⟩ : ∃ w1 : World, w1 = w.alloc (.cells #[.string ⟨#[97]⟩, .string ⟨#[98]⟩, .string ⟨#[99]⟩, .string ⟨#[100]⟩, .string ⟨#[97]⟩] 9) := ⟨_, rfl⟩
  obtain ⟨G, hG⟩ : ∃ G, G = w.heap.size := ⟨_, rfl⟩
  have hb1 : Below w.heap.size w w1 := by rw [hw1]; exact (Below.refl _ _).alloc (Nat.le_refl _) _
  have h1 : w1.heap[G]? = some (.cells #[.string ⟨#[97]⟩, .string ⟨#[98]⟩, .string ⟨#[99]⟩, .string ⟨#[100]⟩, .string ⟨#[97]⟩] 9 (0, 0)) := by rw [hw1, hG]; exact heap_alloc_new _ _
  have hv1 : BytesLow w1 w1.heap.size (.slice a0 zs.length cap) zs := by
    obtain ⟨a, c, h1, h2, h3, h4, h5⟩ := hv.kept fun b hb => hb1.block b hb
    refine ⟨a, c, h1, h2, h3, h4, fun hn => ?_⟩
    obtain ⟨b, off, ha, hlt, hc⟩ := h5 hn
    exact ⟨b, off, ha, Nat.lt_of_lt_of_le hlt hb1.size, hc⟩
  have c1 := pieces_low hv1 G h1
  have HB1 := Lib.hid hb1
  have HW1 := Lib.hid hw1
  have HG := Lib.hid hG
  clear hb1 hw1 hG h1 hv1 hv
  go_enter Tryz.func6, Tryz.ntmps6
  go_wp2_with fail
  rw [← HW1.out, ← HG.out]
  ((with_reducible refine c1.mono ?_))
  rintro _ w2 ⟨s, hs, rfl, hb2⟩
  have HB2 : Hid (Below w.heap.size w w2) := HB1.out.trans (hb2.mono HB1.out.size)
  clear hb2 c1
  by_cases hl : s.size ≤ m
  · have q1 : (s.size : Int) ≤ (m : Int) := by omega
    go_wp2_with fail
    go_ret
    first | exact ⟨s, hl, rfl, HB2.out⟩ | exact ⟨s.extract 0 (min (s.size : Int) (m : Int)).toNat, by rw [ByteArray.size_extract]; omega, rfl, HB2.out⟩
  · have q1 : ¬ (s.size : Int) ≤ (m : Int) := by omega
    go_wp2_with fail
    go_ret
    first | exact ⟨s.extract 0 m, by rw [ByteArray.size_extract]; omega, rfl, HB2.out⟩ | exact ⟨s.extract 0 (min (s.size : Int) (m : Int)).toNat, by rw [ByteArray.size_extract]; omega, rfl, HB2.out⟩

end Go.Proofs.YtclnadjgbpihcaaGreatDoor
