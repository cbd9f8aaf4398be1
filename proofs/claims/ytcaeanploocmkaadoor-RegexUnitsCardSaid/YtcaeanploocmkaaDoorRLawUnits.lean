/- Empty is nothing in a program's Cat, None all of it; None is nothing in its Either; a Star's Star is that Star: of expressions by at most 150 numbers. No condition. -/
import Derived.Test.YtcaeanploocmkaaDoorZD
namespace Go.Proofs.YtcaeanploocmkaaDoor.regexUnits
open Go.ChangeShapes Go.WideShapes Go.ChangeAt Go.RowKit Go.Proofs.YtcaeanploocmkaaDoor
open Go.ChangeMaps (open_string shut_string)
set_option linter.unusedVariables false
set_option linter.unusedSimpArgs false

open Go.Lib
theorem sum_le (l : List RT) (h : (l.map RT.sz).sum ≤ 2048) : ∀ t ∈ l, t.sz ≤ 2048 := fun t ht => by have := sum_mem ht; omega

set_option maxRecDepth 100000 in
set_option maxHeartbeats 8000000 in
theorem walk (x0 : Value) (z0 : List Int) (w : World) (hT : Tab1 w) (h0 : BytesAt w x0 z0) :
    Calls Tryd.prog 7 #[x0] w (GivesBool true w) := by
  obtain ⟨av, nv, cv, rfl⟩ : ∃ a n c, x0 = .slice a n c := by obtain ⟨a, c, h, _⟩ := h0; exact ⟨a, _, c, h⟩
  have hb1 := Below.refl w.heap.size w
  have HB1 := Lib.hid hb1
  have HT1 := Lib.hid hT
  clear hb1
  go_enter Tryd.func7, Tryd.ntmps7
  go_wp2_with fail
  ((with_reducible refine (awaker_any _ (HT1.out)).mono ?_))
  rintro _ w2 ⟨rfl, hb2⟩
  have HB2 : Hid (Below w.heap.size w w2) := HB1.out.trans (hb2.mono HB1.out.size)
  obtain ⟨hnz, hlow⟩ := h0.low HB2.out
  subst hnz
  have c2 := few_any w2 av cv z0 hlow
  have HTW := Lib.hid (hT.stays HB2.out)
  clear hb2 hlow h0 hT HT1
  go_wp2_with fail
  ((with_reducible refine c2.mono ?_))
  rintro _ w3 ⟨q, n, cp, us, rfl, hn, ho, hl, he, hb3⟩
  have hk := kids_of_own hn ho hl he
  obtain ⟨f1, f2, f3⟩ := few_facts z0
  obtain ⟨F, hF⟩ : ∃ F, F = fewM z0 := ⟨_, rfl⟩
  rw [← hF] at hk hn f1 f2 f3
  have HK := Lib.hid hk
  have HN := Lib.hid hn
  have HF2 := Lib.hid f2
  have HF3 := Lib.hid f3
  have HB3 : Hid (Below w.heap.size w w3) := HB2.out.trans (hb3.mono HB2.out.size)
  have HT3 := Lib.hid (HTW.out.stays hb3)
  have hn4 : n ≤ 4 := by omega
  have HFF := Lib.hid hF
  clear hk hn ho hl he hb3 f1 f2 f3 hF c2
  go_wp2_with fail
  obtain ⟨i0, hi0, hz0, hz1, hz2⟩ := re_parts
  obtain ⟨w4, hw4⟩ : ∃ w4 : World, w4 = (w3.alloc (.cells #[.int .i64 0, .int .u64 0, .int .u64 0, .int .u64 0, .int .u64 0, .slice none 0 0] 31)).alloc (.cells #[.int .i64 1, .int .u64 0, .int .u64 0, .int .u64 0, .int .u64 0, .slice none 0 0] 31) := ⟨_, rfl⟩
  have hb4 : Below w3.heap.size w3 w4 := by rw [hw4]; exact ((Below.refl _ _).alloc (Nat.le_refl _) _).alloc (by simp) _
  obtain ⟨Bz, hBz⟩ : ∃ B, B = w3.heap.size := ⟨_, rfl⟩
  obtain ⟨Bd, hBd⟩ : ∃ B, B = Bz + 1 := ⟨_, rfl⟩
  have hNz : w4.heap[Bz]? = some (.cells #[.int .i64 0, .int .u64 0, .int .u64 0, .int .u64 0, .int .u64 0, .slice none 0 0] 31 (0, 0)) := by rw [hw4, hBz, heap_alloc_old _ _ (by simp)]; exact heap_alloc_new _ _
  have hNd : w4.heap[Bd]? = some (.cells #[.int .i64 1, .int .u64 0, .int .u64 0, .int .u64 0, .int .u64 0, .slice none 0 0] 31 (0, 0)) := by rw [hw4, hBd, hBz]; exact two_new _ _ _
  have HNz := Lib.hid hNz
  have HNd := Lib.hid hNd
  have HLz := Lib.hid (Array.getElem?_eq_some_iff.1 hNz).1
  have HLd := Lib.hid (Array.getElem?_eq_some_iff.1 hNd).1
  have HB4 := Lib.hid hb4
  have HW4 := Lib.hid hw4
  have HBz := Lib.hid hBz
  have HBd := Lib.hid hBd
  have HK4 := Lib.hid (HK.out.under hb4)
  have HT4 := Lib.hid (HT3.out.stays hb4)
  clear hw4 hb4 hBz hBd hNz hNd
  rw [← HW4.out, ← HBz.out, ← HBd.out]
  go_loopg [7, 8, 9] n (fun gk v7 v8 vi wr => ∃ (i : Nat) (q7 q8 : Option Addr) (N c7 c8 : Nat) (us7 us8 : List ReV), v7 = .slice q7 N c7 ∧ v8 = .slice q8 N c8 ∧ vi = .int .i64 (i : Int) ∧ i ≤ n ∧ n - i ≤ gk ∧ Hid (N = 2 * i) ∧ N ≤ 8 ∧ Hid (Below w4.heap.size w4 wr) ∧ Hid (OwnRe w4 wr (fun b => w2.heap.size ≤ b) (.slice q7 N c7) us7 (between emptyM (F.take i))) ∧ Hid (OwnRe w4 wr (fun b => w2.heap.size ≤ b) (.slice q8 N c8) us8 (between noneM (F.take i))) ∧ Hid (Apart2 (.slice q7 N c7) (.slice q8 N c8)))
  case atStart => exact ⟨0, none, none, 0, 0, 0, [], [], rfl, rfl, rfl, by omega, by omega, rfl, by omega, Below.refl _ _, ⟨World.ownsRow_nil _ _ _ _, rfl, fun i y t hy => by simp at hy⟩, ⟨World.ownsRow_nil _ _ _ _, rfl, fun i y t hy => by simp at hy⟩, fun b hb => by cases hb⟩
  case round =>
    obtain ⟨i, q7, q8, N, c7, c8, us7, us8, rfl, rfl, rfl, hi, hgk, HNN, hN8, HB, HO7, HO8, HAP⟩ := hrel
    by_cases hlt : i < n
    · have hltz : (i : Int) < (n : Int) := by omega
      obtain ⟨g, off, rfl⟩ := HK.out.rowv.some_of hlt
      have hil : i < F.length := by rw [← HN.out]; exact hlt
      have HIL : Hid (i ≤ F.length) := Nat.le_of_lt hil
      obtain ⟨y, hy⟩ : ∃ y, us[i]? = some y := ⟨_, List.getElem?_eq_getElem (by rw [HK.out.len]; exact hil)⟩
      obtain ⟨u, hu⟩ : ∃ u, F[i]? = some u := ⟨_, List.getElem?_eq_getElem hil⟩
      have HPL := Lib.hid (HK.out.place hy)
      have HRA := Lib.hid (HK4.out.each i y u hy hu)
      have HTK : Hid (∀ e, between e (F.take (i + 1)) = between e (F.take i) ++ [e, u]) := fun e => between_take e F i u hu
      have hN6 : N ≤ 6 := by have := HNN.out; omega
      obtain ⟨y0, y1, y2, y3, y4, y5, y6, y7⟩ := y
      clear hy hu hil
      have hdB := (HB.out.block Bd HLd.out).trans HNd.out
      have d0 : wr.cell? ⟨Bd, 0, none⟩ = some (.int .i64 1) := by simp [World.cell?, hdB]
      have d1 : wr.cell? ⟨Bd, 1, none⟩ = some (.int .u64 0) := by simp [World.cell?, hdB]
      have d2 : wr.cell? ⟨Bd, 2, none⟩ = some (.int .u64 0) := by simp [World.cell?, hdB]
      have d3 : wr.cell? ⟨Bd, 3, none⟩ = some (.int .u64 0) := by simp [World.cell?, hdB]
      have d4 : wr.cell? ⟨Bd, 4, none⟩ = some (.int .u64 0) := by simp [World.cell?, hdB]
      have d5 : wr.cell? ⟨Bd, 5, none⟩ = some (.slice none 0 0) := by simp [World.cell?, hdB]
      clear hdB
      obtain ⟨e0, e1, e2, e3, e4, e5⟩ := (HPL.out.under (HB4.out.trans (HB.out.mono HB4.out.size))).six
      simp only at e0 e1 e2 e3 e4 e5
      have HOB7 : Hid ((wr.drew.alloc (.cells #[.int .i64 1, .int .u64 0, .int .u64 0, .int .u64 0, .int .u64 0, .slice none 0 0, .int .i64 y0, .int .u64 y1, .int .u64 y2, .int .u64 y3, .int .u64 y4, .slice y5 y6 y7] 31)).ownsRow w4.heap.size 31 6 (.slice q7 N c7) N (us7.flatMap ReV.cells)) := by
        have h := (HO7.out.drewAlloc (.cells #[.int .i64 1, .int .u64 0, .int .u64 0, .int .u64 0, .int .u64 0, .slice none 0 0, .int .i64 y0, .int .u64 y1, .int .u64 y2, .int .u64 y3, .int .u64 y4, .slice y5 y6 y7] 31)).own
        rw [between_len, List.length_take, Nat.min_eq_left HIL.out, ← HNN.out] at h
        exact h
      have HAB7 : Hid (∀ b, (Value.slice q7 N c7).ownBlock = some b → w4.heap.size ≤ b) := own_above HOB7.out
      have hwle : w4.heap.size ≤ wr.heap.size := HB.out.size
      go_wp2_with fail
      go_region_law (refine step_append_lies _ (by rfl) _ _ _ (by rfl) w4.heap.size 31 i0 _ 6 64 Tryd.underlying22 hi0 hz0 hz1 hz2 rfl (by omega) (.slice q7 N c7) N (us7.flatMap ReV.cells) (by rfl) HOB7.out ⟨wr.drew.heap.size, 0, none⟩ 2 2 [.int .i64 1, .int .u64 0, .int .u64 0, .int .u64 0, .int .u64 0, .slice none 0 0, .int .i64 y0, .int .u64 y1, .int .u64 y2, .int .u64 y3, .int .u64 y4, .slice y5 y6 y7] (by rfl) (by rfl) (new3 wr.drew #[.int .i64 1, .int .u64 0, .int .u64 0, .int .u64 0, .int .u64 0, .slice none 0 0, .int .i64 y0, .int .u64 y1, .int .u64 y2, .int .u64 y3, .int .u64 y4, .slice y5 y6 y7] 31 [.int .i64 1, .int .u64 0, .int .u64 0, .int .u64 0, .int .u64 0, .slice none 0 0, .int .i64 y0, .int .u64 y1, .int .u64 y2, .int .u64 y3, .int .u64 y4, .slice y5 y6 y7] rfl) (flat6_one [⟨1, 0, 0, 0, 0, none, 0, 0⟩, ⟨y0, y1, y2, y3, y4, y5, y6, y7⟩]) (by omega) (by unfold maxLen; omega) (by omega) (by simp; omega) (wr.heap.size + 1) (by simp) ?_; intro g7 cap7 w5 hown hgrow hat hlt7; have HOWN := Lib.hid hown; have HGROW := Lib.hid hgrow; have HAT := Lib.hid hat; clear hown hgrow hat hlt7)
      all_goals
        have hown := HOWN.out
        have hgrow := HGROW.out
        have hat := HAT.out
        have HBw5 : Hid (Below w4.heap.size w4 w5) := ((below_drawn HB.out 1).alloc HB.out.size _).grown hgrow (by simp; omega) HAB7.out
        have HXN8 : Hid (OwnRe w4 w5 (fun b => w2.heap.size ≤ b) (.slice q8 N c8) us8 (between noneM (F.take i))) := (HO8.out.drewAlloc _).beside hgrow HAP.out.symm.ne
        have HON7 : Hid (OwnRe w4 w5 (fun b => w2.heap.size ≤ b) (.slice (some ⟨g7, 0, none⟩) (N + 2) cap7) (us7 ++ [⟨1, 0, 0, 0, 0, none, 0, 0⟩, ⟨y0, y1, y2, y3, y4, y5, y6, y7⟩]) (between emptyM (F.take (i + 1)))) := by
          unfold Hid
          rw [HTK.out emptyM]
          refine HO7.out.push2 one_empty HRA.out ?_
          rw [between_len, List.length_take, Nat.min_eq_left HIL.out, ← HNN.out]
          exact hown
        have HAPw5 : Hid (Apart2 (.slice (some ⟨g7, 0, none⟩) (N + 2) cap7) (.slice q8 N c8)) := HAP.out.grow (K := wr.heap.size + 1) (fun b hb => by have := HO8.out.blockLt b hb; omega) (by rcases hat with h | h; exact .inl h.symm; exact .inr (by rw [h]; rfl))
        clear hown hgrow hat hwle HOWN HGROW HAT e0 e1 e2 e3 e4 e5 d0 d1 d2 d3 d4 d5
        have hzB := (HBw5.out.block Bz HLz.out).trans HNz.out
        have z0 : w5.cell? ⟨Bz, 0, none⟩ = some (.int .i64 0) := by simp [World.cell?, hzB]
        have z1 : w5.cell? ⟨Bz, 1, none⟩ = some (.int .u64 0) := by simp [World.cell?, hzB]
        have z2 : w5.cell? ⟨Bz, 2, none⟩ = some (.int .u64 0) := by simp [World.cell?, hzB]
        have z3 : w5.cell? ⟨Bz, 3, none⟩ = some (.int .u64 0) := by simp [World.cell?, hzB]
        have z4 : w5.cell? ⟨Bz, 4, none⟩ = some (.int .u64 0) := by simp [World.cell?, hzB]
        have z5 : w5.cell? ⟨Bz, 5, none⟩ = some (.slice none 0 0) := by simp [World.cell?, hzB]
        clear hzB
        obtain ⟨e0, e1, e2, e3, e4, e5⟩ := (HPL.out.under (HB4.out.trans (HBw5.out.mono HB4.out.size))).six
        simp only at e0 e1 e2 e3 e4 e5
        have HOB8 : Hid ((w5.drew.alloc (.cells #[.int .i64 0, .int .u64 0, .int .u64 0, .int .u64 0, .int .u64 0, .slice none 0 0, .int .i64 y0, .int .u64 y1, .int .u64 y2, .int .u64 y3, .int .u64 y4, .slice y5 y6 y7] 31)).ownsRow w4.heap.size 31 6 (.slice q8 N c8) N (us8.flatMap ReV.cells)) := by
          have h := (HXN8.out.drewAlloc (.cells #[.int .i64 0, .int .u64 0, .int .u64 0, .int .u64 0, .int .u64 0, .slice none 0 0, .int .i64 y0, .int .u64 y1, .int .u64 y2, .int .u64 y3, .int .u64 y4, .slice y5 y6 y7] 31)).own
          rw [between_len, List.length_take, Nat.min_eq_left HIL.out, ← HNN.out] at h
          exact h
        have HAB8 : Hid (∀ b, (Value.slice q8 N c8).ownBlock = some b → w4.heap.size ≤ b) := own_above HOB8.out
        have hwle : w4.heap.size ≤ w5.heap.size := HBw5.out.size
        go_wp2_with fail
        go_region_law (refine step_append_lies _ (by rfl) _ _ _ (by rfl) w4.heap.size 31 i0 _ 6 64 Tryd.underlying22 hi0 hz0 hz1 hz2 rfl (by omega) (.slice q8 N c8) N (us8.flatMap ReV.cells) (by rfl) HOB8.out ⟨w5.drew.heap.size, 0, none⟩ 2 2 [.int .i64 0, .int .u64 0, .int .u64 0, .int .u64 0, .int .u64 0, .slice none 0 0, .int .i64 y0, .int .u64 y1, .int .u64 y2, .int .u64 y3, .int .u64 y4, .slice y5 y6 y7] (by rfl) (by rfl) (new3 w5.drew #[.int .i64 0, .int .u64 0, .int .u64 0, .int .u64 0, .int .u64 0, .slice none 0 0, .int .i64 y0, .int .u64 y1, .int .u64 y2, .int .u64 y3, .int .u64 y4, .slice y5 y6 y7] 31 [.int .i64 0, .int .u64 0, .int .u64 0, .int .u64 0, .int .u64 0, .slice none 0 0, .int .i64 y0, .int .u64 y1, .int .u64 y2, .int .u64 y3, .int .u64 y4, .slice y5 y6 y7] rfl) (flat6_one [⟨0, 0, 0, 0, 0, none, 0, 0⟩, ⟨y0, y1, y2, y3, y4, y5, y6, y7⟩]) (by omega) (by unfold maxLen; omega) (by omega) (by simp; omega) (w5.heap.size + 1) (by simp) ?_; intro g8 cap8 w6 hown hgrow hat hlt7; have HOWN := Lib.hid hown; have HGROW := Lib.hid hgrow; have HAT := Lib.hid hat; clear hown hgrow hat hlt7)
        all_goals
          have hown := HOWN.out
          have hgrow := HGROW.out
          have hat := HAT.out
          have HBw6 : Hid (Below w4.heap.size w4 w6) := ((below_drawn HBw5.out 1).alloc HBw5.out.size _).grown hgrow (by simp; omega) HAB8.out
          have HXN7 : Hid (OwnRe w4 w6 (fun b => w2.heap.size ≤ b) (.slice (some ⟨g7, 0, none⟩) (N + 2) cap7) (us7 ++ [⟨1, 0, 0, 0, 0, none, 0, 0⟩, ⟨y0, y1, y2, y3, y4, y5, y6, y7⟩]) (between emptyM (F.take (i + 1)))) := (HON7.out.drewAlloc _).beside hgrow HAPw5.out.ne
          have HON8 : Hid (OwnRe w4 w6 (fun b => w2.heap.size ≤ b) (.slice (some ⟨g8, 0, none⟩) (N + 2) cap8) (us8 ++ [⟨0, 0, 0, 0, 0, none, 0, 0⟩, ⟨y0, y1, y2, y3, y4, y5, y6, y7⟩]) (between noneM (F.take (i + 1)))) := by
            unfold Hid
            rw [HTK.out noneM]
            refine HXN8.out.push2 one_none HRA.out ?_
            rw [between_len, List.length_take, Nat.min_eq_left HIL.out, ← HNN.out]
            exact hown
          have HAPw6 : Hid (Apart2 (.slice (some ⟨g8, 0, none⟩) (N + 2) cap8) (.slice (some ⟨g7, 0, none⟩) (N + 2) cap7)) := HAPw5.out.symm.grow (K := w5.heap.size + 1) (fun b hb => by have := HON7.out.blockLt b hb; omega) (by rcases hat with h | h; exact .inl h.symm; exact .inr (by rw [h]; rfl))
          clear hown hgrow hat hwle HOWN HGROW HAT e0 e1 e2 e3 e4 e5 z0 z1 z2 z3 z4 z5
          go_wp2_with fail
          go_roundg (n - (i + 1))
          case measure => omega
          case rel => exact ⟨i + 1, _, _, N + 2, _, _, _, _, rfl, rfl, by go_num, by omega, Nat.le_refl _, by unfold Hid; rw [HNN.out]; omega, by omega, HBw6.out, HXN7.out, HON8.out, HAPw6.out.symm⟩
    · have hltz : ¬ (i : Int) < (n : Int) := by omega
      have hin : F.take i = F := List.take_of_length_le (by rw [← HN.out]; omega)
      have HF7 : Hid (OwnRe w4 wr (fun b => w2.heap.size ≤ b) (.slice q7 N c7) us7 (between emptyM F)) := by have h := HO7.out; rw [hin] at h; exact h
      have HF8 : Hid (OwnRe w4 wr (fun b => w2.heap.size ≤ b) (.slice q8 N c8) us8 (between noneM F)) := by have h := HO8.out; rw [hin] at h; exact h
      have HNF : Hid (N = 2 * F.length) := by unfold Hid; rw [HNN.out, ← HN.out]; omega
      have HDF : Hid (∀ t ∈ F, t.dep ≤ 4) := fun t ht => (HF2.out t ht).2.2
      clear hin HO7 HO8
      have hdB := (HB.out.block Bd HLd.out).trans HNd.out
      have d0 : wr.cell? ⟨Bd, 0, none⟩ = some (.int .i64 1) := by simp [World.cell?, hdB]
      have d1 : wr.cell? ⟨Bd, 1, none⟩ = some (.int .u64 0) := by simp [World.cell?, hdB]
      have d2 : wr.cell? ⟨Bd, 2, none⟩ = some (.int .u64 0) := by simp [World.cell?, hdB]
      have d3 : wr.cell? ⟨Bd, 3, none⟩ = some (.int .u64 0) := by simp [World.cell?, hdB]
      have d4 : wr.cell? ⟨Bd, 4, none⟩ = some (.int .u64 0) := by simp [World.cell?, hdB]
      have d5 : wr.cell? ⟨Bd, 5, none⟩ = some (.slice none 0 0) := by simp [World.cell?, hdB]
      clear hdB
      have HOB7 : Hid ((wr.alloc (.cells #[.int .i64 1, .int .u64 0, .int .u64 0, .int .u64 0, .int .u64 0, .slice none 0 0] 31)).ownsRow w4.heap.size 31 6 (.slice q7 N c7) N (us7.flatMap ReV.cells)) := by
        have h := (HF7.out.alloc1 (.cells #[.int .i64 1, .int .u64 0, .int .u64 0, .int .u64 0, .int .u64 0, .slice none 0 0] 31)).own
        rw [between_len, ← HNF.out] at h
        exact h
      have HAB7 : Hid (∀ b, (Value.slice q7 N c7).ownBlock = some b → w4.heap.size ≤ b) := own_above HOB7.out
      have hwle : w4.heap.size ≤ wr.heap.size := HB.out.size
      go_wp2_with (at_builtin; go_loud (refine wpList_append_own_keep _ rfl _ _ 22 rfl w4.heap.size 31 i0 _ 6 64 Tryd.underlying22 hi0 hz0 hz1 hz2 rfl (by decide) _ _ _ rfl HOB7.out ⟨wr.heap.size, 0, none⟩ 1 1 [.int .i64 1, .int .u64 0, .int .u64 0, .int .u64 0, .int .u64 0, .slice none 0 0] rfl rfl (new3 wr #[.int .i64 1, .int .u64 0, .int .u64 0, .int .u64 0, .int .u64 0, .slice none 0 0] 31 [.int .i64 1, .int .u64 0, .int .u64 0, .int .u64 0, .int .u64 0, .slice none 0 0] rfl) (flat6_one [⟨1, 0, 0, 0, 0, none, 0, 0⟩]) ?c3 ?c4 ?c5 ?_))
      case c3 => unfold maxLen; omega
      case c4 => omega
      case c5 => first | omega | (simp; omega)
      intro v' w5 hown hgrow hkeep hat
      obtain ⟨g9, cap9, rfl⟩ := (row_forms hown).resolve_left (fun h => by cases h.2)
      have HB5 : Hid (Below w4.heap.size w4 w5) := (HB.out.alloc HB.out.size _).grown hgrow (by simp; omega) HAB7.out
      have HE8 : Hid (OwnRe w4 w5 (fun b => w2.heap.size ≤ b) (.slice q8 N c8) us8 (between noneM F)) := (HF8.out.alloc1 _).beside hgrow HAP.out.symm.ne
      have HE7 : Hid (OwnRe w4 w5 (fun b => w2.heap.size ≤ b) (.slice q7 N c7) us7 (between emptyM F)) := ⟨by rw [between_len, ← HNF.out]; exact hkeep, HF7.out.len, HF7.out.each⟩
      have ho9 : OwnRe w4 w5 (fun b => w2.heap.size ≤ b) (.slice (some ⟨g9, 0, none⟩) (N + 1) cap9) (us7 ++ [⟨1, 0, 0, 0, 0, none, 0, 0⟩]) (between emptyM F ++ [emptyM]) := HF7.out.push one_empty (by rw [between_len, ← HNF.out]; exact hown)
      have c5 := cat_any w5 (ho9.kidsAt HB5.out) (by rw [List.map_append, List.sum_append, between_sum]; have := HF3.out; have := HN.out; simp [unit_sz.1]; omega)
      rw [cat_empties] at c5
      clear hown hgrow hkeep hat ho9 hwle d0 d1 d2 d3 d4 d5
      go_wp2_with fail
      ((with_reducible refine c5.mono ?_))
      rintro _ w6 ⟨x6, rfl, hx6, hb6⟩
      have HB6 : Hid (Below w4.heap.size w4 w6) := HB5.out.trans (hb6.mono HB5.out.size)
      have HX6 := Lib.hid hx6
      have HE68 := Lib.hid (HE8.out.moved hb6)
      have HE67 := Lib.hid (HE7.out.moved hb6)
      have c6 := cat_any w6 (HK4.out.under HB6.out) (by have := HF3.out; omega)
      clear hx6 hb6 c5
      go_wp2_with fail
      ((with_reducible refine c6.mono ?_))
      rintro _ w7 ⟨x7, rfl, hx7, hb7⟩
      have HB7 : Hid (Below w4.heap.size w4 w7) := HB6.out.trans (hb7.mono HB6.out.size)
      have c7 := same_any (catM F).dep (catM F) x6 x7 w7 (Nat.le_refl _) (by have := sz_cat F; have := HF3.out; omega) (HX6.out.under hb7) hx7
      have HE78 := Lib.hid (HE68.out.moved hb7)
      have HE77 := Lib.hid (HE67.out.moved hb7)
      clear hx7 hb7 c6
      go_wp2_with fail
      ((with_reducible refine c7.mono ?_))
      rintro _ w8 ⟨rfl, hb8⟩
      have HB8 : Hid (Below w4.heap.size w4 w8) := HB7.out.trans (hb8.mono HB7.out.size)
      have HE88 := Lib.hid (HE78.out.moved hb8)
      have HE87 := Lib.hid (HE77.out.moved hb8)
      clear hb8 c7
      have hzB := (HB8.out.block Bz HLz.out).trans HNz.out
      have z0 : w8.cell? ⟨Bz, 0, none⟩ = some (.int .i64 0) := by simp [World.cell?, hzB]
      have z1 : w8.cell? ⟨Bz, 1, none⟩ = some (.int .u64 0) := by simp [World.cell?, hzB]
      have z2 : w8.cell? ⟨Bz, 2, none⟩ = some (.int .u64 0) := by simp [World.cell?, hzB]
      have z3 : w8.cell? ⟨Bz, 3, none⟩ = some (.int .u64 0) := by simp [World.cell?, hzB]
      have z4 : w8.cell? ⟨Bz, 4, none⟩ = some (.int .u64 0) := by simp [World.cell?, hzB]
      have z5 : w8.cell? ⟨Bz, 5, none⟩ = some (.slice none 0 0) := by simp [World.cell?, hzB]
      clear hzB
      have HOB8 : Hid ((w8.alloc (.cells #[.int .i64 0, .int .u64 0, .int .u64 0, .int .u64 0, .int .u64 0, .slice none 0 0] 31)).ownsRow w4.heap.size 31 6 (.slice q8 N c8) N (us8.flatMap ReV.cells)) := by
        have h := (HE88.out.alloc1 (.cells #[.int .i64 0, .int .u64 0, .int .u64 0, .int .u64 0, .int .u64 0, .slice none 0 0] 31)).own
        rw [between_len, ← HNF.out] at h
        exact h
      have HAB8 : Hid (∀ b, (Value.slice q8 N c8).ownBlock = some b → w4.heap.size ≤ b) := own_above HOB8.out
      have hwle : w4.heap.size ≤ w8.heap.size := HB8.out.size
      go_wp2_with (at_builtin; go_loud (refine wpList_append_own_keep _ rfl _ _ 22 rfl w4.heap.size 31 i0 _ 6 64 Tryd.underlying22 hi0 hz0 hz1 hz2 rfl (by decide) _ _ _ rfl HOB8.out ⟨w8.heap.size, 0, none⟩ 1 1 [.int .i64 0, .int .u64 0, .int .u64 0, .int .u64 0, .int .u64 0, .slice none 0 0] rfl rfl (new3 w8 #[.int .i64 0, .int .u64 0, .int .u64 0, .int .u64 0, .int .u64 0, .slice none 0 0] 31 [.int .i64 0, .int .u64 0, .int .u64 0, .int .u64 0, .int .u64 0, .slice none 0 0] rfl) (flat6_one [⟨0, 0, 0, 0, 0, none, 0, 0⟩]) ?c3 ?c4 ?c5 ?_))
      case c3 => unfold maxLen; omega
      case c4 => omega
      case c5 => first | omega | (simp; omega)
      intro v' w9 hown hgrow hkeep hat
      obtain ⟨g10, cap10, rfl⟩ := (row_forms hown).resolve_left (fun h => by cases h.2)
      have HB9 : Hid (Below w4.heap.size w4 w9) := (HB8.out.alloc HB8.out.size _).grown hgrow (by simp; omega) HAB8.out
      have HE97 : Hid (OwnRe w4 w9 (fun b => w2.heap.size ≤ b) (.slice q7 N c7) us7 (between emptyM F)) := (HE87.out.alloc1 _).beside hgrow HAP.out.ne
      have ho10 : OwnRe w4 w9 (fun b => w2.heap.size ≤ b) (.slice (some ⟨g10, 0, none⟩) (N + 1) cap10) (us8 ++ [⟨0, 0, 0, 0, 0, none, 0, 0⟩]) (between noneM F ++ [noneM]) := HE88.out.push one_none (by rw [between_len, ← HNF.out]; exact hown)
      have c9 := either_any w9 (ho10.kidsAt HB9.out) (HT4.out.stays HB9.out) (fun t ht => by
        rcases List.mem_append.1 ht with h | h
        · rcases between_mem h with rfl | h
          · have := unit_dep.2; omega
          · have := HDF.out t h; omega
        · obtain rfl := List.mem_singleton.1 h
          have := unit_dep.2
          omega) (by rw [List.map_append, List.sum_append, between_sum]; have := HF3.out; have := HN.out; simp [unit_sz.2]; omega)
      rw [either_nones] at c9
      clear hown hgrow hkeep hat ho10 hwle z0 z1 z2 z3 z4 z5
      go_wp2_with fail
      ((with_reducible refine c9.mono ?_))
      rintro _ w10 ⟨x10, rfl, hx10, hb10⟩
      have HB10 : Hid (Below w4.heap.size w4 w10) := HB9.out.trans (hb10.mono HB9.out.size)
      have HX10 := Lib.hid hx10
      have HE107 := Lib.hid (HE97.out.moved hb10)
      have c10 := either_any w10 (HK4.out.under HB10.out) (HT4.out.stays HB10.out) (fun t ht => by have := HDF.out t ht; omega) (by have := HF3.out; omega)
      clear hx10 hb10 c9
      go_wp2_with fail
      ((with_reducible refine c10.mono ?_))
      rintro _ w11 ⟨x11, rfl, hx11, hb11⟩
      have HB11 : Hid (Below w4.heap.size w4 w11) := HB10.out.trans (hb11.mono HB10.out.size)
      have c11 := same_any (eitherM F).dep (eitherM F) x10 x11 w11 (Nat.le_refl _) (by have := sz_either F; have := HF3.out; omega) (HX10.out.under hb11) hx11
      have HE117 := Lib.hid (HE107.out.moved hb11)
      clear hx11 hb11 c10
      go_wp2_with fail
      ((with_reducible refine c11.mono ?_))
      rintro _ w12 ⟨rfl, hb12⟩
      have HB12 : Hid (Below w4.heap.size w4 w12) := HB11.out.trans (hb12.mono HB11.out.size)
      have HE127 := Lib.hid (HE117.out.moved hb12)
      clear hb12 c11
      have hzB := (HB12.out.block Bz HLz.out).trans HNz.out
      have z0 : w12.cell? ⟨Bz, 0, none⟩ = some (.int .i64 0) := by simp [World.cell?, hzB]
      have z1 : w12.cell? ⟨Bz, 1, none⟩ = some (.int .u64 0) := by simp [World.cell?, hzB]
      have z2 : w12.cell? ⟨Bz, 2, none⟩ = some (.int .u64 0) := by simp [World.cell?, hzB]
      have z3 : w12.cell? ⟨Bz, 3, none⟩ = some (.int .u64 0) := by simp [World.cell?, hzB]
      have z4 : w12.cell? ⟨Bz, 4, none⟩ = some (.int .u64 0) := by simp [World.cell?, hzB]
      have z5 : w12.cell? ⟨Bz, 5, none⟩ = some (.slice none 0 0) := by simp [World.cell?, hzB]
      clear hzB
      have HOB12 : Hid ((w12.alloc (.cells #[.int .i64 0, .int .u64 0, .int .u64 0, .int .u64 0, .int .u64 0, .slice none 0 0] 31)).ownsRow w4.heap.size 31 6 (.slice q7 N c7) N (us7.flatMap ReV.cells)) := by
        have h := (HE127.out.alloc1 (.cells #[.int .i64 0, .int .u64 0, .int .u64 0, .int .u64 0, .int .u64 0, .slice none 0 0] 31)).own
        rw [between_len, ← HNF.out] at h
        exact h
      have HAB12 : Hid (∀ b, (Value.slice q7 N c7).ownBlock = some b → w4.heap.size ≤ b) := own_above HOB12.out
      have hwle : w4.heap.size ≤ w12.heap.size := HB12.out.size
      go_wp2_with (at_builtin; go_loud (refine wpList_append_own_keep _ rfl _ _ 22 rfl w4.heap.size 31 i0 _ 6 64 Tryd.underlying22 hi0 hz0 hz1 hz2 rfl (by decide) _ _ _ rfl HOB12.out ⟨w12.heap.size, 0, none⟩ 1 1 [.int .i64 0, .int .u64 0, .int .u64 0, .int .u64 0, .int .u64 0, .slice none 0 0] rfl rfl (new3 w12 #[.int .i64 0, .int .u64 0, .int .u64 0, .int .u64 0, .int .u64 0, .slice none 0 0] 31 [.int .i64 0, .int .u64 0, .int .u64 0, .int .u64 0, .int .u64 0, .slice none 0 0] rfl) (flat6_one [⟨0, 0, 0, 0, 0, none, 0, 0⟩]) ?c3 ?c4 ?c5 ?_))
      case c3 => unfold maxLen; omega
      case c4 => omega
      case c5 => first | omega | (simp; omega)
      intro v' w13 hown hgrow hkeep hat
      obtain ⟨g11, cap11, rfl⟩ := (row_forms hown).resolve_left (fun h => by cases h.2)
      have HB13 : Hid (Below w4.heap.size w4 w13) := (HB12.out.alloc HB12.out.size _).grown hgrow (by simp; omega) HAB12.out
      have ho11 : OwnRe w4 w13 (fun b => w2.heap.size ≤ b) (.slice (some ⟨g11, 0, none⟩) (N + 1) cap11) (us7 ++ [⟨0, 0, 0, 0, 0, none, 0, 0⟩]) (between emptyM F ++ [noneM]) := HE127.out.push one_none (by rw [between_len, ← HNF.out]; exact hown)
      have c13 := cat_any w13 (ho11.kidsAt HB13.out) (by rw [List.map_append, List.sum_append, between_sum]; have := HF3.out; have := HN.out; simp [unit_sz.1, unit_sz.2]; omega)
      rw [cat_none] at c13
      clear hown hgrow hkeep hat ho11 hwle z0 z1 z2 z3 z4 z5
      go_wp2_with fail
      ((with_reducible refine c13.mono ?_))
      rintro _ w14 ⟨x14, rfl, hx14, hb14⟩
      have HB14 : Hid (Below w4.heap.size w4 w14) := HB13.out.trans (hb14.mono HB13.out.size)
      have hk14 := hx14.kind_eq
      obtain ⟨f0, f1, f2, f3, f4, f5, f6, f7⟩ := x14
      have hf0 : f0 = 0 := hk14
      subst hf0
      have hfl := fun w => field0 0 f1 f2 f3 f4 f5 f6 f7 w
      have c14 := cat_any w14 (HK4.out.under HB14.out) (by have := HF3.out; omega)
      clear hx14 hb14 hk14 c13
      unfold ReV.val
      go_wp2_with fail
      ((with_reducible refine c14.mono ?_))
      rintro _ w15 ⟨x15, rfl, hx15, hb15⟩
      have HB15 : Hid (Below w4.heap.size w4 w15) := HB14.out.trans (hb15.mono HB14.out.size)
      have c15 := star_any w15 x15 (catM F) hx15
      clear hx15 hb15 c14 hfl
      go_wp2_with fail
      ((with_reducible refine c15.mono ?_))
      rintro _ w16 ⟨x16, rfl, hx16, hb16⟩
      have HB16 : Hid (Below w4.heap.size w4 w16) := HB15.out.trans (hb16.mono HB15.out.size)
      have c16 := star_any w16 x16 _ hx16
      rw [star_star] at c16
      clear hx16 hb16 c15
      go_wp2_with fail
      ((with_reducible refine c16.mono ?_))
      rintro _ w17 ⟨x17, rfl, hx17, hb17⟩
      have HB17 : Hid (Below w4.heap.size w4 w17) := HB16.out.trans (hb17.mono HB16.out.size)
      have HX17 := Lib.hid hx17
      have c17 := cat_any w17 (HK4.out.under HB17.out) (by have := HF3.out; omega)
      clear hx17 hb17 c16
      go_wp2_with fail
      ((with_reducible refine c17.mono ?_))
      rintro _ w18 ⟨x18, rfl, hx18, hb18⟩
      have HB18 : Hid (Below w4.heap.size w4 w18) := HB17.out.trans (hb18.mono HB17.out.size)
      have HX18 := Lib.hid (HX17.out.under hb18)
      have c18 := star_any w18 x18 (catM F) hx18
      clear hx18 hb18 c17
      go_wp2_with fail
      ((with_reducible refine c18.mono ?_))
      rintro _ w19 ⟨x19, rfl, hx19, hb19⟩
      have HB19 : Hid (Below w4.heap.size w4 w19) := HB18.out.trans (hb19.mono HB18.out.size)
      have c19 := same_any (starM (catM F)).dep (starM (catM F)) x17 x19 w19 (Nat.le_refl _) (by have := sz_star (catM F); have := sz_cat F; have := HF3.out; omega) (HX18.out.under hb19) hx19
      clear hx19 hb19 c18
      go_wp2_with fail
      ((with_reducible refine c19.mono ?_))
      rintro _ w20 ⟨rfl, hb20⟩
      have HB20 : Hid (Below w4.heap.size w4 w20) := HB19.out.trans (hb20.mono HB19.out.size)
      clear hb20 c19
      go_wp2
      go_ret
      exact ⟨rfl, HB3.out.trans ((HB4.out.trans (HB20.out.mono HB4.out.size)).mono HB3.out.size)⟩

set_option maxRecDepth 100000 in
set_option maxHeartbeats 1000000 in
theorem lifted (os : Os) (started : os.Started) (H : Type) (enc : TypeId × Value → H) :
    ReturnsInHanded {} Tryd.checked os 7 .any (fun w args => (Rows.regexUnitsSpec.pre enc Tryd.prog Tryd.f7 Rows.regexUnitsRow.domain false w args ∧ laidMetH Tryd.prog Rows.regexUnitsRow.laid w) ∧ sizedMet enc Tryd.prog Tryd.f7 (OpenSpec.ofChange Rows.regexUnitsSpec) false w args)
      (Rows.regexUnitsSpec.post enc Tryd.prog Tryd.f7 false true false false) := by
  refine returnsInHanded_of_change_and (C := Tryd.checked) (X := fun w _ => laidMetH Tryd.prog Rows.regexUnitsRow.laid w) (fun _ _ _ hh h => h.of_heap hh) noKnob started (by kernel_rfl) Tryd.func7
    (ChangeSpec.witness_shaped (enc := enc) (C := Tryd.checked) (os := os) (X := fun w _ => laidMetH Tryd.prog Rows.regexUnitsRow.laid w) false (World.laidAll Tryd.prog os Rows.regexUnitsRow.laid) #[.slice none 0 0] 8 (World.laidAll_os _ _ _)
      (World.shaped_of_ZipB (by kernel_rfl) (by kernel_rfl)) (by kernel_rfl) (by kernel_rfl) (by kernel_rfl)
      (by rw [MakeChecks.laidMetH_plain _ _ _ (by kernel_rfl)]; exact laidMet_laidAll _ (by kernel_rfl) (by kernel_rfl))) ?_
  intro W base args ds gs before hval0 hW hcnd _ hL _
  have hval : ∀ (j : Nat) t v, Tryd.f7.params[j]? = some t → args[j]? = some v → Value.okWide Tryd.prog W .any base t v := hval0
  have hW' := hW
  obtain ⟨p, q, hA0, hV, rfl, hfz, hnd⟩ := hW
  have hA : DataW.TrodAll enc Tryd.prog W 0 (fun _ => true) true Tryd.f7.params.toList args.toList ds p := hA0
  rw [Tryd.params7] at hA hval
  obtain ⟨v0, vs0, d0, ds0, p0, q0, hargs, rfl, rfl, h0, r0⟩ := trodAll_cons hA
  obtain ⟨rfl, rfl, rfl⟩ := trodAll_nil r0
  obtain rfl : args = #[v0] := by cases args; simp_all
  obtain ⟨rfl, rfl⟩ := trodVars_none hV
  clear hA0 hval0 hA
  simp only [List.append_nil] at hW'
  have hlt := hW'.lt
  obtain ⟨z0, b0⟩ := open_bytes (hval 0 34 v0 rfl rfl) h0
  refine (walk v0 z0 W (tabs_of_laid hL (MakeChecks.laidMetH_plain _ _ _ (by kernel_rfl)) (by kernel_rfl) (by kernel_rfl)) b0).mono fun e W' ⟨he, hg⟩ => ?_
  subst he
  exact ⟨_, rfl, post_of_old (pv := []) hW' (fun _ _ _ => trodAll_cons_mk (shut_bool Tryd.underlying4 _) trodAll_mk0) (trodAll_cons_mk (Below.trod laidOutP (by kernel_rfl) (of_decide_eq_true (by kernel_rfl)) h0 hg (fun x hx => by simpa using hlt x (by simp [hx]))) (trodAll_mk0)) (fun _ => rfl) (by simp) hg⟩

theorem over : Rows.regexUnitsRow.holds Tryd.pinned (OpenSpec.ofChange Rows.regexUnitsSpec) :=
  OpenClaim.holds_of_wide 7 Tryd.f7 rfl rfl rfl rfl rfl rfl rfl ⟨rfl, rfl, rfl, rfl, rfl⟩ rfl rfl rfl rfl rfl (by kernel_rfl) Tryd.func7 (by kernel_rfl)
    (of_decide_eq_true (by kernel_rfl)) (by unfold Func.isWrapper; first | (rw [if_pos (by decide +kernel)]; kernel_rfl) | (rw [if_neg (by decide +kernel)]; exact ⟨rfl, rfl⟩))
    (fun os started H enc _ => lifted os started H enc)

/-- No parameter wants a stand-in. -/
theorem plain (f : FuncId) (fn : Func) (hf : Tryd.pinned.checked.prog.funcNamed "reglet/regletlaw07.RegexUnits" = some f) (hfn : Tryd.pinned.checked.prog.funcs[f]? = some fn) :
    false = Tryd.pinned.checked.prog.looks [] ∧ ∀ (j : Nat) t, fn.params[j]? = some t → Tryd.pinned.checked.prog.wantsStandIn t = false := by
  obtain rfl : f = 7 := Option.some.inj ((show Tryd.prog.funcNamed "reglet/regletlaw07.RegexUnits" = some 7 by kernel_rfl).symm.trans hf) |>.symm
  obtain rfl : fn = Tryd.f7 := (Option.some.inj (Tryd.func7.symm.trans hfn)).symm
  refine ⟨by kernel_rfl, fun j t ht => ?_⟩
  rw [Tryd.params7] at ht
  have hm : t ∈ [34] := by simpa using Array.mem_of_getElem? ht
  have hall : ([34].all fun u => !Tryd.prog.wantsStandIn u) = true := by kernel_rfl
  exact (show Tryd.prog.wantsStandIn t = false by simpa using List.all_eq_true.1 hall t hm)

/-- The statement. -/
theorem proved : Rows.RegexUnitsCardSaid :=
  Claim7.holds_tied_plain_at .later [] _ _ _ _ over (fun _ h => by cases h) (by kernel_rfl) (fun _ h => by cases h) regexUnits_row_tie rfl ⟨rfl, rfl⟩ (by kernel_rfl) rfl plain (by kernel_rfl)

#print axioms proved
end Go.Proofs.YtcaeanploocmkaaDoor.regexUnits
