/- ScalarOdd is true for all 32-bit lo and hi and all bytes a, b, c, d and n, without any condition: any bytes are in one sequence of a range just if they are the bytes of a scalar of it. -/
import Derived.Test.YtdcjlncbchhanaaOwed
import Derived.Test.YtdcjlncbchhanaaOfRef
namespace Go.Proofs.Ytdcjlncbchhanaa.scalarOdd
open Go.ChangeShapes Go.WideShapes Go.ChangeAt Go.RowKit Go.Proofs.Ytdcjlncbchhanaa
set_option linter.unusedVariables false

theorem cell_new (w : World) (a b c d : Int) (i : Nat) (hi : i < 4) : (w.alloc (.cells #[.int .i64 a, .int .i64 b, .int .i64 c, .int .i64 d] 3)).cell? ⟨w.heap.size, i, none⟩ = some (.int .i64 ([a, b, c, d].getD i 0)) := by
  have hh : (w.alloc (.cells #[.int .i64 a, .int .i64 b, .int .i64 c, .int .i64 d] 3)).heap[w.heap.size]? = some (.cells #[.int .i64 a, .int .i64 b, .int .i64 c, .int .i64 d] 3 (0, 0)) := by
    show (w.heap.push _)[w.heap.size]? = _
    simp
  have h3 : i = 0 ∨ i = 1 ∨ i = 2 ∨ i = 3 := by omega
  rcases h3 with rfl | rfl | rfl | rfl <;> (simp only [World.cell?]; rw [hh]; simp)

theorem pre_at (W : World) (B : Nat) (a b c d : Int) (hC : ∀ i, i < 4 → W.cell? ⟨B, i, none⟩ = some (.int .i64 ([a, b, c, d].getD i 0))) (k : Nat) (hk : k ≤ 4) :
    ∀ (i : Nat) (h : i < ([a, b, c, d].take k).length), W.cell? ⟨B, i, none⟩ = some (.int .i64 ([a, b, c, d].take k)[i]) := by
  intro i hi
  have hi' : i < [a, b, c, d].length := by rw [List.length_take] at hi; omega
  rw [hC i hi', getD_at _ hi', List.getElem_take]

set_option maxRecDepth 100000 in
set_option maxHeartbeats 8000000 in
theorem walk_1 (x0 x1 x2 x3 x4 x5 x6 : Int) (h0 : 0 ≤ x0 ∧ x0 ≤ 4294967295) (h1 : 0 ≤ x1 ∧ x1 ≤ 4294967295) (h2 : 0 ≤ x2 ∧ x2 ≤ 255) (h3 : 0 ≤ x3 ∧ x3 ≤ 255) (h4 : 0 ≤ x4 ∧ x4 ≤ 255) (h5 : 0 ≤ x5 ∧ x5 ≤ 255) (h6 : 0 ≤ x6 ∧ x6 ≤ 255) (hn : x6 % 4 = 0) (w : World) :
    Calls Try.prog 5 #[.int .u32 x0, .int .u32 x1, .int .u8 x2, .int .u8 x3, .int .u8 x4, .int .u8 x5, .int .u8 x6] w (GivesBool true w) := by
  obtain ⟨a0, a1⟩ := h0
  obtain ⟨b0, b1⟩ := h1
  obtain ⟨c0, c1⟩ := h2
  obtain ⟨d0, d1⟩ := h3
  obtain ⟨e0, e1⟩ := h4
  obtain ⟨f0, f1⟩ := h5
  obtain ⟨g0, g1⟩ := h6
  have HC := Lib.hid (cell_new w x2 x3 x4 x5)
  have hg0 : w.heap.size < (w.alloc (.cells #[.int .i64 x2, .int .i64 x3, .int .i64 x4, .int .i64 x5] 3)).heap.size := by simp
  have HW0 : Below w.heap.size w (w.alloc (.cells #[.int .i64 x2, .int .i64 x3, .int .i64 x4, .int .i64 x5] 3)) := below_new (Below.refl _ _) _
  have k0 : 0 ≤ x0 % 1200000 := by omega
  have k1 : x0 % 1200000 < 1200000 := by omega
  have k2 : 0 ≤ x1 % 1200000 := by omega
  have k3 : x1 % 1200000 < 1200000 := by omega
  go_enter Try.func5, Try.ntmps5
  go_wp2_with fail
  refine (seqs_any (x0 % 1200000) (x1 % 1200000) _).mono ?_
  rintro e w1 ⟨v, L, rfl, hL, hS, hb1⟩
  have HL := Lib.hid hL
  have HS := Lib.hid hS
  have HC1 := Lib.hid (pre_at w1 w.heap.size x2 x3 x4 x5 (fun i hi => (hb1.cell (p := ⟨w.heap.size, i, none⟩) hg0).trans (HC.out i hi)) 1 (by decide))
  have hg1 := Nat.lt_of_lt_of_le hg0 hb1.size
  have HW1 := below_then HW0 hb1
  clear hL hS hb1 HW0 hg0
  go_wp2_with fail
  refine (of_any [x2] w.heap.size 4 _ (by simp) (by simp) hg1 HC1.out (by simp; omega)).mono ?_
  rintro e w2 ⟨R, hR, rfl, hb2⟩
  have hRb := of_lo hR
  obtain ⟨r0, r1⟩ := hRb
  have HR := Lib.hid hR
  have HI2 : Hid (IntsAt w2 (.slice (some ⟨w.heap.size, 0, none⟩) 1 4) [x2]) := Lib.hid (IntsAt.below (.inr ⟨w.heap.size, 4, rfl, by simp, hg1, HC1.out⟩) hb2)
  have HS2 := Lib.hid (HS.out.below hb2)
  have HW2 := below_then HW1 hb2
  clear hR hb2 HW1 hg1
  have hw : R < x0 % 1200000 ∨ (x0 % 1200000 ≤ R ∧ x1 % 1200000 < R) ∨ (x0 % 1200000 ≤ R ∧ R ≤ x1 % 1200000) := by omega
  rcases hw with hw | ⟨hw, hw2⟩ | ⟨hw, hw2⟩
  all_goals
    have hcnt := of_cnt k0 HR.out HL.out
    first | rw [if_neg (by omega)] at hcnt | rw [if_pos (by omega)] at hcnt
    have HN := Lib.hid hcnt
    clear hcnt
    go_wp2_with fail
    refine (awake_any _).mono ?_
    rintro e w3 ⟨rfl, hb3⟩
    have HI3 := Lib.hid (HI2.out.below hb3)
    have HS3 := Lib.hid (HS2.out.below hb3)
    have HW3 := below_then HW2 hb3
    clear hb3 HW2
    go_wp2_with fail
    refine (shaped_seqs v _ _ L _ _ HL.out HS3.out).mono ?_
    rintro e w4 ⟨rfl, hb4⟩
    have HI4 := Lib.hid (HI3.out.below hb4)
    have HS4 := Lib.hid (HS3.out.below hb4)
    have HW4 := below_then HW3 hb4
    clear hb4 HW3
    go_wp2_with fail
    refine (counted _ [x2] v _ _ L _ _ HI4.out HL.out HS4.out).mono ?_
    rw [HN.out]
    rintro e w5 ⟨rfl, hb5⟩
    have HW5 := below_then HW4 hb5
    clear hb5 HW4
    go_wp2_with fail
    go_ret
    exact ⟨rfl, HW5⟩

set_option maxRecDepth 100000 in
set_option maxHeartbeats 8000000 in
theorem walk_2 (x0 x1 x2 x3 x4 x5 x6 : Int) (h0 : 0 ≤ x0 ∧ x0 ≤ 4294967295) (h1 : 0 ≤ x1 ∧ x1 ≤ 4294967295) (h2 : 0 ≤ x2 ∧ x2 ≤ 255) (h3 : 0 ≤ x3 ∧ x3 ≤ 255) (h4 : 0 ≤ x4 ∧ x4 ≤ 255) (h5 : 0 ≤ x5 ∧ x5 ≤ 255) (h6 : 0 ≤ x6 ∧ x6 ≤ 255) (hn : x6 % 4 = 1) (w : World) :
    Calls Try.prog 5 #[.int .u32 x0, .int .u32 x1, .int .u8 x2, .int .u8 x3, .int .u8 x4, .int .u8 x5, .int .u8 x6] w (GivesBool true w) := by
  obtain ⟨a0, a1⟩ := h0
  obtain ⟨b0, b1⟩ := h1
  obtain ⟨c0, c1⟩ := h2
  obtain ⟨d0, d1⟩ := h3
  obtain ⟨e0, e1⟩ := h4
  obtain ⟨f0, f1⟩ := h5
  obtain ⟨g0, g1⟩ := h6
  have HC := Lib.hid (cell_new w x2 x3 x4 x5)
  have hg0 : w.heap.size < (w.alloc (.cells #[.int .i64 x2, .int .i64 x3, .int .i64 x4, .int .i64 x5] 3)).heap.size := by simp
  have HW0 : Below w.heap.size w (w.alloc (.cells #[.int .i64 x2, .int .i64 x3, .int .i64 x4, .int .i64 x5] 3)) := below_new (Below.refl _ _) _
  have k0 : 0 ≤ x0 % 1200000 := by omega
  have k1 : x0 % 1200000 < 1200000 := by omega
  have k2 : 0 ≤ x1 % 1200000 := by omega
  have k3 : x1 % 1200000 < 1200000 := by omega
  go_enter Try.func5, Try.ntmps5
  go_wp2_with fail
  refine (seqs_any (x0 % 1200000) (x1 % 1200000) _).mono ?_
  rintro e w1 ⟨v, L, rfl, hL, hS, hb1⟩
  have HL := Lib.hid hL
  have HS := Lib.hid hS
  have HC1 := Lib.hid (pre_at w1 w.heap.size x2 x3 x4 x5 (fun i hi => (hb1.cell (p := ⟨w.heap.size, i, none⟩) hg0).trans (HC.out i hi)) 2 (by decide))
  have hg1 := Nat.lt_of_lt_of_le hg0 hb1.size
  have HW1 := below_then HW0 hb1
  clear hL hS hb1 HW0 hg0
  go_wp2_with fail
  refine (of_any [x2, x3] w.heap.size 4 _ (by simp) (by simp) hg1 HC1.out (by simp; omega)).mono ?_
  rintro e w2 ⟨R, hR, rfl, hb2⟩
  have hRb := of_lo hR
  obtain ⟨r0, r1⟩ := hRb
  have HR := Lib.hid hR
  have HI2 : Hid (IntsAt w2 (.slice (some ⟨w.heap.size, 0, none⟩) 2 4) [x2, x3]) := Lib.hid (IntsAt.below (.inr ⟨w.heap.size, 4, rfl, by simp, hg1, HC1.out⟩) hb2)
  have HS2 := Lib.hid (HS.out.below hb2)
  have HW2 := below_then HW1 hb2
  clear hR hb2 HW1 hg1
  have hw : R < x0 % 1200000 ∨ (x0 % 1200000 ≤ R ∧ x1 % 1200000 < R) ∨ (x0 % 1200000 ≤ R ∧ R ≤ x1 % 1200000) := by omega
  rcases hw with hw | ⟨hw, hw2⟩ | ⟨hw, hw2⟩
  all_goals
    have hcnt := of_cnt k0 HR.out HL.out
    first | rw [if_neg (by omega)] at hcnt | rw [if_pos (by omega)] at hcnt
    have HN := Lib.hid hcnt
    clear hcnt
    go_wp2_with fail
    refine (awake_any _).mono ?_
    rintro e w3 ⟨rfl, hb3⟩
    have HI3 := Lib.hid (HI2.out.below hb3)
    have HS3 := Lib.hid (HS2.out.below hb3)
    have HW3 := below_then HW2 hb3
    clear hb3 HW2
    go_wp2_with fail
    refine (shaped_seqs v _ _ L _ _ HL.out HS3.out).mono ?_
    rintro e w4 ⟨rfl, hb4⟩
    have HI4 := Lib.hid (HI3.out.below hb4)
    have HS4 := Lib.hid (HS3.out.below hb4)
    have HW4 := below_then HW3 hb4
    clear hb4 HW3
    go_wp2_with fail
    refine (counted _ [x2, x3] v _ _ L _ _ HI4.out HL.out HS4.out).mono ?_
    rw [HN.out]
    rintro e w5 ⟨rfl, hb5⟩
    have HW5 := below_then HW4 hb5
    clear hb5 HW4
    go_wp2_with fail
    go_ret
    exact ⟨rfl, HW5⟩

set_option maxRecDepth 100000 in
set_option maxHeartbeats 8000000 in
theorem walk_3 (x0 x1 x2 x3 x4 x5 x6 : Int) (h0 : 0 ≤ x0 ∧ x0 ≤ 4294967295) (h1 : 0 ≤ x1 ∧ x1 ≤ 4294967295) (h2 : 0 ≤ x2 ∧ x2 ≤ 255) (h3 : 0 ≤ x3 ∧ x3 ≤ 255) (h4 : 0 ≤ x4 ∧ x4 ≤ 255) (h5 : 0 ≤ x5 ∧ x5 ≤ 255) (h6 : 0 ≤ x6 ∧ x6 ≤ 255) (hn : x6 % 4 = 2) (w : World) :
    Calls Try.prog 5 #[.int .u32 x0, .int .u32 x1, .int .u8 x2, .int .u8 x3, .int .u8 x4, .int .u8 x5, .int .u8 x6] w (GivesBool true w) := by
  obtain ⟨a0, a1⟩ := h0
  obtain ⟨b0, b1⟩ := h1
  obtain ⟨c0, c1⟩ := h2
  obtain ⟨d0, d1⟩ := h3
  obtain ⟨e0, e1⟩ := h4
  obtain ⟨f0, f1⟩ := h5
  obtain ⟨g0, g1⟩ := h6
  have HC := Lib.hid (cell_new w x2 x3 x4 x5)
  have hg0 : w.heap.size < (w.alloc (.cells #[.int .i64 x2, .int .i64 x3, .int .i64 x4, .int .i64 x5] 3)).heap.size := by simp
  have HW0 : Below w.heap.size w (w.alloc (.cells #[.int .i64 x2, .int .i64 x3, .int .i64 x4, .int .i64 x5] 3)) := below_new (Below.refl _ _) _
  have k0 : 0 ≤ x0 % 1200000 := by omega
  have k1 : x0 % 1200000 < 1200000 := by omega
  have k2 : 0 ≤ x1 % 1200000 := by omega
  have k3 : x1 % 1200000 < 1200000 := by omega
  go_enter Try.func5, Try.ntmps5
  go_wp2_with fail
  refine (seqs_any (x0 % 1200000) (x1 % 1200000) _).mono ?_
  rintro e w1 ⟨v, L, rfl, hL, hS, hb1⟩
  have HL := Lib.hid hL
  have HS := Lib.hid hS
  have HC1 := Lib.hid (pre_at w1 w.heap.size x2 x3 x4 x5 (fun i hi => (hb1.cell (p := ⟨w.heap.size, i, none⟩) hg0).trans (HC.out i hi)) 3 (by decide))
  have hg1 := Nat.lt_of_lt_of_le hg0 hb1.size
  have HW1 := below_then HW0 hb1
  clear hL hS hb1 HW0 hg0
  go_wp2_with fail
  refine (of_any [x2, x3, x4] w.heap.size 4 _ (by simp) (by simp) hg1 HC1.out (by simp; omega)).mono ?_
  rintro e w2 ⟨R, hR, rfl, hb2⟩
  have hRb := of_lo hR
  obtain ⟨r0, r1⟩ := hRb
  have HR := Lib.hid hR
  have HI2 : Hid (IntsAt w2 (.slice (some ⟨w.heap.size, 0, none⟩) 3 4) [x2, x3, x4]) := Lib.hid (IntsAt.below (.inr ⟨w.heap.size, 4, rfl, by simp, hg1, HC1.out⟩) hb2)
  have HS2 := Lib.hid (HS.out.below hb2)
  have HW2 := below_then HW1 hb2
  clear hR hb2 HW1 hg1
  have hw : R < x0 % 1200000 ∨ (x0 % 1200000 ≤ R ∧ x1 % 1200000 < R) ∨ (x0 % 1200000 ≤ R ∧ R ≤ x1 % 1200000) := by omega
  rcases hw with hw | ⟨hw, hw2⟩ | ⟨hw, hw2⟩
  all_goals
    have hcnt := of_cnt k0 HR.out HL.out
    first | rw [if_neg (by omega)] at hcnt | rw [if_pos (by omega)] at hcnt
    have HN := Lib.hid hcnt
    clear hcnt
    go_wp2_with fail
    refine (awake_any _).mono ?_
    rintro e w3 ⟨rfl, hb3⟩
    have HI3 := Lib.hid (HI2.out.below hb3)
    have HS3 := Lib.hid (HS2.out.below hb3)
    have HW3 := below_then HW2 hb3
    clear hb3 HW2
    go_wp2_with fail
    refine (shaped_seqs v _ _ L _ _ HL.out HS3.out).mono ?_
    rintro e w4 ⟨rfl, hb4⟩
    have HI4 := Lib.hid (HI3.out.below hb4)
    have HS4 := Lib.hid (HS3.out.below hb4)
    have HW4 := below_then HW3 hb4
    clear hb4 HW3
    go_wp2_with fail
    refine (counted _ [x2, x3, x4] v _ _ L _ _ HI4.out HL.out HS4.out).mono ?_
    rw [HN.out]
    rintro e w5 ⟨rfl, hb5⟩
    have HW5 := below_then HW4 hb5
    clear hb5 HW4
    go_wp2_with fail
    go_ret
    exact ⟨rfl, HW5⟩

set_option maxRecDepth 100000 in
set_option maxHeartbeats 8000000 in
theorem walk_4 (x0 x1 x2 x3 x4 x5 x6 : Int) (h0 : 0 ≤ x0 ∧ x0 ≤ 4294967295) (h1 : 0 ≤ x1 ∧ x1 ≤ 4294967295) (h2 : 0 ≤ x2 ∧ x2 ≤ 255) (h3 : 0 ≤ x3 ∧ x3 ≤ 255) (h4 : 0 ≤ x4 ∧ x4 ≤ 255) (h5 : 0 ≤ x5 ∧ x5 ≤ 255) (h6 : 0 ≤ x6 ∧ x6 ≤ 255) (hn : x6 % 4 = 3) (w : World) :
    Calls Try.prog 5 #[.int .u32 x0, .int .u32 x1, .int .u8 x2, .int .u8 x3, .int .u8 x4, .int .u8 x5, .int .u8 x6] w (GivesBool true w) := by
  obtain ⟨a0, a1⟩ := h0
  obtain ⟨b0, b1⟩ := h1
  obtain ⟨c0, c1⟩ := h2
  obtain ⟨d0, d1⟩ := h3
  obtain ⟨e0, e1⟩ := h4
  obtain ⟨f0, f1⟩ := h5
  obtain ⟨g0, g1⟩ := h6
  have HC := Lib.hid (cell_new w x2 x3 x4 x5)
  have hg0 : w.heap.size < (w.alloc (.cells #[.int .i64 x2, .int .i64 x3, .int .i64 x4, .int .i64 x5] 3)).heap.size := by simp
  have HW0 : Below w.heap.size w (w.alloc (.cells #[.int .i64 x2, .int .i64 x3, .int .i64 x4, .int .i64 x5] 3)) := below_new (Below.refl _ _) _
  have k0 : 0 ≤ x0 % 1200000 := by omega
  have k1 : x0 % 1200000 < 1200000 := by omega
  have k2 : 0 ≤ x1 % 1200000 := by omega
  have k3 : x1 % 1200000 < 1200000 := by omega
  go_enter Try.func5, Try.ntmps5
  go_wp2_with fail
  refine (seqs_any (x0 % 1200000) (x1 % 1200000) _).mono ?_
  rintro e w1 ⟨v, L, rfl, hL, hS, hb1⟩
  have HL := Lib.hid hL
  have HS := Lib.hid hS
  have HC1 := Lib.hid (pre_at w1 w.heap.size x2 x3 x4 x5 (fun i hi => (hb1.cell (p := ⟨w.heap.size, i, none⟩) hg0).trans (HC.out i hi)) 4 (by decide))
  have hg1 := Nat.lt_of_lt_of_le hg0 hb1.size
  have HW1 := below_then HW0 hb1
  clear hL hS hb1 HW0 hg0
  go_wp2_with fail
  refine (of_any [x2, x3, x4, x5] w.heap.size 4 _ (by simp) (by simp) hg1 HC1.out (by simp; omega)).mono ?_
  rintro e w2 ⟨R, hR, rfl, hb2⟩
  have hRb := of_lo hR
  obtain ⟨r0, r1⟩ := hRb
  have HR := Lib.hid hR
  have HI2 : Hid (IntsAt w2 (.slice (some ⟨w.heap.size, 0, none⟩) 4 4) [x2, x3, x4, x5]) := Lib.hid (IntsAt.below (.inr ⟨w.heap.size, 4, rfl, by simp, hg1, HC1.out⟩) hb2)
  have HS2 := Lib.hid (HS.out.below hb2)
  have HW2 := below_then HW1 hb2
  clear hR hb2 HW1 hg1
  have hw : R < x0 % 1200000 ∨ (x0 % 1200000 ≤ R ∧ x1 % 1200000 < R) ∨ (x0 % 1200000 ≤ R ∧ R ≤ x1 % 1200000) := by omega
  rcases hw with hw | ⟨hw, hw2⟩ | ⟨hw, hw2⟩
  all_goals
    have hcnt := of_cnt k0 HR.out HL.out
    first | rw [if_neg (by omega)] at hcnt | rw [if_pos (by omega)] at hcnt
    have HN := Lib.hid hcnt
    clear hcnt
    go_wp2_with fail
    refine (awake_any _).mono ?_
    rintro e w3 ⟨rfl, hb3⟩
    have HI3 := Lib.hid (HI2.out.below hb3)
    have HS3 := Lib.hid (HS2.out.below hb3)
    have HW3 := below_then HW2 hb3
    clear hb3 HW2
    go_wp2_with fail
    refine (shaped_seqs v _ _ L _ _ HL.out HS3.out).mono ?_
    rintro e w4 ⟨rfl, hb4⟩
    have HI4 := Lib.hid (HI3.out.below hb4)
    have HS4 := Lib.hid (HS3.out.below hb4)
    have HW4 := below_then HW3 hb4
    clear hb4 HW3
    go_wp2_with fail
    refine (counted _ [x2, x3, x4, x5] v _ _ L _ _ HI4.out HL.out HS4.out).mono ?_
    rw [HN.out]
    rintro e w5 ⟨rfl, hb5⟩
    have HW5 := below_then HW4 hb5
    clear hb5 HW4
    go_wp2_with fail
    go_ret
    exact ⟨rfl, HW5⟩


set_option maxRecDepth 100000 in
set_option maxHeartbeats 8000000 in
theorem walk (x0 x1 x2 x3 x4 x5 x6 : Int) (h0 : 0 ≤ x0 ∧ x0 ≤ 4294967295) (h1 : 0 ≤ x1 ∧ x1 ≤ 4294967295) (h2 : 0 ≤ x2 ∧ x2 ≤ 255) (h3 : 0 ≤ x3 ∧ x3 ≤ 255) (h4 : 0 ≤ x4 ∧ x4 ≤ 255) (h5 : 0 ≤ x5 ∧ x5 ≤ 255) (h6 : 0 ≤ x6 ∧ x6 ≤ 255) (w : World) :
    Calls Try.prog 5 #[.int .u32 x0, .int .u32 x1, .int .u8 x2, .int .u8 x3, .int .u8 x4, .int .u8 x5, .int .u8 x6] w (GivesBool true w) := by
  have hn : x6 % 4 = 0 ∨ x6 % 4 = 1 ∨ x6 % 4 = 2 ∨ x6 % 4 = 3 := by omega
  rcases hn with hn | hn | hn | hn
  · exact walk_1 x0 x1 x2 x3 x4 x5 x6 h0 h1 h2 h3 h4 h5 h6 hn w
  · exact walk_2 x0 x1 x2 x3 x4 x5 x6 h0 h1 h2 h3 h4 h5 h6 hn w
  · exact walk_3 x0 x1 x2 x3 x4 x5 x6 h0 h1 h2 h3 h4 h5 h6 hn w
  · exact walk_4 x0 x1 x2 x3 x4 x5 x6 h0 h1 h2 h3 h4 h5 h6 hn w

set_option maxRecDepth 100000 in
set_option maxHeartbeats 1000000 in
theorem lifted (os : Os) (started : os.Started) (H : Type) (enc : TypeId × Value → H) :
    ReturnsInHanded {} Try.checked os 5 .any (Rows.scalarOddSpec.pre6 enc Try.prog Try.f5 Rows.scalarOddRow.domain false) (Rows.scalarOddSpec.post enc Try.prog Try.f5 false true false false) := by
  refine returnsInHanded_of_change (C := Try.checked) noKnob started (by kernel_rfl) Try.func5
    (ChangeSpec.witness6 (enc := enc) (C := Try.checked) false ⟨#[], #[.int .u32 0, .int .u32 0, .int .u8 0, .int .u8 0, .int .u8 0, .int .u8 0, .int .u8 0], []⟩ 8 (by kernel_rfl) (by kernel_rfl) (by kernel_rfl) (by kernel_rfl)) ?_
  intro W base args ds gs before hval0 hW hcnd _
  have hval : ∀ (j : Nat) t v, Try.f5.params[j]? = some t → args[j]? = some v → Value.okWide Try.prog W .any base t v := hval0
  have hW' := hW
  obtain ⟨p, q, hA0, hV, rfl, hfz, hnd⟩ := hW
  have hA : DataW.TrodAll enc Try.prog W 0 (fun _ => true) true Try.f5.params.toList args.toList ds p := hA0
  rw [Try.params5] at hA hval
  obtain ⟨v0, vs0, d0, ds0, p0, q0, hargs, rfl, rfl, h0, r0⟩ := trodAll_cons hA
  obtain ⟨v1, vs1, d1, ds1, p1, q1, rfl, rfl, rfl, h1, r1⟩ := trodAll_cons r0
  obtain ⟨v2, vs2, d2, ds2, p2, q2, rfl, rfl, rfl, h2, r2⟩ := trodAll_cons r1
  obtain ⟨v3, vs3, d3, ds3, p3, q3, rfl, rfl, rfl, h3, r3⟩ := trodAll_cons r2
  obtain ⟨v4, vs4, d4, ds4, p4, q4, rfl, rfl, rfl, h4, r4⟩ := trodAll_cons r3
  obtain ⟨v5, vs5, d5, ds5, p5, q5, rfl, rfl, rfl, h5, r5⟩ := trodAll_cons r4
  obtain ⟨v6, vs6, d6, ds6, p6, q6, rfl, rfl, rfl, h6, r6⟩ := trodAll_cons r5
  obtain ⟨rfl, rfl, rfl⟩ := trodAll_nil r6
  obtain rfl : args = #[v0, v1, v2, v3, v4, v5, v6] := by cases args; simp_all
  obtain ⟨rfl, rfl⟩ := trodVars_none hV
  obtain ⟨x0, rfl, rfl, rfl, w0⟩ := open_int Try.underlying32 (hval 0 32 v0 rfl rfl) h0
  have b0 := bounds_u32 w0
  obtain ⟨x1, rfl, rfl, rfl, w1⟩ := open_int Try.underlying32 (hval 1 32 v1 rfl rfl) h1
  have b1 := bounds_u32 w1
  obtain ⟨x2, rfl, rfl, rfl, w2⟩ := open_int Try.underlying5 (hval 2 5 v2 rfl rfl) h2
  have b2 := bounds_u8 w2
  obtain ⟨x3, rfl, rfl, rfl, w3⟩ := open_int Try.underlying5 (hval 3 5 v3 rfl rfl) h3
  have b3 := bounds_u8 w3
  obtain ⟨x4, rfl, rfl, rfl, w4⟩ := open_int Try.underlying5 (hval 4 5 v4 rfl rfl) h4
  have b4 := bounds_u8 w4
  obtain ⟨x5, rfl, rfl, rfl, w5⟩ := open_int Try.underlying5 (hval 5 5 v5 rfl rfl) h5
  have b5 := bounds_u8 w5
  obtain ⟨x6, rfl, rfl, rfl, w6⟩ := open_int Try.underlying5 (hval 6 5 v6 rfl rfl) h6
  have b6 := bounds_u8 w6
  clear hA0 hval0
  simp only [List.append_nil] at hW'
  refine (walk x0 x1 x2 x3 x4 x5 x6 b0 b1 b2 b3 b4 b5 b6 W).mono fun e W' ⟨he, hg⟩ => ?_
  subst he
  exact ⟨_, rfl, owed_below (pa := []) (pv := []) hW' (fun _ _ _ => trodAll_cons_mk (shut_bool Try.underlying4 _) trodAll_mk0) (fun sp => trodAll_cons_mk (shut_int Try.underlying32 w0) (trodAll_cons_mk (shut_int Try.underlying32 w1) (trodAll_cons_mk (shut_int Try.underlying5 w2) (trodAll_cons_mk (shut_int Try.underlying5 w3) (trodAll_cons_mk (shut_int Try.underlying5 w4) (trodAll_cons_mk (shut_int Try.underlying5 w5) (trodAll_cons_mk (shut_int Try.underlying5 w6) (trodAll_mk0)))))))) (fun _ => rfl) rfl hg⟩

theorem over : Rows.scalarOddRow.holds Try.pinned (OpenSpec.ofChange Rows.scalarOddSpec) :=
  OpenClaim.holds_of_wide 5 Try.f5 rfl rfl rfl rfl rfl rfl rfl ⟨rfl, rfl, rfl, rfl, rfl⟩ rfl rfl rfl rfl rfl (by kernel_rfl) Try.func5 (by kernel_rfl)
    (of_decide_eq_true (by kernel_rfl)) (by unfold Func.isWrapper; first | (rw [if_pos (by decide +kernel)]; kernel_rfl) | (rw [if_neg (by decide +kernel)]; exact ⟨rfl, rfl⟩))
    (fun os started H enc _ => lifted os started H enc)

/-- The statement. -/
theorem proved : Rows.ScalarOddSaid := over

#print axioms proved
end Go.Proofs.Ytdcjlncbchhanaa.scalarOdd
