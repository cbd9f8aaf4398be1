/- What any right program answers is answered: the walk of awake, in every world. -/
import Derived.Test.YtchicecmoknkjaaDoorAwake
import Derived.Test.YtchicecmoknkjaaDoorCnt2
namespace Go.Proofs.YtchicecmoknkjaaDoor
open Go.RowKit

/-- The set of awake. -/
def fA : Nat → Bool := fun j => rng 97 99 j || rng 100 100 j

theorem fA_rgs : rgs fA 256 = [(97, 100)] := by decide +kernel
theorem fA_cnt : cnt fA 256 = 4 := by decide +kernel
theorem fA_cntN : cnt (fun j => !fA j) 256 = 252 := by decide +kernel
theorem fA_98 : hasB fA 98 = true := by decide +kernel
theorem fA_101 : hasB fA 101 = false := by decide +kernel

theorem own_lit (W : World) (B : Nat) (hB : B = W.heap.size) (a b : Value) (t : TypeId) : (W.alloc (.cells #[a, b] t)).ownsRow B t 2 (.slice (some ⟨B, 0, none⟩) 1 1) 1 [a, b] := by
  subst hB
  refine ⟨rfl, .inr ⟨W.heap.size, 1, #[a, b], rfl, Nat.le_refl _, ?_, Nat.le_refl _, by unfold maxLen; omega, rfl, rfl⟩⟩
  show (W.heap.push _)[W.heap.size]? = _
  simp

theorem below_step {w W W' : World} (h : Below w.heap.size w W) (hb : Below W.heap.size W W') : Below w.heap.size w W' := h.trans (hb.mono h.size)

set_option maxRecDepth 100000 in
set_option maxHeartbeats 4000000 in
theorem awake_any (w : World) (hT : TabD w) : Calls Tryd.prog 15 #[] w (RetBool true w) := by
  have HT := Lib.hid hT
  clear hT
  go_enter Tryd.func15, Tryd.ntmps15
  go_wp2_with fail
  refine (of_any _ _ _ (by omega) (by omega) (by omega) (by omega)).mono ?_
  rintro e w1 ⟨a0, a1, a2, a3, ha, rfl, hb1⟩
  go_wp2_with fail
  refine (of_any _ _ _ (by omega) (by omega) (by omega) (by omega)).mono ?_
  rintro e w2 ⟨b0, b1, b2, b3, hb, rfl, hb2⟩
  go_wp2_with fail
  refine (join_any _ _ _ _ _ _ _ _ _ _ _ ha hb).mono ?_
  rintro e w3 ⟨s0, s1, s2, s3, hs, rfl, hb3⟩
  have hs' : IsSet s0 s1 s2 s3 fA := hs
  have HW : Below w.heap.size w w3 := (hb1.trans (hb2.mono hb1.size)).trans (hb3.mono (hb1.trans (hb2.mono hb1.size)).size)
  clear hs ha hb hb1 hb2 hb3
  have hx := Box4.new w3 s0 s1 s2 s3
  have HW0 := below_alloc HW (.cells #[.int .u64 s0, .int .u64 s1, .int .u64 s2, .int .u64 s3] 24)
  clear HW
  go_wp2_with fail
  refine (ranges_any _ _ _ _ _ _ hs' (HT.out.stays HW0)).mono ?_
  rw [fA_rgs]
  rintro e w4 ⟨v, rfl, hv, hb4⟩
  have hx4 := hx.below hb4 hx.lt
  have HW4 := below_step HW0 hb4
  clear hx HW0 hb4
  have hv4 := own_alloc hv (.cells #[.int .i64 97, .int .i64 100] 43)
  have hl4 := own_lit w4 w4.heap.size rfl (.int .i64 97) (.int .i64 100) 43
  have hx5 := hx4.alloc (.cells #[.int .i64 97, .int .i64 100] 43)
  have HW5 := below_alloc HW4 (.cells #[.int .i64 97, .int .i64 100] 43)
  clear hx4 HW4 hv
  go_wp2_with fail
  refine (same_any _ _ _ _ [(97, 100)] (by decide) _ hv4 hl4).mono ?_
  rintro e w5 ⟨rfl, hb5⟩
  have hx6 := hx5.below hb5 hx5.lt
  have HW6 := below_step HW5 hb5
  have d0 := hx6.cell0
  have d1 := hx6.cell1
  have d2 := hx6.cell2
  have d3 := hx6.cell3
  clear hx5 HW5 hv4 hl4 hb5
  go_wp2_with fail
  refine (count_any _ _ _ _ _ _ hs' (HT.out.stays HW6)).mono ?_
  rw [fA_cnt]
  rintro e w6 ⟨rfl, hb6⟩
  have hx7 := hx6.below hb6 hx6.lt
  have HW7 := below_step HW6 hb6
  clear hx6 HW6 hb6 d0 d1 d2 d3
  have d0 := hx7.cell0
  have d1 := hx7.cell1
  have d2 := hx7.cell2
  have d3 := hx7.cell3
  go_wp2_with fail
  refine (has_any _ _ _ _ _ _ _ hs').mono ?_
  rw [fA_98]
  rintro e w7 ⟨rfl, rfl⟩
  have HW8 := below_alloc HW7 (.cells #[.int .u64 s0, .int .u64 s1, .int .u64 s2, .int .u64 s3] 24)
  have hx8 := hx7.alloc (.cells #[.int .u64 s0, .int .u64 s1, .int .u64 s2, .int .u64 s3] 24)
  clear d0 d1 d2 d3
  have d0 := hx8.cell0
  have d1 := hx8.cell1
  have d2 := hx8.cell2
  have d3 := hx8.cell3
  go_wp2_with fail
  refine (has_any _ _ _ _ _ _ _ hs').mono ?_
  rw [fA_101]
  rintro e w8 ⟨rfl, rfl⟩
  have HW9 := below_alloc HW8 (.cells #[.int .u64 s0, .int .u64 s1, .int .u64 s2, .int .u64 s3] 24)
  have hx9 := hx8.alloc (.cells #[.int .u64 s0, .int .u64 s1, .int .u64 s2, .int .u64 s3] 24)
  clear d0 d1 d2 d3
  have d0 := hx9.cell0
  have d1 := hx9.cell1
  have d2 := hx9.cell2
  have d3 := hx9.cell3
  go_wp2_with fail
  refine (turned_any _ _ _ _ _ _ hs').mono ?_
  rintro e w9 ⟨t0, t1, t2, t3, ht, rfl, hb9⟩
  have HW10 := below_step HW9 hb9
  clear HW7 HW8 HW9 hb9 d0 d1 d2 d3 hx7 hx8 hx9
  go_wp2_with fail
  refine (count_any _ _ _ _ _ _ ht (HT.out.stays HW10)).mono ?_
  rw [fA_cntN]
  rintro e w10 ⟨rfl, hb10⟩
  have HW11 := below_step HW10 hb10
  clear hb10 HW10
  go_wp2
  go_ret
  exact ⟨rfl, HW11⟩

end Go.Proofs.YtchicecmoknkjaaDoor
