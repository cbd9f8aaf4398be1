/- The program's hasForm: has one its form, apart from its kids and their order? No condition but size. -/
import Derived.Test.YtclnadjgbpihcaaGreatDoorForm
namespace Go.Proofs.YtclnadjgbpihcaaGreatDoor
open Go.RowKit Go.Lib
set_option linter.unusedVariables false
set_option linter.unusedSimpArgs false

/-- What hasForm asks. -/
def fB (x : ReV) (vs : List ReV) : Bool :=
  (decide (x.w4 = W4.zero) == !(x.kind == 2)) &&
  (if x.kind = 0 ∨ x.kind = 1 ∨ x.kind = 2 then x.n == 0
   else if x.kind = 5 then (x.n == 1) && !(vs.any fun y => [0, 1, 5].contains y.kind)
   else if x.kind = 3 then decide (2 ≤ x.n) && !(vs.any fun y => [0, 1, 3].contains y.kind)
   else if x.kind = 4 then (decide (2 ≤ x.n) && !(vs.any fun y => [0, 4].contains y.kind)) && !(sevB vs)
   else false)

theorem fB_no {x : ReV} {vs : List ReV} (h : (decide (x.w4 = W4.zero) == !(x.kind == 2)) = false) : fB x vs = false := by unfold fB; rw [h, Bool.false_and]
theorem fB_leaf {x : ReV} {vs : List ReV} (h : (decide (x.w4 = W4.zero) == !(x.kind == 2)) = true) (k : x.kind = 0 ∨ x.kind = 1 ∨ x.kind = 2) : fB x vs = (x.n == 0) := by unfold fB; rw [h, Bool.true_and, if_pos k]
theorem fB_5 {x : ReV} {vs : List ReV} (h : (decide (x.w4 = W4.zero) == !(x.kind == 2)) = true) (k : x.kind = 5) : fB x vs = ((x.n == 1) && !(vs.any fun y => [0, 1, 5].contains y.kind)) := by
  unfold fB; rw [h, Bool.true_and, if_neg (by omega), if_pos k]
theorem fB_3 {x : ReV} {vs : List ReV} (h : (decide (x.w4 = W4.zero) == !(x.kind == 2)) = true) (k : x.kind = 3) : fB x vs = (decide (2 ≤ x.n) && !(vs.any fun y => [0, 1, 3].contains y.kind)) := by
  unfold fB; rw [h, Bool.true_and, if_neg (by omega), if_neg (by omega), if_pos k]
theorem fB_4 {x : ReV} {vs : List ReV} (h : (decide (x.w4 = W4.zero) == !(x.kind == 2)) = true) (k : x.kind = 4) : fB x vs = ((decide (2 ≤ x.n) && !(vs.any fun y => [0, 4].contains y.kind)) && !(sevB vs)) := by
  unfold fB; rw [h, Bool.true_and, if_neg (by omega), if_neg (by omega), if_neg (by omega), if_pos k]
theorem fB_none {x : ReV} {vs : List ReV} (h : ¬ (x.kind = 0 ∨ x.kind = 1 ∨ x.kind = 2)) (h5 : x.kind ≠ 5) (h3 : x.kind ≠ 3) (h4 : x.kind ≠ 4) : fB x vs = false := by
  unfold fB; rw [if_neg h, if_neg h5, if_neg h3, if_neg h4, Bool.and_false]

def Held6 (w : World) (bo oo : Nat) (k a b c d : Int) (p : Option Addr) (n cap : Nat) (W : World) : Prop :=
  (W.cell? ⟨bo, oo, none⟩ = some (.int .i64 k) ∧ W.cell? ⟨bo, oo + 1, none⟩ = some (.int .u64 a) ∧ W.cell? ⟨bo, oo + 2, none⟩ = some (.int .u64 b) ∧ W.cell? ⟨bo, oo + 3, none⟩ = some (.int .u64 c) ∧ W.cell? ⟨bo, oo + 4, none⟩ = some (.int .u64 d) ∧ W.cell? ⟨bo, oo + 5, none⟩ = some (.slice p n cap)) ∧ PlaceR W bo oo ⟨k, a, b, c, d, p, n, cap⟩ ∧ Below w.heap.size w W
theorem Held6.of {w W : World} {bo oo : Nat} {k a b c d : Int} {p : Option Addr} {n cap : Nat} (hp : PlaceR W bo oo ⟨k, a, b, c, d, p, n, cap⟩) (hb : Below w.heap.size w W) : Held6 w bo oo k a b c d p n cap W := ⟨hp.six, hp, hb⟩
theorem Held6.step {w W W' : World} {bo oo : Nat} {k a b c d : Int} {p : Option Addr} {n cap : Nat} (hb : Below W.heap.size W W') (h : Held6 w bo oo k a b c d p n cap W) : Held6 w bo oo k a b c d p n cap W' :=
  .of (h.2.1.under hb) (h.2.2.trans (hb.mono h.2.2.size))
theorem Held6.drew {w W : World} {bo oo : Nat} {k a b c d : Int} {p : Option Addr} {n cap : Nat} (h : Held6 w bo oo k a b c d p n cap W) : Held6 w bo oo k a b c d p n cap W.drew :=
  .of ⟨h.2.1.blk, h.2.1.cell⟩ (below_drawn h.2.2 1)

end Go.Proofs.YtclnadjgbpihcaaGreatDoor

