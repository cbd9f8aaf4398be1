/- What each function on sets of bytes returns, as a contract: for all sets and numbers; memory that was there stays as it was. -/
import Derived.Handy
import Derived.WalkLawsBesides
import Derived.Outline
import Derived.LoopN
import Derived.RegionTactic
import Derived.BigRegion
import Derived.Test.YtclnadjgbpihcaaGreatDoorWords
import Derived.Test.YtclnadjgbpihcaaGreatDoorProg
namespace Go.Proofs.YtclnadjgbpihcaaGreatDoor
open Go.RowKit

/-- The call returns a set, and leaves what was there. -/
def RetSet (f : Nat → Bool) (w : World) (e : Ending) (w' : World) : Prop :=
  ∃ r0 r1 r2 r3 : Int, IsSet r0 r1 r2 r3 f ∧ e = .returned (.agg #[.int .u64 r0, .int .u64 r1, .int .u64 r2, .int .u64 r3]) ∧ Below w.heap.size w w'

theorem RetSet.congr {f g : Nat → Bool} {w w' : World} {e : Ending} (h : RetSet f w e w') (hf : ∀ b, b < 256 → f b = g b) : RetSet g w e w' := by
  obtain ⟨r0, r1, r2, r3, hr, he, hb⟩ := h
  exact ⟨r0, r1, r2, r3, hr.congr hf, he, hb⟩

set_option maxHeartbeats 1000000 in
theorem join_any (a0 a1 a2 a3 b0 b1 b2 b3 : Int) (f g : Nat → Bool) (w : World) (ha : IsSet a0 a1 a2 a3 f) (hb : IsSet b0 b1 b2 b3 g) :
    Calls Tryz.prog 66 #[.agg #[.int .u64 a0, .int .u64 a1, .int .u64 a2, .int .u64 a3], .agg #[.int .u64 b0, .int .u64 b1, .int .u64 b2, .int .u64 b3]] w (RetSet (fun j => f j || g j) w) := by
  have hr := ha.or hb
  clear ha hb
  go_enter Tryz.func66, Tryz.ntmps66
  go_wp2
  refine wp_loop_rounds 5 ?_
  rw [rounds_succ]
  go_wp2
  go_region
  go_wp2
  rw [rounds_succ]
  go_wp2
  go_region
  go_wp2
  rw [rounds_succ]
  go_wp2
  go_region
  go_wp2
  rw [rounds_succ]
  go_wp2
  go_region
  go_wp2
  rw [rounds_succ]
  go_wp2
  go_returns
  refine ⟨_, _, _, _, hr, rfl, ?_⟩
  go_grown

/-- A byte's membership, asked of any number. -/
def hasB (f : Nat → Bool) (b : Int) : Bool := decide (0 ≤ b) && decide (b < 256) && f b.toNat

theorem hasB_in (f : Nat → Bool) (b : Int) (h0 : 0 ≤ b) (h1 : b < 256) : hasB f b = f b.toNat := by simp [hasB, h0, h1]
theorem hasB_nat (f : Nat → Bool) (b : Nat) (h1 : b < 256) : hasB f b = f b := by rw [hasB_in f b (by omega) (by omega)]; simp

theorem has_any (a0 a1 a2 a3 b : Int) (f : Nat → Bool) (w : World) (ha : IsSet a0 a1 a2 a3 f) :
    Calls Tryz.prog 53 #[.agg #[.int .u64 a0, .int .u64 a1, .int .u64 a2, .int .u64 a3], .int .i64 b] w fun e w' =>
      e = .returned (.bool (hasB f b)) ∧ w' = w.alloc (.cells #[.int .u64 a0, .int .u64 a1, .int .u64 a2, .int .u64 a3] 25) := by
  by_cases h0 : 0 ≤ b
  · by_cases h1 : b < 256
    · obtain ⟨x, hx, hy⟩ := ha.at b.toNat (by omega)
      have hf := hasB_in f b h0 h1
      rw [← hy, show b.toNat % 64 = (b % 64).toNat from by omega] at hf
      rw [show b.toNat / 64 = (b / 64).toNat from by omega] at hx
      rw [hf]
      clear ha hf hy
      go_enter Tryz.func53, Tryz.ntmps53
      go_wp2
      go_returns
      exact ⟨rfl, rfl⟩
    · have hf : hasB f b = false := by simp [hasB, h1]
      rw [hf]
      clear ha hf
      go_enter Tryz.func53, Tryz.ntmps53
      go_wp2
      go_returns
      exact ⟨rfl, rfl⟩
  · have hf : hasB f b = false := by simp [hasB, h0]
    rw [hf]
    clear ha hf
    go_enter Tryz.func53, Tryz.ntmps53
    go_wp2
    go_returns
    exact ⟨rfl, rfl⟩

end Go.Proofs.YtclnadjgbpihcaaGreatDoor

