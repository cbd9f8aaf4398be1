/- What Of, and the document's answers for Has, with, Of and pick, return: contracts for all sets and numbers; memory that was there stays as it was. -/
import Derived.Test.YtclnadjgbpihcaaGreatDoorSets
import Derived.BigQuiet
import Derived.Lib.Hide
namespace Go.Proofs.YtclnadjgbpihcaaGreatDoor
open Go.RowKit

/-- Block B holds a set's four words. -/
def Box4 (W : World) (B : Nat) (c0 c1 c2 c3 : Int) : Prop := W.heap[B]? = some (.cells #[.int .u64 c0, .int .u64 c1, .int .u64 c2, .int .u64 c3] 25 (0, 0))

theorem Box4.lt {W : World} {B : Nat} {c0 c1 c2 c3 : Int} (h : Box4 W B c0 c1 c2 c3) : B < W.heap.size := (Array.getElem?_eq_some_iff.1 h).1
theorem Box4.cell0 {W : World} {B : Nat} {c0 c1 c2 c3 : Int} (h : Box4 W B c0 c1 c2 c3) : W.cell? ⟨B, 0, none⟩ = some (.int .u64 c0) := by simp [World.cell?, show W.heap[B]? = _ from h]
theorem Box4.cell1 {W : World} {B : Nat} {c0 c1 c2 c3 : Int} (h : Box4 W B c0 c1 c2 c3) : W.cell? ⟨B, 1, none⟩ = some (.int .u64 c1) := by simp [World.cell?, show W.heap[B]? = _ from h]
theorem Box4.cell2 {W : World} {B : Nat} {c0 c1 c2 c3 : Int} (h : Box4 W B c0 c1 c2 c3) : W.cell? ⟨B, 2, none⟩ = some (.int .u64 c2) := by simp [World.cell?, show W.heap[B]? = _ from h]
theorem Box4.cell3 {W : World} {B : Nat} {c0 c1 c2 c3 : Int} (h : Box4 W B c0 c1 c2 c3) : W.cell? ⟨B, 3, none⟩ = some (.int .u64 c3) := by simp [World.cell?, show W.heap[B]? = _ from h]
theorem Box4.frozen {W : World} {B : Nat} {c0 c1 c2 c3 : Int} (h : Box4 W B c0 c1 c2 c3) (j : Nat) : W.frozen? ⟨B, j, none⟩ = false := by simp [World.frozen?, show W.heap[B]? = _ from h]
theorem Box4.new (W : World) (c0 c1 c2 c3 : Int) : Box4 (W.alloc (.cells #[.int .u64 c0, .int .u64 c1, .int .u64 c2, .int .u64 c3] 25)) W.heap.size c0 c1 c2 c3 := by
  show (W.heap.push _)[W.heap.size]? = _
  simp
theorem Box4.new' (W : World) (B : Nat) (c0 c1 c2 c3 : Int) (h : B = W.heap.size) : Box4 (W.alloc (.cells #[.int .u64 c0, .int .u64 c1, .int .u64 c2, .int .u64 c3] 25)) B c0 c1 c2 c3 := by rw [h]; exact Box4.new W c0 c1 c2 c3
theorem Box4.alloc {W : World} {B : Nat} {c0 c1 c2 c3 : Int} (h : Box4 W B c0 c1 c2 c3) (o : Obj) : Box4 (W.alloc o) B c0 c1 c2 c3 := (Below.heap_alloc W o B h.lt).trans h
theorem Box4.drew {W : World} {B : Nat} {c0 c1 c2 c3 : Int} (h : Box4 W B c0 c1 c2 c3) : Box4 W.drew B c0 c1 c2 c3 := h
theorem Box4.drewN {W : World} {B : Nat} {c0 c1 c2 c3 : Int} (h : Box4 W B c0 c1 c2 c3) (n : Nat) : Box4 (W.drewN n) B c0 c1 c2 c3 := h
theorem Box4.below {W W' : World} {B N : Nat} {c0 c1 c2 c3 : Int} (h : Box4 W B c0 c1 c2 c3) (hb : Below N W W') (hN : B < N) : Box4 W' B c0 c1 c2 c3 := (hb.block B hN).trans h
theorem Box4.keep {W : World} {B : Nat} {c0 c1 c2 c3 : Int} (h : Box4 W B c0 c1 c2 c3) (a : Addr) (v : Value) (hne : B ≠ a.block) : Box4 (W.setCell a v) B c0 c1 c2 c3 := (Below.heap_setCell W a v B hne).trans h

theorem heap_setCell_own (W : World) (B j : Nat) (v : Value) (cs : Array Value) (t : TypeId) (h : W.heap[B]? = some (.cells cs t (0, 0))) :
    (W.setCell ⟨B, j, none⟩ v).heap[B]? = some (.cells (cs.setIfInBounds j v) t (0, 0)) := by
  obtain ⟨hlt, hk⟩ := Array.getElem?_eq_some_iff.1 h
  show (W.heap.modify B _)[B]? = _
  rw [Array.getElem?_eq_getElem (by rw [Array.size_modify]; exact hlt), Array.getElem_modify_self, hk]
  rfl

theorem Box4.set0 {W : World} {B : Nat} {c0 c1 c2 c3 : Int} (h : Box4 W B c0 c1 c2 c3) (x : Int) : Box4 (W.setCell ⟨B, 0, none⟩ (.int .u64 x)) B x c1 c2 c3 := heap_setCell_own W B 0 _ _ _ h
theorem Box4.set1 {W : World} {B : Nat} {c0 c1 c2 c3 : Int} (h : Box4 W B c0 c1 c2 c3) (x : Int) : Box4 (W.setCell ⟨B, 1, none⟩ (.int .u64 x)) B c0 x c2 c3 := heap_setCell_own W B 1 _ _ _ h
theorem Box4.set2 {W : World} {B : Nat} {c0 c1 c2 c3 : Int} (h : Box4 W B c0 c1 c2 c3) (x : Int) : Box4 (W.setCell ⟨B, 2, none⟩ (.int .u64 x)) B c0 c1 x c3 := heap_setCell_own W B 2 _ _ _ h
theorem Box4.set3 {W : World} {B : Nat} {c0 c1 c2 c3 : Int} (h : Box4 W B c0 c1 c2 c3) (x : Int) : Box4 (W.setCell ⟨B, 3, none⟩ (.int .u64 x)) B c0 c1 c2 x := heap_setCell_own W B 3 _ _ _ h

/-- A whole set stored into block B. -/
theorem Box4.set4 {W : World} {B : Nat} {c0 c1 c2 c3 : Int} (h : Box4 W B c0 c1 c2 c3) (x0 x1 x2 x3 : Int) :
    Box4 ((((W.setCell ⟨B, 0, none⟩ (.int .u64 x0)).setCell ⟨B, 1, none⟩ (.int .u64 x1)).setCell ⟨B, 2, none⟩ (.int .u64 x2)).setCell ⟨B, 3, none⟩ (.int .u64 x3)) B x0 x1 x2 x3 := (((h.set0 x0).set1 x1).set2 x2).set3 x3
theorem Box4.keep4 {W : World} {B : Nat} {c0 c1 c2 c3 : Int} (h : Box4 W B c0 c1 c2 c3) (B' : Nat) (hne : B ≠ B') (v0 v1 v2 v3 : Value) :
    Box4 ((((W.setCell ⟨B', 0, none⟩ v0).setCell ⟨B', 1, none⟩ v1).setCell ⟨B', 2, none⟩ v2).setCell ⟨B', 3, none⟩ v3) B c0 c1 c2 c3 := (((h.keep ⟨B', 0, none⟩ _ hne).keep ⟨B', 1, none⟩ _ hne).keep ⟨B', 2, none⟩ _ hne).keep ⟨B', 3, none⟩ _ hne

theorem refhas_any (a0 a1 a2 a3 b : Int) (f : Nat → Bool) (w : World) (ha : IsSet a0 a1 a2 a3 f) :
    Calls Tryz.prog 35 #[.agg #[.int .u64 a0, .int .u64 a1, .int .u64 a2, .int .u64 a3], .int .i64 b] w fun e w' =>
      e = .returned (.bool (hasB f b)) ∧ w' = w.alloc (.cells #[.int .u64 a0, .int .u64 a1, .int .u64 a2, .int .u64 a3] 25) := by
  by_cases h0 : 0 ≤ b
  · by_cases h1 : b < 256
    · obtain ⟨x, hx, hy⟩ := ha.at b.toNat (by omega)
      have hf := hasB_in f b h0 h1
      rw [← hy, show b.toNat % 64 = (b % 64).toNat from by omega] at hf
      rw [show b.toNat / 64 = (b / 64).toNat from by omega] at hx
      rw [hf]
      clear ha hf hy
      go_enter Tryz.func35, Tryz.ntmps35
      go_wp2
      go_returns
      exact ⟨rfl, rfl⟩
    · have hf : hasB f b = false := by simp [hasB, h1]
      rw [hf]
      clear ha hf
      go_enter Tryz.func35, Tryz.ntmps35
      go_wp2
      go_returns
      exact ⟨rfl, rfl⟩
  · have hf : hasB f b = false := by simp [hasB, h0]
    rw [hf]
    clear ha hf
    go_enter Tryz.func35, Tryz.ntmps35
    go_wp2
    go_returns
    exact ⟨rfl, rfl⟩

set_option maxHeartbeats 1000000 in
theorem with_any (a0 a1 a2 a3 b : Int) (f : Nat → Bool) (w : World) (ha : IsSet a0 a1 a2 a3 f) (h0 : 0 ≤ b) (h1 : b < 256) :
    Calls Tryz.prog 21 #[.agg #[.int .u64 a0, .int .u64 a1, .int .u64 a2, .int .u64 a3], .int .i64 b] w (RetSet (addB f b.toNat) w) := by
  have hq : b / 64 = 0 ∨ b / 64 = 1 ∨ b / 64 = 2 ∨ b / 64 = 3 := by omega
  rcases hq with hq | hq | hq | hq
  · have hr := ha.add0 b h0 hq
    clear ha
    go_enter Tryz.func21, Tryz.ntmps21
    go_wp2
    go_region
    go_wp2
    go_returns
    refine ⟨_, _, _, _, hr, rfl, ?_⟩
    go_grown
  · have hr := ha.add1 b hq
    clear ha
    go_enter Tryz.func21, Tryz.ntmps21
    go_wp2
    go_region
    go_wp2
    go_returns
    refine ⟨_, _, _, _, hr, rfl, ?_⟩
    go_grown
  · have hr := ha.add2 b hq
    clear ha
    go_enter Tryz.func21, Tryz.ntmps21
    go_wp2
    go_region
    go_wp2
    go_returns
    refine ⟨_, _, _, _, hr, rfl, ?_⟩
    go_grown
  · have hr := ha.add3 b hq
    clear ha
    go_enter Tryz.func21, Tryz.ntmps21
    go_wp2
    go_region
    go_wp2
    go_returns
    refine ⟨_, _, _, _, hr, rfl, ?_⟩
    go_grown

/-- The bytes from lo to hi. -/
def rng (lo hi : Int) : Nat → Bool := fun b => decide (lo ≤ (b : Int)) && decide ((b : Int) ≤ hi)

/-- Those of them ahead of k. -/
def rngTo (lo hi : Int) (k : Int) : Nat → Bool := fun b => rng lo hi b && decide ((b : Int) < k)

theorem rngTo_start (lo hi : Int) (b : Nat) : rngTo lo hi (max lo 0) b = false := by
  simp only [rngTo, rng, Bool.and_eq_false_iff, decide_eq_false_iff_not]; omega

theorem rngTo_step (lo hi k : Int) (h0 : 0 ≤ k) (h1 : lo ≤ k) (h2 : k ≤ hi) (b : Nat) : addB (rngTo lo hi k) k.toNat b = rngTo lo hi (k + 1) b := by
  simp only [addB, rngTo, rng]
  rw [Bool.eq_iff_iff]
  simp only [Bool.or_eq_true, Bool.and_eq_true, decide_eq_true_eq, beq_iff_eq]
  omega

theorem rngTo_skip (lo hi k : Int) (h : ¬ (lo ≤ k ∧ k ≤ hi)) (b : Nat) : rngTo lo hi k b = rngTo lo hi (k + 1) b := by
  simp only [rngTo, rng]
  rw [Bool.eq_iff_iff]
  simp only [Bool.and_eq_true, decide_eq_true_eq]
  omega

theorem rngTo_end (lo hi k : Int) (h : min hi 255 < k) (b : Nat) (hb : b < 256) : rngTo lo hi k b = rng lo hi b := by
  simp only [rngTo, rng]
  rw [Bool.eq_iff_iff]
  simp only [Bool.and_eq_true, decide_eq_true_eq]
  omega

end Go.Proofs.YtclnadjgbpihcaaGreatDoor

