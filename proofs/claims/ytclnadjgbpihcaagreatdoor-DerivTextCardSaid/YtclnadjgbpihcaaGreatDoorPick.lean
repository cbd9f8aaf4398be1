/- What the document's answers for Of, Join, Meet, Without, Turned and Count return: contracts for all sets and numbers; memory that was there stays as it was. -/
import Derived.Test.YtclnadjgbpihcaaGreatDoorOf
import Derived.Deep.RegionHeld3
import Derived.Deep.QuietTactic
namespace Go.Proofs.YtclnadjgbpihcaaGreatDoor
open Go.RowKit

theorem rngTo_zero (lo hi : Int) (b : Nat) : rngTo lo hi 0 b = false := by
  simp only [rngTo, rng, Bool.and_eq_false_iff, decide_eq_false_iff_not]; omega

set_option maxHeartbeats 1000000 in
theorem refof_any (lo hi : Int) (w : World) :
    Calls Tryz.prog 12 #[.int .i64 lo, .int .i64 hi] w (RetSet (rng lo hi) w) := by
  go_enter Tryz.func12, Tryz.ntmps12
  go_wp2
  go_loopw [6] (fun b wr => ∃ (k c0 c1 c2 c3 : Int), b = .int .i64 k ∧ 0 ≤ k ∧ k ≤ 256 ∧ Box4 wr w.heap.size 0 0 0 0 ∧ Box4 wr (w.heap.size + 1) c0 c1 c2 c3 ∧ IsSet c0 c1 c2 c3 (rngTo lo hi k) ∧ Below w.heap.size w wr)
    (fun b _ => (256 - intOf b).toNat)
  case atStart =>
    exact ⟨_, 0, 0, 0, 0, rfl, by omega, by omega, (Box4.new _ _ _ _ _).alloc _, Box4.new' _ _ _ _ _ _ (by simp), IsSet.empty.congr (fun b _ => (rngTo_zero lo hi b).symm), by go_grown⟩
  case round =>
    obtain ⟨k, c0, c1, c2, c3, rfl, hk0, hk1, hres, hb4, hset, hbel⟩ := hrel
    have hc0 := hb4.cell0
    have hc1 := hb4.cell1
    have hc2 := hb4.cell2
    have hc3 := hb4.cell3
    by_cases ht : k < 256
    · by_cases h1 : lo ≤ k ∧ k ≤ hi
      · obtain ⟨h1, h2⟩ := h1
        go_wp2_with (go_at_call 21; refine (with_any _ _ _ _ _ _ _ hset hk0 ht).mono ?_; rintro e w1 ⟨r0, r1, r2, r3, hr1, rfl, hb1⟩; have hB1 := hb4.below hb1 hb4.lt; have hR1 := hres.below hb1 hres.lt; have hd0 := hB1.cell0; have hd1 := hB1.cell1; have hd2 := hB1.cell2; have hd3 := hB1.cell3; have hf0 := hB1.frozen 0; have hf1 := hB1.frozen 1; have hf2 := hB1.frozen 2; have hf3 := hB1.frozen 3)
        go_roundw
        case rel => 
          refine ⟨k + 1, r0, r1, r2, r3, by go_num, by omega, by omega, ?_, hB1.set4 _ _ _ _, hr1.congr (fun b _ => ?_), ?_⟩
          · exact hR1.keep4 _ (by omega) _ _ _ _
          · rw [rngTo_step lo hi k hk0 h1 h2]
          · have hb2 := hbel.trans (hb1.mono hbel.size)
            go_grown
        case measure => simp [intOf]; omega
      · have hs := hset.congr (fun b _ => rngTo_skip lo hi k h1 b)
        have h3 : k < lo ∨ hi < k := by omega
        clear h1 hset
        rcases h3 with h3 | h3
        · go_wp2
          go_roundw
          case rel => exact ⟨k + 1, _, _, _, _, by go_num, by omega, by omega, hres, hb4, hs, hbel⟩
          case measure => simp [intOf]; omega
        · by_cases h4 : lo ≤ k
          · go_wp2
            go_roundw
            case rel => exact ⟨k + 1, _, _, _, _, by go_num, by omega, by omega, hres, hb4, hs, hbel⟩
            case measure => simp [intOf]; omega
          · go_wp2
            go_roundw
            case rel => exact ⟨k + 1, _, _, _, _, by go_num, by omega, by omega, hres, hb4, hs, hbel⟩
            case measure => simp [intOf]; omega
    · have hd0 := hres.cell0
      have hd1 := hres.cell1
      have hd2 := hres.cell2
      have hd3 := hres.cell3
      have hf0 := hres.frozen 0
      have hf1 := hres.frozen 1
      have hf2 := hres.frozen 2
      have hf3 := hres.frozen 3
      have hr := hset.congr (fun b hb => rngTo_end lo hi k (by omega) b hb)
      go_wp2
      refine bodyPost_ret (v := .agg #[.int .u64 c0, .int .u64 c1, .int .u64 c2, .int .u64 c3]) ?_ rfl ⟨_, _, _, _, hr, rfl, by go_grown⟩
      simp [results, Tryz.results12, go_sem, hd0, hd1, hd2, hd3]

/-- The table of four. -/
def pk (n1 n2 n3 n4 : Bool) (f g : Nat → Bool) : Nat → Bool := fun b => if f b then (if g b then n4 else n2) else (if g b then n3 else n1)

def pkTo (n1 n2 n3 n4 : Bool) (f g : Nat → Bool) (k : Int) : Nat → Bool := fun b => pk n1 n2 n3 n4 f g b && decide ((b : Int) < k)

theorem below_alloc {w W : World} (h : Below w.heap.size w W) (o : Obj) : Below w.heap.size w (W.alloc o) := h.alloc h.size o

/-- What pick's round holds of memory: the two sets, the result's block, and the set that grows. -/
def PickS (w : World) (a0 a1 a2 a3 b0 b1 b2 b3 c0 c1 c2 c3 : Int) (W : World) : Prop :=
  (W.cell? ⟨w.heap.size, 0, none⟩ = some (.int .u64 a0) ∧ W.cell? ⟨w.heap.size, 1, none⟩ = some (.int .u64 a1) ∧ W.cell? ⟨w.heap.size, 2, none⟩ = some (.int .u64 a2) ∧ W.cell? ⟨w.heap.size, 3, none⟩ = some (.int .u64 a3)) ∧
  (W.cell? ⟨w.heap.size + 1, 0, none⟩ = some (.int .u64 b0) ∧ W.cell? ⟨w.heap.size + 1, 1, none⟩ = some (.int .u64 b1) ∧ W.cell? ⟨w.heap.size + 1, 2, none⟩ = some (.int .u64 b2) ∧ W.cell? ⟨w.heap.size + 1, 3, none⟩ = some (.int .u64 b3)) ∧
  Box4 W w.heap.size a0 a1 a2 a3 ∧ Box4 W (w.heap.size + 1) b0 b1 b2 b3 ∧ Box4 W (w.heap.size + 2) 0 0 0 0 ∧ Box4 W (w.heap.size + 3) c0 c1 c2 c3 ∧ Below w.heap.size w W

theorem PickS.of {w W : World} {a0 a1 a2 a3 b0 b1 b2 b3 c0 c1 c2 c3 : Int} (ha : Box4 W w.heap.size a0 a1 a2 a3) (hb : Box4 W (w.heap.size + 1) b0 b1 b2 b3) (hr : Box4 W (w.heap.size + 2) 0 0 0 0) (hc : Box4 W (w.heap.size + 3) c0 c1 c2 c3) (h : Below w.heap.size w W) :
    PickS w a0 a1 a2 a3 b0 b1 b2 b3 c0 c1 c2 c3 W := ⟨⟨ha.cell0, ha.cell1, ha.cell2, ha.cell3⟩, ⟨hb.cell0, hb.cell1, hb.cell2, hb.cell3⟩, ha, hb, hr, hc, h⟩
theorem PickS.alloc {w W : World} {a0 a1 a2 a3 b0 b1 b2 b3 c0 c1 c2 c3 : Int} (h : PickS w a0 a1 a2 a3 b0 b1 b2 b3 c0 c1 c2 c3 W) (o : Obj) : PickS w a0 a1 a2 a3 b0 b1 b2 b3 c0 c1 c2 c3 (W.alloc o) :=
  PickS.of (h.2.2.1.alloc o) (h.2.2.2.1.alloc o) (h.2.2.2.2.1.alloc o) (h.2.2.2.2.2.1.alloc o) (below_alloc h.2.2.2.2.2.2 o)
theorem PickS.drew {w W : World} {a0 a1 a2 a3 b0 b1 b2 b3 c0 c1 c2 c3 : Int} (h : PickS w a0 a1 a2 a3 b0 b1 b2 b3 c0 c1 c2 c3 W) : PickS w a0 a1 a2 a3 b0 b1 b2 b3 c0 c1 c2 c3 W.drew :=
  PickS.of h.2.2.1.drew h.2.2.2.1.drew h.2.2.2.2.1.drew h.2.2.2.2.2.1.drew h.2.2.2.2.2.2.drew

theorem pkTo_zero (n1 n2 n3 n4 : Bool) (f g : Nat → Bool) (b : Nat) : pkTo n1 n2 n3 n4 f g 0 b = false := by
  simp only [pkTo, Bool.and_eq_false_iff, decide_eq_false_iff_not]; omega

theorem pkTo_yes (n1 n2 n3 n4 : Bool) (f g : Nat → Bool) (k : Int) (h0 : 0 ≤ k) (h : pk n1 n2 n3 n4 f g k.toNat = true) (b : Nat) : addB (pkTo n1 n2 n3 n4 f g k) k.toNat b = pkTo n1 n2 n3 n4 f g (k + 1) b := by
  simp only [addB, pkTo]
  by_cases hb : b = k.toNat
  · subst hb; rw [h]; simp; omega
  · have h1 : (b == k.toNat) = false := by simp [hb]
    have h2 : decide ((b : Int) < k) = decide ((b : Int) < k + 1) := by rw [Bool.eq_iff_iff]; simp; omega
    rw [h1, h2]; simp

theorem pkTo_no (n1 n2 n3 n4 : Bool) (f g : Nat → Bool) (k : Int) (h0 : 0 ≤ k) (h : pk n1 n2 n3 n4 f g k.toNat = false) (b : Nat) : pkTo n1 n2 n3 n4 f g k b = pkTo n1 n2 n3 n4 f g (k + 1) b := by
  simp only [pkTo]
  by_cases hb : b = k.toNat
  · subst hb; rw [h]; simp
  · have h2 : decide ((b : Int) < k) = decide ((b : Int) < k + 1) := by rw [Bool.eq_iff_iff]; simp; omega
    rw [h2]

theorem pkTo_end (n1 n2 n3 n4 : Bool) (f g : Nat → Bool) (k : Int) (h : 256 ≤ k) (b : Nat) (hb : b < 256) : pkTo n1 n2 n3 n4 f g k b = pk n1 n2 n3 n4 f g b := by
  have : ((b : Int) < k) := by omega
  simp [pkTo, this]

set_option maxHeartbeats 2000000 in
theorem pick_any (a0 a1 a2 a3 b0 b1 b2 b3 : Int) (n1 n2 n3 n4 : Bool) (f g : Nat → Bool) (w : World) (ha : IsSet a0 a1 a2 a3 f) (hb : IsSet b0 b1 b2 b3 g) :
    Calls Tryz.prog 50 #[.agg #[.int .u64 a0, .int .u64 a1, .int .u64 a2, .int .u64 a3], .agg #[.int .u64 b0, .int .u64 b1, .int .u64 b2, .int .u64 b3], .bool n1, .bool n2, .bool n3, .bool n4] w (RetSet (pk n1 n2 n3 n4 f g) w) := by
  go_enter Tryz.func50, Tryz.ntmps50
  go_wp2
  go_loopw [14] (fun b wr => ∃ (k c0 c1 c2 c3 : Int), b = .int .i64 k ∧ 0 ≤ k ∧ k ≤ 256 ∧ Box4 wr w.heap.size a0 a1 a2 a3 ∧ Box4 wr (w.heap.size + 1) b0 b1 b2 b3 ∧ Box4 wr (w.heap.size + 2) 0 0 0 0 ∧ Box4 wr (w.heap.size + 3) c0 c1 c2 c3 ∧ IsSet c0 c1 c2 c3 (pkTo n1 n2 n3 n4 f g k) ∧ Below w.heap.size w wr)
    (fun b _ => (256 - intOf b).toNat)
  case atStart =>
    exact ⟨_, 0, 0, 0, 0, rfl, by omega, by omega, (((Box4.new _ _ _ _ _).alloc _).alloc _).alloc _, ((Box4.new' _ _ _ _ _ _ (by simp)).alloc _).alloc _, (Box4.new' _ _ _ _ _ _ (by simp)).alloc _, Box4.new' _ _ _ _ _ _ (by simp), IsSet.empty.congr (fun b _ => (pkTo_zero n1 n2 n3 n4 f g b).symm), by go_grown⟩
  case round =>
    obtain ⟨k, c0, c1, c2, c3, rfl, hk0, hk1, hba, hbb, hres, hb4, hset, hbel⟩ := hrel
    by_cases ht : k < 256
    · have e0 := hba.cell0
      have e1 := hba.cell1
      have e2 := hba.cell2
      have e3 := hba.cell3
      have g0 := hbb.cell0
      have g1 := hbb.cell1
      have g2 := hbb.cell2
      have g3 := hbb.cell3
      have hfe := hasB_in f k hk0 ht
      have hge := hasB_in g k hk0 ht
      have HS := Lib.hid hset
      have hP : PickS w a0 a1 a2 a3 b0 b1 b2 b3 c0 c1 c2 c3 wr := PickS.of hba hbb hres hb4 hbel
      clear hset
      cases hfk : f k.toNat <;> cases hgk : g k.toNat
      · cases n1
        · have HP := Lib.hid (show pk false n2 n3 n4 f g k.toNat = false by simp [pk, hfk, hgk])
          rw [hfk] at hfe; rw [hgk] at hge; clear hfk hgk
          go_wp2
          go_region_held3 (fun W => (W.cell? ⟨w.heap.size, 0, none⟩ = some (.int .u64 a0) ∧ W.cell? ⟨w.heap.size, 1, none⟩ = some (.int .u64 a1) ∧ W.cell? ⟨w.heap.size, 2, none⟩ = some (.int .u64 a2) ∧ W.cell? ⟨w.heap.size, 3, none⟩ = some (.int .u64 a3)) ∧
              (W.cell? ⟨w.heap.size + 1, 0, none⟩ = some (.int .u64 b0) ∧ W.cell? ⟨w.heap.size + 1, 1, none⟩ = some (.int .u64 b1) ∧ W.cell? ⟨w.heap.size + 1, 2, none⟩ = some (.int .u64 b2) ∧ W.cell? ⟨w.heap.size + 1, 3, none⟩ = some (.int .u64 b3)) ∧
              Box4 W w.heap.size a0 a1 a2 a3 ∧ Box4 W (w.heap.size + 1) b0 b1 b2 b3 ∧ Box4 W (w.heap.size + 2) 0 0 0 0 ∧ Box4 W (w.heap.size + 3) c0 c1 c2 c3 ∧ Below w.heap.size w W)
              (first | exact PickS.alloc (by assumption) _ | exact PickS.drew (by assumption))
              (first | (go_at_call 35; refine (refhas_any _ _ _ _ _ _ _ (by assumption)).mono ?_; rintro e w' ⟨rfl, rfl⟩))
          rename_i hS
          obtain ⟨_, _, hba', hbb', hres', hb4', hbel'⟩ := hS
          have hb5 : Box4 _ (w.heap.size + 1 + 1 + 1) c0 c1 c2 c3 := hb4'
          have hx0 := hb5.cell0
          have hx1 := hb5.cell1
          have hx2 := hb5.cell2
          have hx3 := hb5.cell3
          clear hb4'
          go_wp2
          go_roundw
          case rel => exact ⟨k + 1, _, _, _, _, by go_num, by omega, by omega, hba', hbb', hres', hb5, HS.out.congr (fun b _ => pkTo_no _ _ _ _ f g k hk0 HP.out b), hbel'⟩
          case measure => simp [intOf]; omega
        · have HP := Lib.hid (show pk true n2 n3 n4 f g k.toNat = true by simp [pk, hfk, hgk])
          rw [hfk] at hfe; rw [hgk] at hge; clear hfk hgk
          go_wp2
          go_region_held3 (fun W => (W.cell? ⟨w.heap.size, 0, none⟩ = some (.int .u64 a0) ∧ W.cell? ⟨w.heap.size, 1, none⟩ = some (.int .u64 a1) ∧ W.cell? ⟨w.heap.size, 2, none⟩ = some (.int .u64 a2) ∧ W.cell? ⟨w.heap.size, 3, none⟩ = some (.int .u64 a3)) ∧
              (W.cell? ⟨w.heap.size + 1, 0, none⟩ = some (.int .u64 b0) ∧ W.cell? ⟨w.heap.size + 1, 1, none⟩ = some (.int .u64 b1) ∧ W.cell? ⟨w.heap.size + 1, 2, none⟩ = some (.int .u64 b2) ∧ W.cell? ⟨w.heap.size + 1, 3, none⟩ = some (.int .u64 b3)) ∧
              Box4 W w.heap.size a0 a1 a2 a3 ∧ Box4 W (w.heap.size + 1) b0 b1 b2 b3 ∧ Box4 W (w.heap.size + 2) 0 0 0 0 ∧ Box4 W (w.heap.size + 3) c0 c1 c2 c3 ∧ Below w.heap.size w W)
              (first | exact PickS.alloc (by assumption) _ | exact PickS.drew (by assumption))
              (first | (go_at_call 35; refine (refhas_any _ _ _ _ _ _ _ (by assumption)).mono ?_; rintro e w' ⟨rfl, rfl⟩))
          rename_i hS
          obtain ⟨_, _, hba', hbb', hres', hb4', hbel'⟩ := hS
          have hb5 : Box4 _ (w.heap.size + 1 + 1 + 1) c0 c1 c2 c3 := hb4'
          have hx0 := hb5.cell0
          have hx1 := hb5.cell1
          have hx2 := hb5.cell2
          have hx3 := hb5.cell3
          clear hb4'
          go_wp2_with (go_at_call 21; refine (with_any _ _ _ _ _ _ _ HS.out hk0 ht).mono ?_; rintro e w1 ⟨r0, r1, r2, r3, hr1, rfl, hb1⟩; have hA1 := hba'.below hb1 hba'.lt; have hC1 := hbb'.below hb1 hbb'.lt; have hB1 := hb5.below hb1 hb5.lt; have hR1 := hres'.below hb1 hres'.lt; have hd0 := hB1.cell0; have hd1 := hB1.cell1; have hd2 := hB1.cell2; have hd3 := hB1.cell3; have hf0 := hB1.frozen 0; have hf1 := hB1.frozen 1; have hf2 := hB1.frozen 2; have hf3 := hB1.frozen 3)
          go_roundw
          case rel =>
            refine ⟨k + 1, r0, r1, r2, r3, by go_num, by omega, by omega, ?_, ?_, ?_, hB1.set4 _ _ _ _, hr1.congr (fun b _ => pkTo_yes _ _ _ _ f g k hk0 HP.out b), ?_⟩
            · exact hA1.keep4 _ (by omega) _ _ _ _
            · exact hC1.keep4 _ (by omega) _ _ _ _
            · exact hR1.keep4 _ (by omega) _ _ _ _
            · have hb2 := hbel'.trans (hb1.mono hbel'.size)
              go_grown
          case measure => simp [intOf]; omega
      · cases n3
        · have HP := Lib.hid (show pk n1 n2 false n4 f g k.toNat = false by simp [pk, hfk, hgk])
          rw [hfk] at hfe; rw [hgk] at hge; clear hfk hgk
          go_wp2
          go_region_held3 (fun W => (W.cell? ⟨w.heap.size, 0, none⟩ = some (.int .u64 a0) ∧ W.cell? ⟨w.heap.size, 1, none⟩ = some (.int .u64 a1) ∧ W.cell? ⟨w.heap.size, 2, none⟩ = some (.int .u64 a2) ∧ W.cell? ⟨w.heap.size, 3, none⟩ = some (.int .u64 a3)) ∧
              (W.cell? ⟨w.heap.size + 1, 0, none⟩ = some (.int .u64 b0) ∧ W.cell? ⟨w.heap.size + 1, 1, none⟩ = some (.int .u64 b1) ∧ W.cell? ⟨w.heap.size + 1, 2, none⟩ = some (.int .u64 b2) ∧ W.cell? ⟨w.heap.size + 1, 3, none⟩ = some (.int .u64 b3)) ∧
              Box4 W w.heap.size a0 a1 a2 a3 ∧ Box4 W (w.heap.size + 1) b0 b1 b2 b3 ∧ Box4 W (w.heap.size + 2) 0 0 0 0 ∧ Box4 W (w.heap.size + 3) c0 c1 c2 c3 ∧ Below w.heap.size w W)
              (first | exact PickS.alloc (by assumption) _ | exact PickS.drew (by assumption))
              (first | (go_at_call 35; refine (refhas_any _ _ _ _ _ _ _ (by assumption)).mono ?_; rintro e w' ⟨rfl, rfl⟩))
          rename_i hS
          obtain ⟨_, _, hba', hbb', hres', hb4', hbel'⟩ := hS
          have hb5 : Box4 _ (w.heap.size + 1 + 1 + 1) c0 c1 c2 c3 := hb4'
          have hx0 := hb5.cell0
          have hx1 := hb5.cell1
          have hx2 := hb5.cell2
          have hx3 := hb5.cell3
          clear hb4'
          go_wp2
          go_roundw
          case rel => exact ⟨k + 1, _, _, _, _, by go_num, by omega, by omega, hba', hbb', hres', hb5, HS.out.congr (fun b _ => pkTo_no _ _ _ _ f g k hk0 HP.out b), hbel'⟩
          case measure => simp [intOf]; omega
        · have HP := Lib.hid (show pk n1 n2 true n4 f g k.toNat = true by simp [pk, hfk, hgk])
          rw [hfk] at hfe; rw [hgk] at hge; clear hfk hgk
          go_wp2
          go_region_held3 (fun W => (W.cell? ⟨w.heap.size, 0, none⟩ = some (.int .u64 a0) ∧ W.cell? ⟨w.heap.size, 1, none⟩ = some (.int .u64 a1) ∧ W.cell? ⟨w.heap.size, 2, none⟩ = some (.int .u64 a2) ∧ W.cell? ⟨w.heap.size, 3, none⟩ = some (.int .u64 a3)) ∧
              (W.cell? ⟨w.heap.size + 1, 0, none⟩ = some (.int .u64 b0) ∧ W.cell? ⟨w.heap.size + 1, 1, none⟩ = some (.int .u64 b1) ∧ W.cell? ⟨w.heap.size + 1, 2, none⟩ = some (.int .u64 b2) ∧ W.cell? ⟨w.heap.size + 1, 3, none⟩ = some (.int .u64 b3)) ∧
              Box4 W w.heap.size a0 a1 a2 a3 ∧ Box4 W (w.heap.size + 1) b0 b1 b2 b3 ∧ Box4 W (w.heap.size + 2) 0 0 0 0 ∧ Box4 W (w.heap.size + 3) c0 c1 c2 c3 ∧ Below w.heap.size w W)
              (first | exact PickS.alloc (by assumption) _ | exact PickS.drew (by assumption))
              (first | (go_at_call 35; refine (refhas_any _ _ _ _ _ _ _ (by assumption)).mono ?_; rintro e w' ⟨rfl, rfl⟩))
          rename_i hS
          obtain ⟨_, _, hba', hbb', hres', hb4', hbel'⟩ := hS
          have hb5 : Box4 _ (w.heap.size + 1 + 1 + 1) c0 c1 c2 c3 := hb4'
          have hx0 := hb5.cell0
          have hx1 := hb5.cell1
          have hx2 := hb5.cell2
          have hx3 := hb5.cell3
          clear hb4'
          go_wp2_with (go_at_call 21; refine (with_any _ _ _ _ _ _ _ HS.out hk0 ht).mono ?_; rintro e w1 ⟨r0, r1, r2, r3, hr1, rfl, hb1⟩; have hA1 := hba'.below hb1 hba'.lt; have hC1 := hbb'.below hb1 hbb'.lt; have hB1 := hb5.below hb1 hb5.lt; have hR1 := hres'.below hb1 hres'.lt; have hd0 := hB1.cell0; have hd1 := hB1.cell1; have hd2 := hB1.cell2; have hd3 := hB1.cell3; have hf0 := hB1.frozen 0; have hf1 := hB1.frozen 1; have hf2 := hB1.frozen 2; have hf3 := hB1.frozen 3)
          go_roundw
          case rel =>
            refine ⟨k + 1, r0, r1, r2, r3, by go_num, by omega, by omega, ?_, ?_, ?_, hB1.set4 _ _ _ _, hr1.congr (fun b _ => pkTo_yes _ _ _ _ f g k hk0 HP.out b), ?_⟩
            · exact hA1.keep4 _ (by omega) _ _ _ _
            · exact hC1.keep4 _ (by omega) _ _ _ _
            · exact hR1.keep4 _ (by omega) _ _ _ _
            · have hb2 := hbel'.trans (hb1.mono hbel'.size)
              go_grown
          case measure => simp [intOf]; omega
      · cases n2
        · have HP := Lib.hid (show pk n1 false n3 n4 f g k.toNat = false by simp [pk, hfk, hgk])
          rw [hfk] at hfe; rw [hgk] at hge; clear hfk hgk
          go_wp2
          go_region_held3 (fun W => (W.cell? ⟨w.heap.size, 0, none⟩ = some (.int .u64 a0) ∧ W.cell? ⟨w.heap.size, 1, none⟩ = some (.int .u64 a1) ∧ W.cell? ⟨w.heap.size, 2, none⟩ = some (.int .u64 a2) ∧ W.cell? ⟨w.heap.size, 3, none⟩ = some (.int .u64 a3)) ∧
              (W.cell? ⟨w.heap.size + 1, 0, none⟩ = some (.int .u64 b0) ∧ W.cell? ⟨w.heap.size + 1, 1, none⟩ = some (.int .u64 b1) ∧ W.cell? ⟨w.heap.size + 1, 2, none⟩ = some (.int .u64 b2) ∧ W.cell? ⟨w.heap.size + 1, 3, none⟩ = some (.int .u64 b3)) ∧
              Box4 W w.heap.size a0 a1 a2 a3 ∧ Box4 W (w.heap.size + 1) b0 b1 b2 b3 ∧ Box4 W (w.heap.size + 2) 0 0 0 0 ∧ Box4 W (w.heap.size + 3) c0 c1 c2 c3 ∧ Below w.heap.size w W)
              (first | exact PickS.alloc (by assumption) _ | exact PickS.drew (by assumption))
              (first | (go_at_call 35; refine (refhas_any _ _ _ _ _ _ _ (by assumption)).mono ?_; rintro e w' ⟨rfl, rfl⟩))
          rename_i hS
          obtain ⟨_, _, hba', hbb', hres', hb4', hbel'⟩ := hS
          have hb5 : Box4 _ (w.heap.size + 1 + 1 + 1) c0 c1 c2 c3 := hb4'
          have hx0 := hb5.cell0
          have hx1 := hb5.cell1
          have hx2 := hb5.cell2
          have hx3 := hb5.cell3
          clear hb4'
          go_wp2
          go_roundw
          case rel => exact ⟨k + 1, _, _, _, _, by go_num, by omega, by omega, hba', hbb', hres', hb5, HS.out.congr (fun b _ => pkTo_no _ _ _ _ f g k hk0 HP.out b), hbel'⟩
          case measure => simp [intOf]; omega
        · have HP := Lib.hid (show pk n1 true n3 n4 f g k.toNat = true by simp [pk, hfk, hgk])
          rw [hfk] at hfe; rw [hgk] at hge; clear hfk hgk
          go_wp2
          go_region_held3 (fun W => (W.cell? ⟨w.heap.size, 0, none⟩ = some (.int .u64 a0) ∧ W.cell? ⟨w.heap.size, 1, none⟩ = some (.int .u64 a1) ∧ W.cell? ⟨w.heap.size, 2, none⟩ = some (.int .u64 a2) ∧ W.cell? ⟨w.heap.size, 3, none⟩ = some (.int .u64 a3)) ∧
              (W.cell? ⟨w.heap.size + 1, 0, none⟩ = some (.int .u64 b0) ∧ W.cell? ⟨w.heap.size + 1, 1, none⟩ = some (.int .u64 b1) ∧ W.cell? ⟨w.heap.size + 1, 2, none⟩ = some (.int .u64 b2) ∧ W.cell? ⟨w.heap.size + 1, 3, none⟩ = some (.int .u64 b3)) ∧
              Box4 W w.heap.size a0 a1 a2 a3 ∧ Box4 W (w.heap.size + 1) b0 b1 b2 b3 ∧ Box4 W (w.heap.size + 2) 0 0 0 0 ∧ Box4 W (w.heap.size + 3) c0 c1 c2 c3 ∧ Below w.heap.size w W)
              (first | exact PickS.alloc (by assumption) _ | exact PickS.drew (by assumption))
              (first | (go_at_call 35; refine (refhas_any _ _ _ _ _ _ _ (by assumption)).mono ?_; rintro e w' ⟨rfl, rfl⟩))
          rename_i hS
          obtain ⟨_, _, hba', hbb', hres', hb4', hbel'⟩ := hS
          have hb5 : Box4 _ (w.heap.size + 1 + 1 + 1) c0 c1 c2 c3 := hb4'
          have hx0 := hb5.cell0
          have hx1 := hb5.cell1
          have hx2 := hb5.cell2
          have hx3 := hb5.cell3
          clear hb4'
          go_wp2_with (go_at_call 21; refine (with_any _ _ _ _ _ _ _ HS.out hk0 ht).mono ?_; rintro e w1 ⟨r0, r1, r2, r3, hr1, rfl, hb1⟩; have hA1 := hba'.below hb1 hba'.lt; have hC1 := hbb'.below hb1 hbb'.lt; have hB1 := hb5.below hb1 hb5.lt; have hR1 := hres'.below hb1 hres'.lt; have hd0 := hB1.cell0; have hd1 := hB1.cell1; have hd2 := hB1.cell2; have hd3 := hB1.cell3; have hf0 := hB1.frozen 0; have hf1 := hB1.frozen 1; have hf2 := hB1.frozen 2; have hf3 := hB1.frozen 3)
          go_roundw
          case rel =>
            refine ⟨k + 1, r0, r1, r2, r3, by go_num, by omega, by omega, ?_, ?_, ?_, hB1.set4 _ _ _ _, hr1.congr (fun b _ => pkTo_yes _ _ _ _ f g k hk0 HP.out b), ?_⟩
            · exact hA1.keep4 _ (by omega) _ _ _ _
            · exact hC1.keep4 _ (by omega) _ _ _ _
            · exact hR1.keep4 _ (by omega) _ _ _ _
            · have hb2 := hbel'.trans (hb1.mono hbel'.size)
              go_grown
          case measure => simp [intOf]; omega
      · cases n4
        · have HP := Lib.hid (show pk n1 n2 n3 false f g k.toNat = false by simp [pk, hfk, hgk])
          rw [hfk] at hfe; rw [hgk] at hge; clear hfk hgk
          go_wp2
          go_region_held3 (fun W => (W.cell? ⟨w.heap.size, 0, none⟩ = some (.int .u64 a0) ∧ W.cell? ⟨w.heap.size, 1, none⟩ = some (.int .u64 a1) ∧ W.cell? ⟨w.heap.size, 2, none⟩ = some (.int .u64 a2) ∧ W.cell? ⟨w.heap.size, 3, none⟩ = some (.int .u64 a3)) ∧
              (W.cell? ⟨w.heap.size + 1, 0, none⟩ = some (.int .u64 b0) ∧ W.cell? ⟨w.heap.size + 1, 1, none⟩ = some (.int .u64 b1) ∧ W.cell? ⟨w.heap.size + 1, 2, none⟩ = some (.int .u64 b2) ∧ W.cell? ⟨w.heap.size + 1, 3, none⟩ = some (.int .u64 b3)) ∧
              Box4 W w.heap.size a0 a1 a2 a3 ∧ Box4 W (w.heap.size + 1) b0 b1 b2 b3 ∧ Box4 W (w.heap.size + 2) 0 0 0 0 ∧ Box4 W (w.heap.size + 3) c0 c1 c2 c3 ∧ Below w.heap.size w W)
              (first | exact PickS.alloc (by assumption) _ | exact PickS.drew (by assumption))
              (first | (go_at_call 35; refine (refhas_any _ _ _ _ _ _ _ (by assumption)).mono ?_; rintro e w' ⟨rfl, rfl⟩))
          rename_i hS
          obtain ⟨_, _, hba', hbb', hres', hb4', hbel'⟩ := hS
          have hb5 : Box4 _ (w.heap.size + 1 + 1 + 1) c0 c1 c2 c3 := hb4'
          have hx0 := hb5.cell0
          have hx1 := hb5.cell1
          have hx2 := hb5.cell2
          have hx3 := hb5.cell3
          clear hb4'
          go_wp2
          go_roundw
          case rel => exact ⟨k + 1, _, _, _, _, by go_num, by omega, by omega, hba', hbb', hres', hb5, HS.out.congr (fun b _ => pkTo_no _ _ _ _ f g k hk0 HP.out b), hbel'⟩
          case measure => simp [intOf]; omega
        · have HP := Lib.hid (show pk n1 n2 n3 true f g k.toNat = true by simp [pk, hfk, hgk])
          rw [hfk] at hfe; rw [hgk] at hge; clear hfk hgk
          go_wp2
          go_region_held3 (fun W => (W.cell? ⟨w.heap.size, 0, none⟩ = some (.int .u64 a0) ∧ W.cell? ⟨w.heap.size, 1, none⟩ = some (.int .u64 a1) ∧ W.cell? ⟨w.heap.size, 2, none⟩ = some (.int .u64 a2) ∧ W.cell? ⟨w.heap.size, 3, none⟩ = some (.int .u64 a3)) ∧
              (W.cell? ⟨w.heap.size + 1, 0, none⟩ = some (.int .u64 b0) ∧ W.cell? ⟨w.heap.size + 1, 1, none⟩ = some (.int .u64 b1) ∧ W.cell? ⟨w.heap.size + 1, 2, none⟩ = some (.int .u64 b2) ∧ W.cell? ⟨w.heap.size + 1, 3, none⟩ = some (.int .u64 b3)) ∧
              Box4 W w.heap.size a0 a1 a2 a3 ∧ Box4 W (w.heap.size + 1) b0 b1 b2 b3 ∧ Box4 W (w.heap.size + 2) 0 0 0 0 ∧ Box4 W (w.heap.size + 3) c0 c1 c2 c3 ∧ Below w.heap.size w W)
              (first | exact PickS.alloc (by assumption) _ | exact PickS.drew (by assumption))
              (first | (go_at_call 35; refine (refhas_any _ _ _ _ _ _ _ (by assumption)).mono ?_; rintro e w' ⟨rfl, rfl⟩))
          rename_i hS
          obtain ⟨_, _, hba', hbb', hres', hb4', hbel'⟩ := hS
          have hb5 : Box4 _ (w.heap.size + 1 + 1 + 1) c0 c1 c2 c3 := hb4'
          have hx0 := hb5.cell0
          have hx1 := hb5.cell1
          have hx2 := hb5.cell2
          have hx3 := hb5.cell3
          clear hb4'
          go_wp2_with (go_at_call 21; refine (with_any _ _ _ _ _ _ _ HS.out hk0 ht).mono ?_; rintro e w1 ⟨r0, r1, r2, r3, hr1, rfl, hb1⟩; have hA1 := hba'.below hb1 hba'.lt; have hC1 := hbb'.below hb1 hbb'.lt; have hB1 := hb5.below hb1 hb5.lt; have hR1 := hres'.below hb1 hres'.lt; have hd0 := hB1.cell0; have hd1 := hB1.cell1; have hd2 := hB1.cell2; have hd3 := hB1.cell3; have hf0 := hB1.frozen 0; have hf1 := hB1.frozen 1; have hf2 := hB1.frozen 2; have hf3 := hB1.frozen 3)
          go_roundw
          case rel =>
            refine ⟨k + 1, r0, r1, r2, r3, by go_num, by omega, by omega, ?_, ?_, ?_, hB1.set4 _ _ _ _, hr1.congr (fun b _ => pkTo_yes _ _ _ _ f g k hk0 HP.out b), ?_⟩
            · exact hA1.keep4 _ (by omega) _ _ _ _
            · exact hC1.keep4 _ (by omega) _ _ _ _
            · exact hR1.keep4 _ (by omega) _ _ _ _
            · have hb2 := hbel'.trans (hb1.mono hbel'.size)
              go_grown
          case measure => simp [intOf]; omega
    · have hres : Box4 wr (w.heap.size + 1 + 1) 0 0 0 0 := hres
      have hb4 : Box4 wr (w.heap.size + 1 + 1 + 1) c0 c1 c2 c3 := hb4
      have hc0 := hb4.cell0
      have hc1 := hb4.cell1
      have hc2 := hb4.cell2
      have hc3 := hb4.cell3
      have hd0 := hres.cell0
      have hd1 := hres.cell1
      have hd2 := hres.cell2
      have hd3 := hres.cell3
      have hf0 := hres.frozen 0
      have hf1 := hres.frozen 1
      have hf2 := hres.frozen 2
      have hf3 := hres.frozen 3
      have hr := hset.congr (fun b hb => pkTo_end n1 n2 n3 n4 f g k (by omega) b hb)
      clear hset ha hb
      go_wp2
      refine bodyPost_ret (v := .agg #[.int .u64 c0, .int .u64 c1, .int .u64 c2, .int .u64 c3]) ?_ rfl ⟨_, _, _, _, hr, rfl, by go_grown⟩
      simp [results, Tryz.results50, go_sem, hd0, hd1, hd2, hd3]

end Go.Proofs.YtclnadjgbpihcaaGreatDoor

