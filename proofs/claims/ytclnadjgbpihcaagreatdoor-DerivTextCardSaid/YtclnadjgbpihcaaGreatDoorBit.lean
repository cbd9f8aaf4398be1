/- Plain facts on the lowest bit of a word, and on the bytes that are left of a set from one on. No condition. -/
import Derived.Lib.TrailingZeros
import Derived.WalkKit
import Derived.Test.YtclnadjgbpihcaaGreatDoorCount
namespace Go.Proofs.YtclnadjgbpihcaaGreatDoor
open Go.RowKit
open Go.Lib (ctz ctzFrom ctzFrom_spec)
set_option linter.unusedVariables false
set_option linter.unusedSimpArgs false

theorem low_bit (x : Nat) (h0 : x ≠ 0) (hx : x < 2 ^ 64) : ctz 64 x < 64 ∧ x.testBit (ctz 64 x) = true ∧ (∀ j, j < ctz 64 x → x.testBit j = false) ∧ ∀ j, (x &&& (x - 1)).testBit j = (x.testBit j && !(decide (j ≤ ctz 64 x))) := by
  obtain ⟨m, hm, hk⟩ := ctzFrom_spec 64 x (by omega) hx
  have e : ctz 64 x = ctzFrom 64 x := by simp [ctz, h0]
  rw [e]
  generalize ctzFrom 64 x = c at hm hk
  have hb : ∀ j, x.testBit j = (decide (c ≤ j) && (2 * m + 1).testBit (j - c)) := by
    intro j
    rw [hm, Nat.mul_comm, Nat.testBit_mul_two_pow]
  have hp : 0 < 2 ^ c := Nat.two_pow_pos c
  have e1 : x - 1 = 2 ^ c * (2 * m) + (2 ^ c - 1) := by
    rw [hm, Nat.mul_add]; omega
  have hb1 : ∀ j, (x - 1).testBit j = if j < c then (2 ^ c - 1).testBit j else (2 * m).testBit (j - c) := by
    intro j
    rw [e1, Nat.testBit_two_pow_mul_add _ (by omega)]
  refine ⟨hk, ?_, ?_, ?_⟩
  · rw [hb]; simp
  · intro j hj
    rw [hb]
    have : ¬ c ≤ j := by omega
    simp [this]
  · intro j
    rw [Nat.testBit_and, hb1]
    by_cases hj : j < c
    · have h1 := hb j
      have : ¬ c ≤ j := by omega
      simp only [this, decide_false, Bool.false_and] at h1
      simp [h1]
    · rw [if_neg hj, hb]
      by_cases hc : j = c
      · subst hc; simp
      · obtain ⟨d, rfl⟩ : ∃ d, j = c + (d + 1) := ⟨j - c - 1, by omega⟩
        have e3 : c + (d + 1) - c = d + 1 := by omega
        rw [e3, Nat.testBit_succ, Nat.testBit_succ]
        have d1 : (2 * m + 1) / 2 = m := by omega
        have d2 : (2 * m) / 2 = m := by omega
        have d3 : ¬ c + (d + 1) ≤ c := by omega
        rw [d1, d2]
        simp

abbrev B8 := { b : Nat // b < 256 }

/-- The bytes of f ahead of k, in their order. -/
def els (f : Nat → Bool) : Nat → List B8
  | 0 => []
  | k + 1 => if h : k < 256 ∧ f k = true then els f k ++ [⟨k, h.1⟩] else els f k

theorem els_yes {f : Nat → Bool} {k : Nat} (h : k < 256) (hf : f k = true) : els f (k + 1) = els f k ++ [⟨k, h⟩] := by simp [els, h, hf]
theorem els_no {f : Nat → Bool} {k : Nat} (hf : f k = false) : els f (k + 1) = els f k := by simp [els, hf]

theorem els_len (f : Nat → Bool) : ∀ k, (els f k).length ≤ k
  | 0 => by simp [els]
  | k + 1 => by
    have := els_len f k
    by_cases h : k < 256 ∧ f k = true
    · rw [els_yes h.1 h.2]; simp; omega
    · have e : els f (k + 1) = els f k := by simp only [els]; rw [dif_neg h]
      rw [e]; omega

theorem els_cnt (f : Nat → Bool) : ∀ k, k ≤ 256 → (els f k).length = cnt f k
  | 0, _ => by simp [els, cnt]
  | k + 1, hk => by
    have := els_cnt f k (by omega)
    cases hf : f k with
    | true => rw [els_yes (by omega) hf]; simp [cnt, hf, this]
    | false => rw [els_no hf]; simp [cnt, hf, this]
theorem els_skip (f : Nat → Bool) {k : Nat} : ∀ j, k ≤ j → (∀ i, k ≤ i → i < j → f i = false) → els f j = els f k
  | 0, h, _ => by rw [show k = 0 by omega]
  | j + 1, h, hf => by
    by_cases e : k = j + 1
    · rw [e]
    · rw [els_no (hf j (by omega) (by omega)), els_skip f j (by omega) fun i h1 h2 => hf i h1 (by omega)]

/-- What is left of the word whose first byte is d, from the byte k on. -/
def left (f : Nat → Bool) (k d : Nat) : Nat := wd (fun j => f (d + j) && decide (k ≤ d + j)) 64
theorem left_all (f : Nat → Bool) (d : Nat) : wd (fun j => f (d + j)) 64 = left f d d := by
  unfold left
  refine wd_congr fun j _ => ?_
  simp
theorem left_lt (f : Nat → Bool) (k d : Nat) : left f k d < 2 ^ 64 := wd_lt _ _
theorem left_none {f : Nat → Bool} {k d : Nat} (h : left f k d = 0) (h1 : d ≤ k) (h2 : k ≤ d + 64) : els f (d + 64) = els f k := by
  refine els_skip f _ h2 fun i hi hj => ?_
  have := wd_bit (fun j => f (d + j) && decide (k ≤ d + j)) (i - d) 64
  unfold left at h
  rw [h] at this
  have e : d + (i - d) = i := by omega
  have e2 : i - d < 64 := by omega
  simp [e, e2, hi] at this
  exact this
theorem left_some {f : Nat → Bool} {k d : Nat} (h : left f k d ≠ 0) (h1 : d ≤ k) : ctz 64 (left f k d) < 64 ∧ k ≤ d + ctz 64 (left f k d) ∧ f (d + ctz 64 (left f k d)) = true ∧ els f (d + ctz 64 (left f k d)) = els f k ∧
    (left f k d &&& (left f k d - 1)) = left f (d + ctz 64 (left f k d) + 1) d := by
  obtain ⟨l1, l2, l3, l4⟩ := low_bit _ h (left_lt f k d)
  have hb : ∀ j, (left f k d).testBit j = (decide (j < 64) && (f (d + j) && decide (k ≤ d + j))) := fun j => wd_bit _ j 64
  generalize ctz 64 (left f k d) = c at l1 l2 l3 l4
  rw [hb] at l2
  simp only [Bool.and_eq_true, decide_eq_true_eq] at l2
  obtain ⟨_, l2, l5⟩ := l2
  refine ⟨l1, l5, l2, els_skip f _ l5 fun i hi hj => ?_, ?_⟩
  · have := l3 (i - d) (by omega)
    rw [hb] at this
    have e : d + (i - d) = i := by omega
    have e2 : i - d < 64 := by omega
    simp [e, e2, hi] at this
    exact this
  · apply Nat.eq_of_testBit_eq
    intro j
    rw [l4, hb]
    unfold left
    rw [wd_bit]
    by_cases hj : j ≤ c
    · have : ¬ d + c + 1 ≤ d + j := by omega
      simp [hj, this]
    · by_cases h6 : k ≤ d + j
      · have : d + c + 1 ≤ d + j := by omega
        simp [hj, this, h6]
      · omega
theorem bits_low (x : Nat) (h0 : x ≠ 0) (hx : x < 2 ^ 64) : bits .and .u64 (x : Int) (IntKind.u64.wrap ((x : Int) - 1)) = ((x &&& (x - 1) : Nat) : Int) := by
  have e : ((x : Int) - 1) = ((x - 1 : Nat) : Int) := by omega
  rw [e, wrap_nat _ (by omega)]
  show IntKind.u64.wrap ((BitVec.ofInt 64 (x : Int) &&& BitVec.ofInt 64 ((x - 1 : Nat) : Int)).toNat : Int) = _
  rw [BitVec.toNat_and, bv_of _ hx, bv_of _ (by omega), wrap_nat]
  exact Nat.lt_of_le_of_lt Nat.and_le_left hx

end Go.Proofs.YtclnadjgbpihcaaGreatDoor

