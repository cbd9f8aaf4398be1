/- Numbers in digits: the document's and the program's are the same. No condition. -/
import Derived.Test.YtfoohffeccgkeaaDoorTHex
namespace Go.Proofs.YtfoohffeccgkeaaDoor
set_option linter.unusedVariables false
set_option linter.unusedSimpArgs false

theorem decF_more2 : ∀ (k j n : Nat), n < 10 ^ k → 0 < k → k ≤ j → decF k n = decF j n
  | 0, _, _, _, h, _ => absurd h (by omega)
  | k + 1, 0, _, _, _, h => absurd h (by omega)
  | k + 1, j + 1, n, h, _, hj => by
    unfold decF
    by_cases g : n < 10
    · rw [if_pos g, if_pos g]
    · rw [if_neg g, if_neg g]
      have hk : 0 < k := by
        rcases Nat.eq_zero_or_pos k with e | e
        · subst e; simp at h; omega
        · exact e
      rw [decF_more2 k j (n / 10) (by rw [Nat.pow_succ] at h; omega) hk (by omega)]
theorem hexF_more2 : ∀ (k j n : Nat), n < 16 ^ k → 0 < k → k ≤ j → hexF k n = hexF j n
  | 0, _, _, _, h, _ => absurd h (by omega)
  | k + 1, 0, _, _, _, h => absurd h (by omega)
  | k + 1, j + 1, n, h, _, hj => by
    unfold hexF
    by_cases g : n < 16
    · rw [if_pos g, if_pos g]
    · rw [if_neg g, if_neg g]
      have hk : 0 < k := by
        rcases Nat.eq_zero_or_pos k with e | e
        · subst e; simp at h; omega
        · exact e
      rw [hexF_more2 k j (n / 16) (by rw [Nat.pow_succ] at h; omega) hk (by omega)]

/-- The document's digits, two by two, are the digits one by one. -/
theorem hexD_F : ∀ (f n : Nat), 16 ≤ n → n < 256 ^ (f + 1) → hexD f n = hexF (2 * f + 2) n
  | 0, n, h0, h => by
    have h : n < 256 := by simpa using h
    have e : hexF 2 n = hexF 1 (n / 16) ++ [hexC (n % 16)] := by rw [hexF, if_neg (by omega)]
    have e2 : hexF 1 (n / 16) = [hexC (n / 16 % 16)] := by rw [hexF, if_pos (by omega)]; rfl
    show hexD 0 n = hexF 2 n
    rw [e, e2]
    rfl
  | f + 1, n, h0, h => by
    have e : hexF (2 * (f + 1) + 2) n = hexF (2 * f + 3) (n / 16) ++ [hexC (n % 16)] := by
      show hexF (2 * f + 3 + 1) n = _
      rw [hexF, if_neg (by omega)]
    rw [hexD, e]
    by_cases h1 : n < 256
    · rw [if_pos h1]
      have e2 : hexF (2 * f + 3) (n / 16) = [hexC (n / 16 % 16)] := by
        show hexF (2 * f + 2 + 1) (n / 16) = _
        rw [hexF, if_pos (by omega)]; rfl
      rw [e2]
      rfl
    · rw [if_neg h1]
      have e2 : hexF (2 * f + 3) (n / 16) = hexF (2 * f + 2) (n / 256) ++ [hexC (n / 16 % 16)] := by
        show hexF (2 * f + 2 + 1) (n / 16) = _
        rw [hexF, if_neg (by omega), Nat.div_div_eq_div_mul]
      rw [e2]
      by_cases h2 : n < 4096
      · rw [if_pos h2]
        have e3 : hexF (2 * f + 2) (n / 256) = [hexC (n / 256)] := by
          show hexF (2 * f + 1 + 1) (n / 256) = _
          rw [hexF, if_pos (by omega), Nat.mod_eq_of_lt (by omega)]; rfl
        rw [e3]
        rfl
      · rw [if_neg h2]
        have : n < 256 ^ (f + 1) * 256 := by rw [← Nat.pow_succ]; exact h
        rw [hexD_F f (n / 256) (by omega) (by omega)]
        simp
theorem hexD_small (f n : Nat) (h : n < 256) : hexD f n = [hexC (n / 16 % 16), hexC (n % 16)] := by
  cases f with
  | zero => rfl
  | succ f => rw [hexD, if_pos h]
theorem hexD_T (n : Nat) (h : n ≤ 1114111) : hexD 2 n = hexT n := by
  unfold hexT
  by_cases g : n < 16
  · rw [if_pos g, hexD_small 2 n (by omega), show n / 16 % 16 = 0 by omega, Nat.mod_eq_of_lt g]
    rfl
  · rw [if_neg g, hexD_F 2 n (by omega) (by rw [show (256 : Nat) ^ (2 + 1) = 16777216 by decide]; omega)]
theorem decF_T {f n : Nat} (h : n < 10 ^ (f + 1)) (hf : f ≤ 17) : decF (f + 1) n = decT n := decF_more2 (f + 1) 20 n h (by omega) (by omega)

end Go.Proofs.YtfoohffeccgkeaaDoor
