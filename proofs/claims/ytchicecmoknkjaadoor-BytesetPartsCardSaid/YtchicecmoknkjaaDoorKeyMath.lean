/- Plain facts on keys: a list of marks as bytes; two keys are one just if the marks are; no condition. -/
import Derived.Test.YtchicecmoknkjaaDoorList
namespace Go.Proofs.YtchicecmoknkjaaDoor
open Go.RowKit

/-- Byte q of the key of the first k marks. -/
def kb (k : Nat) (f : Nat → Bool) (q : Nat) : Nat := wd (fun j => decide (8 * q + j < k) && f (8 * q + j)) 8

theorem kb_lt (k : Nat) (f : Nat → Bool) (q : Nat) : kb k f q < 256 := wd_lt _ 8

theorem wd_all_false : ∀ n, wd (fun _ => false) n = 0
  | 0 => rfl
  | n + 1 => by unfold wd; rw [wd_all_false n]; simp

theorem kb_zero (f : Nat → Bool) (q : Nat) : kb 0 f q = 0 := by
  unfold kb
  rw [wd_congr (g := fun _ => false) (fun j _ => by simp)]
  exact wd_all_false 8

theorem kb_no (k : Nat) (f : Nat → Bool) (q : Nat) (hf : f k = false) : kb (k + 1) f q = kb k f q := by
  unfold kb
  apply wd_congr
  intro j _
  by_cases h : 8 * q + j = k
  · rw [h, hf]; simp
  · have : decide (8 * q + j < k + 1) = decide (8 * q + j < k) := by rw [Bool.eq_iff_iff]; simp; omega
    rw [this]

theorem kb_other (k : Nat) (f : Nat → Bool) (q : Nat) (hq : q ≠ k / 8) : kb (k + 1) f q = kb k f q := by
  unfold kb
  apply wd_congr
  intro j hj
  have : decide (8 * q + j < k + 1) = decide (8 * q + j < k) := by rw [Bool.eq_iff_iff]; simp; omega
  rw [this]

theorem wrap_u8 (n : Int) : IntKind.u8.wrap n = n % 256 := by simp [IntKind.wrap, IntKind.bits, IntKind.signed]

theorem bv8_of (a : Nat) (ha : a < 2 ^ 8) : (BitVec.ofInt 8 (a : Int)).toNat = a := by
  rw [BitVec.ofInt_natCast, BitVec.toNat_ofNat]; exact Nat.mod_eq_of_lt ha

theorem wd8_one (j : Nat) (hj : j < 8) : wd (fun i => i == j) 8 = 2 ^ j := by
  apply Nat.eq_of_testBit_eq
  intro i
  rw [wd_bit, Nat.testBit_two_pow]
  by_cases h : i = j
  · subst h; simp [hj]
  · have : ¬ j = i := fun e => h e.symm
    simp [h, this]

theorem bits_or8 (f g : Nat → Bool) : bits .or .u8 (wd f 8 : Int) (wd g 8 : Int) = (wd (fun j => f j || g j) 8 : Int) := by
  show IntKind.u8.wrap ((BitVec.ofInt 8 (wd f 8 : Int) ||| BitVec.ofInt 8 (wd g 8 : Int)).toNat : Int) = _
  rw [BitVec.toNat_or, bv8_of _ (wd_lt f 8), bv8_of _ (wd_lt g 8)]
  have e : wd f 8 ||| wd g 8 = wd (fun j => f j || g j) 8 := by
    apply Nat.eq_of_testBit_eq
    intro j
    rw [Nat.testBit_or, wd_bit, wd_bit, wd_bit]
    cases decide (j < 8) <;> simp
  rw [e, wrap_u8]
  have := wd_lt (fun j => f j || g j) 8
  omega

theorem kb_yes (k : Nat) (f : Nat → Bool) (hf : f k = true) : bits .or .u8 (kb k f (k / 8) : Int) (IntKind.u8.wrap (2 ^ (k % 8))) = (kb (k + 1) f (k / 8) : Int) := by
  have hm : k % 8 < 8 := Nat.mod_lt _ (by decide)
  have hp : 2 ^ (k % 8) < 256 := Nat.pow_lt_pow_right (n := 8) (by decide) hm
  have h1 : IntKind.u8.wrap (2 ^ (k % 8)) = (wd (fun i => i == k % 8) 8 : Int) := by
    rw [wd8_one _ hm, wrap_u8, show ((2 : Int) ^ (k % 8)) = ((2 ^ (k % 8) : Nat) : Int) by simp]
    generalize 2 ^ (k % 8) = z at *
    omega
  rw [h1]
  unfold kb
  rw [bits_or8]
  congr 1
  apply wd_congr
  intro j hj
  by_cases h : j = k % 8
  · have e : 8 * (k / 8) + j = k := by omega
    rw [e, hf]
    simp [h]
  · have e1 : decide (8 * (k / 8) + j < k + 1) = decide (8 * (k / 8) + j < k) := by rw [Bool.eq_iff_iff]; simp; omega
    have e2 : (j == k % 8) = false := by simp [h]
    rw [e1, e2]; simp

/-- The bytes of the key of n marks. -/
def keyL (n : Nat) (f : Nat → Bool) : List UInt8 := (List.range ((n + 7) / 8)).map fun q => UInt8.ofNat (kb n f q)

theorem keyL_eq (n : Nat) (f g : Nat → Bool) (h : ∀ i, i < n → f i = g i) : keyL n f = keyL n g := by
  unfold keyL
  apply List.map_congr_left
  intro q _
  congr 1
  unfold kb
  apply wd_congr
  intro j _
  by_cases hj : 8 * q + j < n
  · rw [h _ hj]
  · simp [hj]

theorem keyL_inj (n : Nat) (f g : Nat → Bool) (h : keyL n f = keyL n g) : ∀ i, i < n → f i = g i := by
  intro i hi
  have hq : i / 8 < (n + 7) / 8 := by omega
  have e := congrArg (fun l => l[i / 8]?) h
  simp only [keyL, List.getElem?_map, List.getElem?_range hq, Option.map_some, Option.some.injEq] at e
  have e2 := congrArg UInt8.toNat e
  rw [UInt8.toNat_ofNat', UInt8.toNat_ofNat', Nat.mod_eq_of_lt (kb_lt n f _), Nat.mod_eq_of_lt (kb_lt n g _)] at e2
  have e3 := wd_inj e2 (i % 8) (Nat.mod_lt _ (by decide))
  rw [show 8 * (i / 8) + i % 8 = i by omega] at e3
  simpa [hi] using e3

/-- The cells of the marks when k are done. -/
def kcells (m k : Nat) (f : Nat → Bool) : List Value := (List.range m).map fun q => .int .u8 (kb k f q : Int)

theorem kcells_len (m k : Nat) (f : Nat → Bool) : (kcells m k f).length = m := by simp [kcells]
theorem kcells_at (m k : Nat) (f : Nat → Bool) (q : Nat) (hq : q < m) : (kcells m k f)[q]? = some (.int .u8 (kb k f q : Int)) := by simp [kcells, hq]
theorem kcells_zero (m : Nat) (f : Nat → Bool) : kcells m 0 f = List.replicate m (.int .u8 0) := by
  apply List.ext_getElem
  · simp [kcells]
  · intro i h1 h2
    simp [kcells, kb_zero]
theorem kcells_no (m k : Nat) (f : Nat → Bool) (hf : f k = false) : kcells m (k + 1) f = kcells m k f := by
  unfold kcells
  apply List.map_congr_left
  intro q _
  rw [kb_no k f q hf]
theorem kcells_yes (m k : Nat) (f : Nat → Bool) : (kcells m k f).set (k / 8) (.int .u8 (kb (k + 1) f (k / 8) : Int)) = kcells m (k + 1) f := by
  apply List.ext_getElem
  · simp [kcells]
  · intro i h1 h2
    rw [List.getElem_set]
    by_cases h : k / 8 = i
    · subst h; simp [kcells]
    · simp only [h, if_false, kcells, List.getElem_map, List.getElem_range]
      rw [kb_other k f i (fun e => h e.symm)]

end Go.Proofs.YtchicecmoknkjaaDoor
