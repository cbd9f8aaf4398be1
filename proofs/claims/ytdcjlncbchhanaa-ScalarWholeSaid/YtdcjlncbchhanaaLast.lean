/- What lastOfPart returns: the last number of the first part, for all 0 ≤ lo ≤ hi ≤ 1114111; memory stays as it was. -/
import Derived.Lib.QuoteBits
import Derived.Test.YtdcjlncbchhanaaBytes
namespace Go.Proofs.Ytdcjlncbchhanaa
open Go.RowKit
set_option linter.unusedVariables false

theorem or_mask (k i : Nat) : i ||| (2 ^ k - 1) = i / 2 ^ k * 2 ^ k + (2 ^ k - 1) := by
  have hp : 0 < 2 ^ k := Nat.two_pow_pos k
  have e1 : i = (i / 2 ^ k * 2 ^ k) ||| (i % 2 ^ k) := by
    rw [nat_join k _ _ (Nat.mul_mod_left _ _) (Nat.mod_lt _ hp)]
    exact (Nat.div_add_mod' i (2 ^ k)).symm
  have e2 : i % 2 ^ k ||| (2 ^ k - 1) = 2 ^ k - 1 := by
    rw [← Nat.and_two_pow_sub_one_eq_mod]
    apply Nat.eq_of_testBit_eq
    intro j
    simp only [Nat.testBit_or, Nat.testBit_and]
    cases i.testBit j <;> cases (2 ^ k - 1).testBit j <;> rfl
  calc i ||| (2 ^ k - 1) = ((i / 2 ^ k * 2 ^ k) ||| (i % 2 ^ k)) ||| (2 ^ k - 1) := by rw [← e1]
    _ = (i / 2 ^ k * 2 ^ k) ||| (i % 2 ^ k ||| (2 ^ k - 1)) := Nat.or_assoc _ _ _
    _ = (i / 2 ^ k * 2 ^ k) ||| (2 ^ k - 1) := by rw [e2]
    _ = i / 2 ^ k * 2 ^ k + (2 ^ k - 1) := nat_join k _ _ (Nat.mul_mod_left _ _) (by omega)

theorem i64_or (i b : Nat) (hi : i < 4294967296) (hb : b < 4294967296) : bits .or .i64 (i : Int) (b : Int) = ((i ||| b : Nat) : Int) := by
  show IntKind.i64.wrap ((BitVec.ofInt 64 (i : Int) ||| BitVec.ofInt 64 (b : Int)).toNat : Int) = _
  rw [BitVec.toNat_or, ofInt_u64 i (by omega), ofInt_u64 b (by omega)]
  have : i ||| b < 2 ^ 32 := Nat.or_lt_two_pow (by omega) (by omega)
  exact Lib.wrap_i64_small _ (by omega)

theorem i64_and (i b : Nat) (hi : i < 4294967296) (hb : b < 4294967296) : bits .and .i64 (i : Int) (b : Int) = ((i &&& b : Nat) : Int) := by
  show IntKind.i64.wrap ((BitVec.ofInt 64 (i : Int) &&& BitVec.ofInt 64 (b : Int)).toNat : Int) = _
  rw [BitVec.toNat_and, ofInt_u64 i (by omega), ofInt_u64 b (by omega)]
  have : i &&& b ≤ i := Nat.and_le_left
  exact Lib.wrap_i64_small _ (by omega)

theorem and_mask (k : Nat) (hk : k ≤ 18) (x : Int) (h0 : 0 ≤ x) (h1 : x < 4294967296) : bits .and .i64 x ((2 ^ k - 1 : Nat) : Int) = x % ((2 ^ k : Nat) : Int) := by
  have hp : 2 ^ k ≤ 2 ^ 18 := Nat.pow_le_pow_right (by omega) hk
  obtain ⟨n, rfl⟩ : ∃ n : Nat, x = n := ⟨x.toNat, by omega⟩
  rw [i64_and n _ (by omega) (by omega), Nat.and_two_pow_sub_one_eq_mod]
  exact Int.natCast_emod _ _

theorem and63 (x : Int) (h0 : 0 ≤ x) (h1 : x < 4294967296) : bits .and .i64 x 63 = x % 64 := and_mask 6 (by omega) x h0 h1
theorem and4095 (x : Int) (h0 : 0 ≤ x) (h1 : x < 4294967296) : bits .and .i64 x 4095 = x % 4096 := and_mask 12 (by omega) x h0 h1
theorem and262143 (x : Int) (h0 : 0 ≤ x) (h1 : x < 4294967296) : bits .and .i64 x 262143 = x % 262144 := and_mask 18 (by omega) x h0 h1

theorem or63 (x : Int) (h0 : 0 ≤ x) (h1 : x < 4294967296) : bits .or .i64 x 63 = x / 64 * 64 + 63 := by
  obtain ⟨n, rfl⟩ : ∃ n : Nat, x = n := ⟨x.toNat, by omega⟩
  have h := i64_or n 63 (by omega) (by omega)
  rw [or_mask 6] at h
  refine h.trans ?_
  omega
theorem or4095 (x : Int) (h0 : 0 ≤ x) (h1 : x < 4294967296) : bits .or .i64 x 4095 = x / 4096 * 4096 + 4095 := by
  obtain ⟨n, rfl⟩ : ∃ n : Nat, x = n := ⟨x.toNat, by omega⟩
  have h := i64_or n 4095 (by omega) (by omega)
  rw [or_mask 12] at h
  refine h.trans ?_
  omega
theorem or262143 (x : Int) (h0 : 0 ≤ x) (h1 : x < 4294967296) : bits .or .i64 x 262143 = x / 262144 * 262144 + 262143 := by
  obtain ⟨n, rfl⟩ : ∃ n : Nat, x = n := ⟨x.toNat, by omega⟩
  have h := i64_or n 262143 (by omega) (by omega)
  rw [or_mask 18] at h
  refine h.trans ?_
  omega

theorem not_mask (n k : Nat) (hn : n < 4294967296) (hk : k ≤ 18) : bits .andNot .i64 (n : Int) ((2 ^ k - 1 : Nat) : Int) = ((n / 2 ^ k * 2 ^ k : Nat) : Int) := by
  have hp : 2 ^ k ≤ 2 ^ 18 := Nat.pow_le_pow_right (by omega) hk
  show IntKind.i64.wrap ((BitVec.ofInt 64 (n : Int) &&& ~~~BitVec.ofInt 64 ((2 ^ k - 1 : Nat) : Int)).toNat : Int) = _
  have e : (BitVec.ofInt 64 (n : Int) &&& ~~~BitVec.ofInt 64 ((2 ^ k - 1 : Nat) : Int)).toNat = n / 2 ^ k * 2 ^ k := by
    apply Nat.eq_of_testBit_eq
    intro j
    have h1 : (BitVec.ofInt 64 (n : Int)).toNat = n := ofInt_u64 n (by omega)
    have h2 : (BitVec.ofInt 64 ((2 ^ k - 1 : Nat) : Int)).toNat = 2 ^ k - 1 := ofInt_u64 _ (by omega)
    rw [BitVec.toNat_and, h1, BitVec.toNat_not, h2, Nat.testBit_and, ← Nat.shiftLeft_eq, Nat.testBit_shiftLeft, ← Nat.shiftRight_eq_div_pow, Nat.testBit_shiftRight]
    rw [show 2 ^ 64 - 1 - (2 ^ k - 1) = 2 ^ 64 - (2 ^ k - 1 + 1) from by omega, Nat.testBit_two_pow_sub_succ (by omega), Nat.testBit_two_pow_sub_one]
    by_cases hj : j < 64
    · by_cases hjk : k ≤ j
      · simp [hj, hjk, Nat.not_lt.2 hjk]
      · simp [hj, hjk, Nat.lt_of_not_le hjk]
    · have : n.testBit j = false := Nat.testBit_lt_two_pow (Nat.lt_of_lt_of_le hn (by rw [show 4294967296 = 2 ^ 32 from rfl]; exact Nat.pow_le_pow_right (by omega) (by omega)))
      have hk' : k ≤ j := by omega
      simp [hj, this, hk']
  rw [e]
  have : n / 2 ^ k * 2 ^ k ≤ n := Nat.div_mul_le_self _ _
  exact Lib.wrap_i64_small _ (by omega)

theorem not63 (x : Int) (h0 : 0 ≤ x) (h1 : x < 4294967296) : bits .andNot .i64 x 63 = x / 64 * 64 := by
  obtain ⟨n, rfl⟩ : ∃ n : Nat, x = n := ⟨x.toNat, by omega⟩
  refine (not_mask n 6 (by omega) (by omega)).trans ?_
  omega
theorem not4095 (x : Int) (h0 : 0 ≤ x) (h1 : x < 4294967296) : bits .andNot .i64 x 4095 = x / 4096 * 4096 := by
  obtain ⟨n, rfl⟩ : ∃ n : Nat, x = n := ⟨x.toNat, by omega⟩
  refine (not_mask n 12 (by omega) (by omega)).trans ?_
  omega
theorem not262143 (x : Int) (h0 : 0 ≤ x) (h1 : x < 4294967296) : bits .andNot .i64 x 262143 = x / 262144 * 262144 := by
  obtain ⟨n, rfl⟩ : ∃ n : Nat, x = n := ⟨x.toNat, by omega⟩
  refine (not_mask n 18 (by omega) (by omega)).trans ?_
  omega

theorem last_at0 (w : World) : (Instr.index 44 (.agg #[.int .i64 127, .int .i64 2047, .int .i64 65535]) (.int .i64 0)).run Try.prog w = .ok (.int .i64 127) w := by kernel_rfl
theorem last_at1 (w : World) : (Instr.index 44 (.agg #[.int .i64 127, .int .i64 2047, .int .i64 65535]) (.int .i64 1)).run Try.prog w = .ok (.int .i64 2047) w := by kernel_rfl
theorem last_at2 (w : World) : (Instr.index 44 (.agg #[.int .i64 127, .int .i64 2047, .int .i64 65535]) (.int .i64 2)).run Try.prog w = .ok (.int .i64 65535) w := by kernel_rfl

set_option maxRecDepth 100000 in
set_option maxHeartbeats 2000000 in
theorem last_a (lo hi : Int) (h0 : 0 ≤ lo) (h1 : hi ≤ 1114111) (hc : (lo ≤ 127 ∧ 127 < hi)) (w : World) :
    Calls Try.prog 21 #[.int .i64 lo, .int .i64 hi] w fun e w' => e = .returned (.int .i64 127) ∧ w = w' := by
  obtain ⟨c1, c2⟩ := hc
  have i0 := last_at0
  go_enter Try.func21, Try.ntmps21
  go_wp2
  refine wp_loop_rounds 4 ?_
  rw [rounds_succ]
  go_wp2
  go_ret
  exact ⟨rfl, rfl⟩

set_option maxRecDepth 100000 in
set_option maxHeartbeats 2000000 in
theorem last_b (lo hi : Int) (h0 : 0 ≤ lo) (h1 : hi ≤ 1114111) (hn : lo ≤ 127 → hi ≤ 127) (hc : (lo ≤ 2047 ∧ 2047 < hi)) (w : World) :
    Calls Try.prog 21 #[.int .i64 lo, .int .i64 hi] w fun e w' => e = .returned (.int .i64 2047) ∧ w = w' := by
  obtain ⟨c1, c2⟩ := hc
  have c3 : 127 < lo := by omega
  clear hn
  have i0 := last_at0
  have i1 := last_at1
  go_enter Try.func21, Try.ntmps21
  go_wp2
  refine wp_loop_rounds 4 ?_
  rw [rounds_succ]
  go_wp2
  rw [rounds_succ]
  go_wp2
  go_ret
  exact ⟨rfl, rfl⟩

set_option maxRecDepth 100000 in
set_option maxHeartbeats 2000000 in
theorem last_c (lo hi : Int) (h0 : 0 ≤ lo) (h1 : hi ≤ 1114111) (hn : 2047 < lo) (hc : (lo ≤ 65535 ∧ 65535 < hi)) (w : World) :
    Calls Try.prog 21 #[.int .i64 lo, .int .i64 hi] w fun e w' => e = .returned (.int .i64 65535) ∧ w = w' := by
  obtain ⟨c1, c2⟩ := hc
  have i0 := last_at0
  have i1 := last_at1
  have i2 := last_at2
  go_enter Try.func21, Try.ntmps21
  go_wp2
  refine wp_loop_rounds 4 ?_
  rw [rounds_succ]
  go_wp2
  rw [rounds_succ]
  go_wp2
  rw [rounds_succ]
  go_wp2
  go_ret
  exact ⟨rfl, rfl⟩

set_option maxRecDepth 100000 in
set_option maxHeartbeats 2000000 in
theorem last_d (lo hi : Int) (h0 : 0 ≤ lo) (h : lo ≤ hi) (h1 : hi ≤ 127) (w : World) :
    Calls Try.prog 21 #[.int .i64 lo, .int .i64 hi] w fun e w' => e = .returned (.int .i64 hi) ∧ w = w' := by
  have i0 := last_at0
  have i1 := last_at1
  have i2 := last_at2
  go_enter Try.func21, Try.ntmps21
  go_wp2
  refine wp_loop_rounds 4 ?_
  rw [rounds_succ]
  go_wp2
  rw [rounds_succ]
  go_wp2
  rw [rounds_succ]
  go_wp2
  rw [rounds_succ]
  go_wp2
  go_ret
  exact ⟨rfl, rfl⟩

set_option maxRecDepth 100000 in
set_option maxHeartbeats 2000000 in
theorem last_same1 (lo hi : Int) (h0 : 127 < lo) (h1 : lo ≤ hi) (h2 : hi ≤ 1114111) (c1 : 2047 < lo ∨ hi ≤ 2047) (c2 : 65535 < lo ∨ hi ≤ 65535)  (s1 : lo / 64 = hi / 64) (w : World) :
    Calls Try.prog 21 #[.int .i64 lo, .int .i64 hi] w fun e w' => e = .returned (.int .i64 (hi)) ∧ w = w' := by
  have d1 : decide (lo ≤ 127) = false := by simp; omega
  have d2 : decide (127 < hi) = true := by simp; omega
  rcases c1 with c1 | c1 <;> rcases c2 with c2 | c2
  all_goals try (exfalso; omega)
  all_goals
    have i0 := last_at0
    have i1 := last_at1
    have i2 := last_at2
    have o1 := or63 lo (by omega) (by omega)
    have p1 := or63 hi (by omega) (by omega)
    have a1 := and63 lo (by omega) (by omega)
    have b1 := and63 hi (by omega) (by omega)
    have q1 := not63 hi (by omega) (by omega)
    go_enter Try.func21, Try.ntmps21
    go_wp2
    refine wp_loop_rounds 4 ?_
    rw [rounds_succ]
    go_wp2
    rw [rounds_succ]
    go_wp2
    rw [rounds_succ]
    go_wp2
    rw [rounds_succ]
    go_wp2
    clear i0 i1 i2
    refine wp_loop_rounds 4 ?_
    rw [rounds_succ]
    go_wp2
    go_ret
    exact ⟨rfl, rfl⟩

set_option maxRecDepth 100000 in
set_option maxHeartbeats 2000000 in
theorem last_low1 (lo hi : Int) (h0 : 127 < lo) (h1 : lo ≤ hi) (h2 : hi ≤ 1114111) (c1 : 2047 < lo ∨ hi ≤ 2047) (c2 : 65535 < lo ∨ hi ≤ 65535)  (s1 : lo / 64 < hi / 64) (t1 : 0 < lo % 64) (w : World) :
    Calls Try.prog 21 #[.int .i64 lo, .int .i64 hi] w fun e w' => e = .returned (.int .i64 (lo / 64 * 64 + 63)) ∧ w = w' := by
  have d1 : decide (lo ≤ 127) = false := by simp; omega
  have d2 : decide (127 < hi) = true := by simp; omega
  rcases c1 with c1 | c1 <;> rcases c2 with c2 | c2
  all_goals try (exfalso; omega)
  all_goals
    have i0 := last_at0
    have i1 := last_at1
    have i2 := last_at2
    have o1 := or63 lo (by omega) (by omega)
    have p1 := or63 hi (by omega) (by omega)
    have a1 := and63 lo (by omega) (by omega)
    have b1 := and63 hi (by omega) (by omega)
    have q1 := not63 hi (by omega) (by omega)
    go_enter Try.func21, Try.ntmps21
    go_wp2
    refine wp_loop_rounds 4 ?_
    rw [rounds_succ]
    go_wp2
    rw [rounds_succ]
    go_wp2
    rw [rounds_succ]
    go_wp2
    rw [rounds_succ]
    go_wp2
    clear i0 i1 i2
    refine wp_loop_rounds 4 ?_
    rw [rounds_succ]
    go_wp2
    go_ret
    exact ⟨rfl, rfl⟩

set_option maxRecDepth 100000 in
set_option maxHeartbeats 2000000 in
theorem last_high1 (lo hi : Int) (h0 : 127 < lo) (h1 : lo ≤ hi) (h2 : hi ≤ 1114111) (c1 : 2047 < lo ∨ hi ≤ 2047) (c2 : 65535 < lo ∨ hi ≤ 65535)  (s1 : lo / 64 < hi / 64) (t1 : lo % 64 = 0) (u1 : hi % 64 < 63) (w : World) :
    Calls Try.prog 21 #[.int .i64 lo, .int .i64 hi] w fun e w' => e = .returned (.int .i64 (hi / 64 * 64 - 1)) ∧ w = w' := by
  have d1 : decide (lo ≤ 127) = false := by simp; omega
  have d2 : decide (127 < hi) = true := by simp; omega
  rcases c1 with c1 | c1 <;> rcases c2 with c2 | c2
  all_goals try (exfalso; omega)
  all_goals
    have i0 := last_at0
    have i1 := last_at1
    have i2 := last_at2
    have o1 := or63 lo (by omega) (by omega)
    have p1 := or63 hi (by omega) (by omega)
    have a1 := and63 lo (by omega) (by omega)
    have b1 := and63 hi (by omega) (by omega)
    have q1 := not63 hi (by omega) (by omega)
    go_enter Try.func21, Try.ntmps21
    go_wp2
    refine wp_loop_rounds 4 ?_
    rw [rounds_succ]
    go_wp2
    rw [rounds_succ]
    go_wp2
    rw [rounds_succ]
    go_wp2
    rw [rounds_succ]
    go_wp2
    clear i0 i1 i2
    refine wp_loop_rounds 4 ?_
    rw [rounds_succ]
    go_wp2
    go_ret
    exact ⟨rfl, rfl⟩

set_option maxRecDepth 100000 in
set_option maxHeartbeats 2000000 in
theorem last_same2 (lo hi : Int) (h0 : 127 < lo) (h1 : lo ≤ hi) (h2 : hi ≤ 1114111) (c1 : 2047 < lo ∨ hi ≤ 2047) (c2 : 65535 < lo ∨ hi ≤ 65535) (s1 : lo / 64 < hi / 64) (t1 : lo % 64 = 0) (u1 : hi % 64 = 63) (s2 : lo / 4096 = hi / 4096) (w : World) :
    Calls Try.prog 21 #[.int .i64 lo, .int .i64 hi] w fun e w' => e = .returned (.int .i64 (hi)) ∧ w = w' := by
  have d1 : decide (lo ≤ 127) = false := by simp; omega
  have d2 : decide (127 < hi) = true := by simp; omega
  rcases c1 with c1 | c1 <;> rcases c2 with c2 | c2
  all_goals try (exfalso; omega)
  all_goals
    have i0 := last_at0
    have i1 := last_at1
    have i2 := last_at2
    have o1 := or63 lo (by omega) (by omega)
    have p1 := or63 hi (by omega) (by omega)
    have a1 := and63 lo (by omega) (by omega)
    have b1 := and63 hi (by omega) (by omega)
    have q1 := not63 hi (by omega) (by omega)
    have o2 := or4095 lo (by omega) (by omega)
    have p2 := or4095 hi (by omega) (by omega)
    have a2 := and4095 lo (by omega) (by omega)
    have b2 := and4095 hi (by omega) (by omega)
    have q2 := not4095 hi (by omega) (by omega)
    go_enter Try.func21, Try.ntmps21
    go_wp2
    refine wp_loop_rounds 4 ?_
    rw [rounds_succ]
    go_wp2
    rw [rounds_succ]
    go_wp2
    rw [rounds_succ]
    go_wp2
    rw [rounds_succ]
    go_wp2
    clear i0 i1 i2
    refine wp_loop_rounds 4 ?_
    rw [rounds_succ]
    go_wp2
    rw [rounds_succ]
    go_wp2
    go_ret
    exact ⟨rfl, rfl⟩

set_option maxRecDepth 100000 in
set_option maxHeartbeats 2000000 in
theorem last_low2 (lo hi : Int) (h0 : 127 < lo) (h1 : lo ≤ hi) (h2 : hi ≤ 1114111) (c1 : 2047 < lo ∨ hi ≤ 2047) (c2 : 65535 < lo ∨ hi ≤ 65535) (s1 : lo / 64 < hi / 64) (t1 : lo % 64 = 0) (u1 : hi % 64 = 63) (s2 : lo / 4096 < hi / 4096) (t2 : 0 < lo % 4096) (w : World) :
    Calls Try.prog 21 #[.int .i64 lo, .int .i64 hi] w fun e w' => e = .returned (.int .i64 (lo / 4096 * 4096 + 4095)) ∧ w = w' := by
  have d1 : decide (lo ≤ 127) = false := by simp; omega
  have d2 : decide (127 < hi) = true := by simp; omega
  rcases c1 with c1 | c1 <;> rcases c2 with c2 | c2
  all_goals try (exfalso; omega)
  all_goals
    have i0 := last_at0
    have i1 := last_at1
    have i2 := last_at2
    have o1 := or63 lo (by omega) (by omega)
    have p1 := or63 hi (by omega) (by omega)
    have a1 := and63 lo (by omega) (by omega)
    have b1 := and63 hi (by omega) (by omega)
    have q1 := not63 hi (by omega) (by omega)
    have o2 := or4095 lo (by omega) (by omega)
    have p2 := or4095 hi (by omega) (by omega)
    have a2 := and4095 lo (by omega) (by omega)
    have b2 := and4095 hi (by omega) (by omega)
    have q2 := not4095 hi (by omega) (by omega)
    go_enter Try.func21, Try.ntmps21
    go_wp2
    refine wp_loop_rounds 4 ?_
    rw [rounds_succ]
    go_wp2
    rw [rounds_succ]
    go_wp2
    rw [rounds_succ]
    go_wp2
    rw [rounds_succ]
    go_wp2
    clear i0 i1 i2
    refine wp_loop_rounds 4 ?_
    rw [rounds_succ]
    go_wp2
    rw [rounds_succ]
    go_wp2
    go_ret
    exact ⟨rfl, rfl⟩

set_option maxRecDepth 100000 in
set_option maxHeartbeats 2000000 in
theorem last_high2 (lo hi : Int) (h0 : 127 < lo) (h1 : lo ≤ hi) (h2 : hi ≤ 1114111) (c1 : 2047 < lo ∨ hi ≤ 2047) (c2 : 65535 < lo ∨ hi ≤ 65535) (s1 : lo / 64 < hi / 64) (t1 : lo % 64 = 0) (u1 : hi % 64 = 63) (s2 : lo / 4096 < hi / 4096) (t2 : lo % 4096 = 0) (u2 : hi % 4096 < 4095) (w : World) :
    Calls Try.prog 21 #[.int .i64 lo, .int .i64 hi] w fun e w' => e = .returned (.int .i64 (hi / 4096 * 4096 - 1)) ∧ w = w' := by
  have d1 : decide (lo ≤ 127) = false := by simp; omega
  have d2 : decide (127 < hi) = true := by simp; omega
  rcases c1 with c1 | c1 <;> rcases c2 with c2 | c2
  all_goals try (exfalso; omega)
  all_goals
    have i0 := last_at0
    have i1 := last_at1
    have i2 := last_at2
    have o1 := or63 lo (by omega) (by omega)
    have p1 := or63 hi (by omega) (by omega)
    have a1 := and63 lo (by omega) (by omega)
    have b1 := and63 hi (by omega) (by omega)
    have q1 := not63 hi (by omega) (by omega)
    have o2 := or4095 lo (by omega) (by omega)
    have p2 := or4095 hi (by omega) (by omega)
    have a2 := and4095 lo (by omega) (by omega)
    have b2 := and4095 hi (by omega) (by omega)
    have q2 := not4095 hi (by omega) (by omega)
    go_enter Try.func21, Try.ntmps21
    go_wp2
    refine wp_loop_rounds 4 ?_
    rw [rounds_succ]
    go_wp2
    rw [rounds_succ]
    go_wp2
    rw [rounds_succ]
    go_wp2
    rw [rounds_succ]
    go_wp2
    clear i0 i1 i2
    refine wp_loop_rounds 4 ?_
    rw [rounds_succ]
    go_wp2
    rw [rounds_succ]
    go_wp2
    go_ret
    exact ⟨rfl, rfl⟩

set_option maxRecDepth 100000 in
set_option maxHeartbeats 2000000 in
theorem last_same3 (lo hi : Int) (h0 : 127 < lo) (h1 : lo ≤ hi) (h2 : hi ≤ 1114111) (c1 : 2047 < lo ∨ hi ≤ 2047) (c2 : 65535 < lo ∨ hi ≤ 65535) (s1 : lo / 64 < hi / 64) (t1 : lo % 64 = 0) (u1 : hi % 64 = 63) (s2 : lo / 4096 < hi / 4096) (t2 : lo % 4096 = 0) (u2 : hi % 4096 = 4095) (s3 : lo / 262144 = hi / 262144) (w : World) :
    Calls Try.prog 21 #[.int .i64 lo, .int .i64 hi] w fun e w' => e = .returned (.int .i64 (hi)) ∧ w = w' := by
  have d1 : decide (lo ≤ 127) = false := by simp; omega
  have d2 : decide (127 < hi) = true := by simp; omega
  rcases c1 with c1 | c1 <;> rcases c2 with c2 | c2
  all_goals try (exfalso; omega)
  all_goals
    have i0 := last_at0
    have i1 := last_at1
    have i2 := last_at2
    have o1 := or63 lo (by omega) (by omega)
    have p1 := or63 hi (by omega) (by omega)
    have a1 := and63 lo (by omega) (by omega)
    have b1 := and63 hi (by omega) (by omega)
    have q1 := not63 hi (by omega) (by omega)
    have o2 := or4095 lo (by omega) (by omega)
    have p2 := or4095 hi (by omega) (by omega)
    have a2 := and4095 lo (by omega) (by omega)
    have b2 := and4095 hi (by omega) (by omega)
    have q2 := not4095 hi (by omega) (by omega)
    have o3 := or262143 lo (by omega) (by omega)
    have p3 := or262143 hi (by omega) (by omega)
    have a3 := and262143 lo (by omega) (by omega)
    have b3 := and262143 hi (by omega) (by omega)
    have q3 := not262143 hi (by omega) (by omega)
    go_enter Try.func21, Try.ntmps21
    go_wp2
    refine wp_loop_rounds 4 ?_
    rw [rounds_succ]
    go_wp2
    rw [rounds_succ]
    go_wp2
    rw [rounds_succ]
    go_wp2
    rw [rounds_succ]
    go_wp2
    clear i0 i1 i2
    refine wp_loop_rounds 4 ?_
    rw [rounds_succ]
    go_wp2
    rw [rounds_succ]
    go_wp2
    rw [rounds_succ]
    go_wp2
    go_ret
    exact ⟨rfl, rfl⟩

set_option maxRecDepth 100000 in
set_option maxHeartbeats 2000000 in
theorem last_low3 (lo hi : Int) (h0 : 127 < lo) (h1 : lo ≤ hi) (h2 : hi ≤ 1114111) (c1 : 2047 < lo ∨ hi ≤ 2047) (c2 : 65535 < lo ∨ hi ≤ 65535) (s1 : lo / 64 < hi / 64) (t1 : lo % 64 = 0) (u1 : hi % 64 = 63) (s2 : lo / 4096 < hi / 4096) (t2 : lo % 4096 = 0) (u2 : hi % 4096 = 4095) (s3 : lo / 262144 < hi / 262144) (t3 : 0 < lo % 262144) (w : World) :
    Calls Try.prog 21 #[.int .i64 lo, .int .i64 hi] w fun e w' => e = .returned (.int .i64 (lo / 262144 * 262144 + 262143)) ∧ w = w' := by
  have d1 : decide (lo ≤ 127) = false := by simp; omega
  have d2 : decide (127 < hi) = true := by simp; omega
  rcases c1 with c1 | c1 <;> rcases c2 with c2 | c2
  all_goals try (exfalso; omega)
  all_goals
    have i0 := last_at0
    have i1 := last_at1
    have i2 := last_at2
    have o1 := or63 lo (by omega) (by omega)
    have p1 := or63 hi (by omega) (by omega)
    have a1 := and63 lo (by omega) (by omega)
    have b1 := and63 hi (by omega) (by omega)
    have q1 := not63 hi (by omega) (by omega)
    have o2 := or4095 lo (by omega) (by omega)
    have p2 := or4095 hi (by omega) (by omega)
    have a2 := and4095 lo (by omega) (by omega)
    have b2 := and4095 hi (by omega) (by omega)
    have q2 := not4095 hi (by omega) (by omega)
    have o3 := or262143 lo (by omega) (by omega)
    have p3 := or262143 hi (by omega) (by omega)
    have a3 := and262143 lo (by omega) (by omega)
    have b3 := and262143 hi (by omega) (by omega)
    have q3 := not262143 hi (by omega) (by omega)
    go_enter Try.func21, Try.ntmps21
    go_wp2
    refine wp_loop_rounds 4 ?_
    rw [rounds_succ]
    go_wp2
    rw [rounds_succ]
    go_wp2
    rw [rounds_succ]
    go_wp2
    rw [rounds_succ]
    go_wp2
    clear i0 i1 i2
    refine wp_loop_rounds 4 ?_
    rw [rounds_succ]
    go_wp2
    rw [rounds_succ]
    go_wp2
    rw [rounds_succ]
    go_wp2
    go_ret
    exact ⟨rfl, rfl⟩

set_option maxRecDepth 100000 in
set_option maxHeartbeats 2000000 in
theorem last_high3 (lo hi : Int) (h0 : 127 < lo) (h1 : lo ≤ hi) (h2 : hi ≤ 1114111) (c1 : 2047 < lo ∨ hi ≤ 2047) (c2 : 65535 < lo ∨ hi ≤ 65535) (s1 : lo / 64 < hi / 64) (t1 : lo % 64 = 0) (u1 : hi % 64 = 63) (s2 : lo / 4096 < hi / 4096) (t2 : lo % 4096 = 0) (u2 : hi % 4096 = 4095) (s3 : lo / 262144 < hi / 262144) (t3 : lo % 262144 = 0) (u3 : hi % 262144 < 262143) (w : World) :
    Calls Try.prog 21 #[.int .i64 lo, .int .i64 hi] w fun e w' => e = .returned (.int .i64 (hi / 262144 * 262144 - 1)) ∧ w = w' := by
  have d1 : decide (lo ≤ 127) = false := by simp; omega
  have d2 : decide (127 < hi) = true := by simp; omega
  rcases c1 with c1 | c1 <;> rcases c2 with c2 | c2
  all_goals try (exfalso; omega)
  all_goals
    have i0 := last_at0
    have i1 := last_at1
    have i2 := last_at2
    have o1 := or63 lo (by omega) (by omega)
    have p1 := or63 hi (by omega) (by omega)
    have a1 := and63 lo (by omega) (by omega)
    have b1 := and63 hi (by omega) (by omega)
    have q1 := not63 hi (by omega) (by omega)
    have o2 := or4095 lo (by omega) (by omega)
    have p2 := or4095 hi (by omega) (by omega)
    have a2 := and4095 lo (by omega) (by omega)
    have b2 := and4095 hi (by omega) (by omega)
    have q2 := not4095 hi (by omega) (by omega)
    have o3 := or262143 lo (by omega) (by omega)
    have p3 := or262143 hi (by omega) (by omega)
    have a3 := and262143 lo (by omega) (by omega)
    have b3 := and262143 hi (by omega) (by omega)
    have q3 := not262143 hi (by omega) (by omega)
    go_enter Try.func21, Try.ntmps21
    go_wp2
    refine wp_loop_rounds 4 ?_
    rw [rounds_succ]
    go_wp2
    rw [rounds_succ]
    go_wp2
    rw [rounds_succ]
    go_wp2
    rw [rounds_succ]
    go_wp2
    clear i0 i1 i2
    refine wp_loop_rounds 4 ?_
    rw [rounds_succ]
    go_wp2
    rw [rounds_succ]
    go_wp2
    rw [rounds_succ]
    go_wp2
    go_ret
    exact ⟨rfl, rfl⟩

set_option maxRecDepth 100000 in
set_option maxHeartbeats 2000000 in
theorem last_top (lo hi : Int) (h0 : 127 < lo) (h1 : lo ≤ hi) (h2 : hi ≤ 1114111) (c1 : 2047 < lo ∨ hi ≤ 2047) (c2 : 65535 < lo ∨ hi ≤ 65535) (s1 : lo / 64 < hi / 64) (t1 : lo % 64 = 0) (u1 : hi % 64 = 63) (s2 : lo / 4096 < hi / 4096) (t2 : lo % 4096 = 0) (u2 : hi % 4096 = 4095) (s3 : lo / 262144 < hi / 262144) (t3 : lo % 262144 = 0) (u3 : hi % 262144 = 262143) (w : World) :
    Calls Try.prog 21 #[.int .i64 lo, .int .i64 hi] w fun e w' => e = .returned (.int .i64 (hi)) ∧ w = w' := by
  have d1 : decide (lo ≤ 127) = false := by simp; omega
  have d2 : decide (127 < hi) = true := by simp; omega
  rcases c1 with c1 | c1 <;> rcases c2 with c2 | c2
  all_goals try (exfalso; omega)
  all_goals
    have i0 := last_at0
    have i1 := last_at1
    have i2 := last_at2
    have o1 := or63 lo (by omega) (by omega)
    have p1 := or63 hi (by omega) (by omega)
    have a1 := and63 lo (by omega) (by omega)
    have b1 := and63 hi (by omega) (by omega)
    have q1 := not63 hi (by omega) (by omega)
    have o2 := or4095 lo (by omega) (by omega)
    have p2 := or4095 hi (by omega) (by omega)
    have a2 := and4095 lo (by omega) (by omega)
    have b2 := and4095 hi (by omega) (by omega)
    have q2 := not4095 hi (by omega) (by omega)
    have o3 := or262143 lo (by omega) (by omega)
    have p3 := or262143 hi (by omega) (by omega)
    have a3 := and262143 lo (by omega) (by omega)
    have b3 := and262143 hi (by omega) (by omega)
    have q3 := not262143 hi (by omega) (by omega)
    go_enter Try.func21, Try.ntmps21
    go_wp2
    refine wp_loop_rounds 4 ?_
    rw [rounds_succ]
    go_wp2
    rw [rounds_succ]
    go_wp2
    rw [rounds_succ]
    go_wp2
    rw [rounds_succ]
    go_wp2
    clear i0 i1 i2
    refine wp_loop_rounds 5 ?_
    rw [rounds_succ]
    go_wp2
    rw [rounds_succ]
    go_wp2
    rw [rounds_succ]
    go_wp2
    rw [rounds_succ]
    go_wp2
    go_ret
    exact ⟨rfl, rfl⟩

theorem last_any (lo hi : Int) (h0 : 0 ≤ lo) (h : lo ≤ hi) (h1 : hi ≤ 1114111) (w : World) :
    Calls Try.prog 21 #[.int .i64 lo, .int .i64 hi] w fun e w' => e = .returned (.int .i64 (lop lo hi)) ∧ w = w' := by
  unfold lop
  by_cases a1 : lo ≤ 127 ∧ 127 < hi
  · rw [if_pos a1]; exact last_a lo hi h0 h1 a1 w
  rw [if_neg a1]
  by_cases a2 : lo ≤ 2047 ∧ 2047 < hi
  · rw [if_pos a2]; exact last_b lo hi h0 h1 (by omega) a2 w
  rw [if_neg a2]
  by_cases a3 : lo ≤ 65535 ∧ 65535 < hi
  · rw [if_pos a3]; exact last_c lo hi h0 h1 (by omega) a3 w
  rw [if_neg a3]
  by_cases a4 : hi ≤ 127
  · rw [if_pos a4]; exact last_d lo hi h0 h a4 w
  rw [if_neg a4]
  have c0 : 127 < lo := by omega
  have c1 : 2047 < lo ∨ hi ≤ 2047 := by omega
  have c2 : 65535 < lo ∨ hi ≤ 65535 := by omega
  unfold lev
  by_cases s1 : lo / 64 = hi / 64
  · rw [if_pos s1]; exact last_same1 lo hi c0 h h1 c1 c2 s1 w
  rw [if_neg s1]
  by_cases t1 : lo % 64 ≠ 0
  · rw [if_pos t1]; exact last_low1 lo hi c0 h h1 c1 c2 (by omega) (by omega) w
  rw [if_neg t1]
  by_cases u1 : hi % 64 ≠ 64 - 1
  · rw [if_pos u1]; exact last_high1 lo hi c0 h h1 c1 c2 (by omega) (by omega) (by omega) w
  rw [if_neg u1]
  by_cases s2 : lo / 4096 = hi / 4096
  · rw [if_pos s2]; exact last_same2 lo hi c0 h h1 c1 c2 (by omega) (by omega) (by omega) s2 w
  rw [if_neg s2]
  by_cases t2 : lo % 4096 ≠ 0
  · rw [if_pos t2]; exact last_low2 lo hi c0 h h1 c1 c2 (by omega) (by omega) (by omega) (by omega) (by omega) w
  rw [if_neg t2]
  by_cases u2 : hi % 4096 ≠ 4096 - 1
  · rw [if_pos u2]; exact last_high2 lo hi c0 h h1 c1 c2 (by omega) (by omega) (by omega) (by omega) (by omega) (by omega) w
  rw [if_neg u2]
  by_cases s3 : lo / 262144 = hi / 262144
  · rw [if_pos s3]; exact last_same3 lo hi c0 h h1 c1 c2 (by omega) (by omega) (by omega) (by omega) (by omega) (by omega) s3 w
  rw [if_neg s3]
  by_cases t3 : lo % 262144 ≠ 0
  · rw [if_pos t3]; exact last_low3 lo hi c0 h h1 c1 c2 (by omega) (by omega) (by omega) (by omega) (by omega) (by omega) (by omega) (by omega) w
  rw [if_neg t3]
  by_cases u3 : hi % 262144 ≠ 262144 - 1
  · rw [if_pos u3]; exact last_high3 lo hi c0 h h1 c1 c2 (by omega) (by omega) (by omega) (by omega) (by omega) (by omega) (by omega) (by omega) (by omega) w
  rw [if_neg u3]
  exact last_top lo hi c0 h h1 c1 c2 (by omega) (by omega) (by omega) (by omega) (by omega) (by omega) (by omega) (by omega) (by omega) w

end Go.Proofs.Ytdcjlncbchhanaa
