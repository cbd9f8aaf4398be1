/- What isScalar, Bytes and the document's answers for them return: contracts for every int; memory that was there stays as it was. -/
import Derived.Test.YtdcjlncbchhanaaBase
import Derived.Test.YtdcjlncbchhanaaBound
import Derived.Test.YtdcjlncbchhanaaProg
namespace Go.Proofs.Ytdcjlncbchhanaa
open Go.RowKit

/-- Is a number a scalar value? As a bool. -/
def isSc (c : Int) : Bool := (decide (0 ≤ c) && decide (c < 55296)) || (decide (57343 < c) && decide (c ≤ 1114111))

theorem isSc_iff (c : Int) : isSc c = true ↔ Sc c := by simp [isSc, Sc]

theorem isSc_no {c : Int} (h : ¬ ((0 ≤ c ∧ c < 55296) ∨ (57343 < c ∧ c ≤ 1114111))) : isSc c = false := by
  cases hb : isSc c with
  | false => rfl
  | true => exact absurd ((isSc_iff c).1 hb) h
theorem isSc_yes {c : Int} (h : (0 ≤ c ∧ c < 55296) ∨ (57343 < c ∧ c ≤ 1114111)) : isSc c = true := (isSc_iff c).2 h

theorem issc_any (c : Int) (w : World) : Calls Try.prog 19 #[.int .i64 c] w fun e w' => e = .returned (.bool (isSc c)) ∧ w = w' := by
  have h : c < 0 ∨ (0 ≤ c ∧ c < 55296) ∨ (55296 ≤ c ∧ c ≤ 57343) ∨ (57343 < c ∧ c ≤ 1114111) ∨ 1114111 < c := by omega
  rcases h with h | ⟨h, h'⟩ | ⟨h, h'⟩ | ⟨h, h'⟩ | h
  all_goals
    first | (have d1 : decide (c < 55296) = true := by simp; omega) | (have d1 : decide (c < 55296) = false := by simp; omega)
    first | (have d2 : decide (57343 < c) = true := by simp; omega) | (have d2 : decide (57343 < c) = false := by simp; omega)
    first | (have d3 : decide (c ≤ 1114111) = true := by simp; omega) | (have d3 : decide (c ≤ 1114111) = false := by simp; omega)
    go_enter Try.func19, Try.ntmps19
    go_wp2
    go_ret
    first | rw [isSc_no (by omega)] | rw [isSc_yes (by omega)]
    exact ⟨rfl, rfl⟩

theorem refsc_any (c : Int) (w : World) : Calls Try.prog 15 #[.int .i64 c] w fun e w' => e = .returned (.bool (isSc c)) ∧ w = w' := by
  have h : c < 0 ∨ (0 ≤ c ∧ c < 55296) ∨ (55296 ≤ c ∧ c ≤ 57343) ∨ (57343 < c ∧ c ≤ 1114111) ∨ 1114111 < c := by omega
  rcases h with h | ⟨h, h'⟩ | ⟨h, h'⟩ | ⟨h, h'⟩ | h
  all_goals
    first | (have d1 : decide (c < 55296) = true := by simp; omega) | (have d1 : decide (c < 55296) = false := by simp; omega)
    first | (have d2 : decide (57343 < c) = true := by simp; omega) | (have d2 : decide (57343 < c) = false := by simp; omega)
    first | (have d3 : decide (c ≤ 1114111) = true := by simp; omega) | (have d3 : decide (c ≤ 1114111) = false := by simp; omega)
    go_enter Try.func15, Try.ntmps15
    go_wp2
    go_ret
    first | rw [isSc_no (by omega)] | rw [isSc_yes (by omega)]
    exact ⟨rfl, rfl⟩

theorem make_1 (w : World) : (Instr.makeSlice 24 (.int .i64 1) (.int .i64 1)).run Try.prog w = .ok (.slice (some ⟨w.heap.size, 0, none⟩) 1 1) (w.alloc (.cells #[.int .i64 0] 3)) := by kernel_rfl
theorem make_2 (w : World) : (Instr.makeSlice 24 (.int .i64 2) (.int .i64 2)).run Try.prog w = .ok (.slice (some ⟨w.heap.size, 0, none⟩) 2 2) (w.alloc (.cells #[.int .i64 0, .int .i64 0] 3)) := by kernel_rfl
theorem make_3 (w : World) : (Instr.makeSlice 24 (.int .i64 3) (.int .i64 3)).run Try.prog w = .ok (.slice (some ⟨w.heap.size, 0, none⟩) 3 3) (w.alloc (.cells #[.int .i64 0, .int .i64 0, .int .i64 0] 3)) := by kernel_rfl
theorem make_4 (w : World) : (Instr.makeSlice 24 (.int .i64 4) (.int .i64 4)).run Try.prog w = .ok (.slice (some ⟨w.heap.size, 0, none⟩) 4 4) (w.alloc (.cells #[.int .i64 0, .int .i64 0, .int .i64 0, .int .i64 0] 3)) := by kernel_rfl

set_option maxHeartbeats 1000000 in
theorem bytes_1 (c : Int) (h0 : 0 ≤ c) (h1 : c < 128) (x0 : UInt8) (he : Utf8.encode c = ⟨#[x0]⟩) (w : World) :
    Calls Try.prog 11 #[.int .i64 c] w (GivesRow 3 1 1 [.int .i64 (x0.toNat : Int)] w) := by
  have hS := isSc_yes (c := c) (by omega)
  have hmk := make_1
  go_enter Try.func11, Try.ntmps11
  go_wp2_with (go_at_call 19; refine (issc_any _ _).mono ?_; rw [hS]; rintro e w' ⟨rfl, rfl⟩)
  refine wp_loop_rounds 2 ?_
  rw [rounds_succ]
  go_wp2
  rw [rounds_succ]
  go_wp2
  go_ret
  exact gives_new (by omega) rfl (by simp only [wrap_byte]; rfl) rfl

set_option maxHeartbeats 1000000 in
theorem bytes_2 (c : Int) (h0 : 128 ≤ c) (h1 : c < 2048) (x0 x1 : UInt8) (he : Utf8.encode c = ⟨#[x0, x1]⟩) (w : World) :
    Calls Try.prog 11 #[.int .i64 c] w (GivesRow 3 1 2 [.int .i64 (x0.toNat : Int), .int .i64 (x1.toNat : Int)] w) := by
  have hS := isSc_yes (c := c) (by omega)
  have hmk := make_2
  go_enter Try.func11, Try.ntmps11
  go_wp2_with (go_at_call 19; refine (issc_any _ _).mono ?_; rw [hS]; rintro e w' ⟨rfl, rfl⟩)
  refine wp_loop_rounds 3 ?_
  rw [rounds_succ]
  go_wp2
  rw [rounds_succ]
  go_wp2
  rw [rounds_succ]
  go_wp2
  go_ret
  exact gives_new (by omega) rfl (by simp only [wrap_byte]; rfl) rfl

set_option maxHeartbeats 1000000 in
theorem bytes_3 (c : Int) (h0 : 2048 ≤ c) (h1 : c < 65536) (hg : c < 55296 ∨ 57343 < c) (x0 x1 x2 : UInt8) (he : Utf8.encode c = ⟨#[x0, x1, x2]⟩) (w : World) :
    Calls Try.prog 11 #[.int .i64 c] w (GivesRow 3 1 3 [.int .i64 (x0.toNat : Int), .int .i64 (x1.toNat : Int), .int .i64 (x2.toNat : Int)] w) := by
  have hS := isSc_yes (c := c) (by omega)
  have hmk := make_3
  go_enter Try.func11, Try.ntmps11
  go_wp2_with (go_at_call 19; refine (issc_any _ _).mono ?_; rw [hS]; rintro e w' ⟨rfl, rfl⟩)
  refine wp_loop_rounds 4 ?_
  rw [rounds_succ]
  go_wp2
  rw [rounds_succ]
  go_wp2
  rw [rounds_succ]
  go_wp2
  rw [rounds_succ]
  go_wp2
  go_ret
  exact gives_new (by omega) rfl (by simp only [wrap_byte]; rfl) rfl

set_option maxHeartbeats 1000000 in
theorem bytes_4 (c : Int) (h0 : 65536 ≤ c) (h1 : c ≤ 1114111) (x0 x1 x2 x3 : UInt8) (he : Utf8.encode c = ⟨#[x0, x1, x2, x3]⟩) (w : World) :
    Calls Try.prog 11 #[.int .i64 c] w (GivesRow 3 1 4 [.int .i64 (x0.toNat : Int), .int .i64 (x1.toNat : Int), .int .i64 (x2.toNat : Int), .int .i64 (x3.toNat : Int)] w) := by
  have hS := isSc_yes (c := c) (by omega)
  have hmk := make_4
  go_enter Try.func11, Try.ntmps11
  go_wp2_with (go_at_call 19; refine (issc_any _ _).mono ?_; rw [hS]; rintro e w' ⟨rfl, rfl⟩)
  refine wp_loop_rounds 5 ?_
  rw [rounds_succ]
  go_wp2
  rw [rounds_succ]
  go_wp2
  rw [rounds_succ]
  go_wp2
  rw [rounds_succ]
  go_wp2
  rw [rounds_succ]
  go_wp2
  go_ret
  exact gives_new (by omega) rfl (by simp only [wrap_byte]; rfl) rfl

theorem bytes_no (c : Int) (h : isSc c = false) (w : World) : Calls Try.prog 11 #[.int .i64 c] w (GivesRow 3 1 0 [] w) := by
  go_enter Try.func11, Try.ntmps11
  go_wp2_with (go_at_call 19; refine (issc_any _ _).mono ?_; rw [h]; rintro e w' ⟨rfl, rfl⟩)
  go_ret
  exact ⟨_, rfl, World.ownsRow_nil _ _ _ _, Below.refl _ _⟩

/-- The bytes of a number, if it is a scalar value. -/
def encS (c : Int) : List Int := if isSc c then enc c else []

/-- The call returns a slice of its own that holds these ints. -/
def GivesInts (xs : List Int) (w : World) (e : Ending) (w' : World) : Prop := GivesRow 3 1 xs.length (icells xs) w e w'

theorem byte_of (n : Nat) (h : n < 256) : ((UInt8.ofNat n).toNat : Int) = n := by simp; omega

theorem bytes_any (c : Int) (w : World) : Calls Try.prog 11 #[.int .i64 c] w (GivesInts (encS c) w) := by
  by_cases hs : isSc c = true
  · have hc := (isSc_iff c).1 hs
    unfold encS
    rw [if_pos hs]
    unfold Sc at hc
    have hv : Utf8.valid c = true := by simp [Utf8.valid]; omega
    by_cases h1 : c < 128
    · refine (bytes_1 c (by omega) h1 (UInt8.ofNat c.toNat) (by simp only [Utf8.encode, hv, if_true]; rw [if_pos (by omega)]) w).mono ?_
      rw [byte_of _ (by omega), enc1 h1, show ((c.toNat : Nat) : Int) = c from by omega]
      exact fun _ _ h => h
    by_cases h2 : c < 2048
    · refine (bytes_2 c (by omega) h2 (UInt8.ofNat (192 + c.toNat / 64)) (UInt8.ofNat (128 + c.toNat % 64)) (by simp only [Utf8.encode, hv, if_true]; rw [if_neg (by omega), if_pos (by omega)]) w).mono ?_
      rw [byte_of _ (by omega), byte_of _ (by omega), enc2 (by omega) h2, show ((192 + c.toNat / 64 : Nat) : Int) = 192 + c / 64 from by omega, show ((128 + c.toNat % 64 : Nat) : Int) = 128 + c % 64 from by omega]
      exact fun _ _ h => h
    by_cases h3 : c < 65536
    · refine (bytes_3 c (by omega) h3 (by omega) (UInt8.ofNat (224 + c.toNat / 4096)) (UInt8.ofNat (128 + c.toNat / 64 % 64)) (UInt8.ofNat (128 + c.toNat % 64)) (by simp only [Utf8.encode, hv, if_true]; rw [if_neg (by omega), if_neg (by omega), if_pos (by omega)]) w).mono ?_
      rw [byte_of _ (by omega), byte_of _ (by omega), byte_of _ (by omega), enc3 (by omega) h3, show ((224 + c.toNat / 4096 : Nat) : Int) = 224 + c / 4096 from by omega, show ((128 + c.toNat / 64 % 64 : Nat) : Int) = 128 + c / 64 % 64 from by omega, show ((128 + c.toNat % 64 : Nat) : Int) = 128 + c % 64 from by omega]
      exact fun _ _ h => h
    · refine (bytes_4 c (by omega) (by omega) (UInt8.ofNat (240 + c.toNat / 262144)) (UInt8.ofNat (128 + c.toNat / 4096 % 64)) (UInt8.ofNat (128 + c.toNat / 64 % 64)) (UInt8.ofNat (128 + c.toNat % 64)) (by simp only [Utf8.encode, hv, if_true]; rw [if_neg (by omega), if_neg (by omega), if_neg (by omega)]) w).mono ?_
      rw [byte_of _ (by omega), byte_of _ (by omega), byte_of _ (by omega), byte_of _ (by omega), enc4 (by omega), show ((240 + c.toNat / 262144 : Nat) : Int) = 240 + c / 262144 from by omega, show ((128 + c.toNat / 4096 % 64 : Nat) : Int) = 128 + c / 4096 % 64 from by omega, show ((128 + c.toNat / 64 % 64 : Nat) : Int) = 128 + c / 64 % 64 from by omega, show ((128 + c.toNat % 64 : Nat) : Int) = 128 + c % 64 from by omega]
      exact fun _ _ h => h
  · have hs' : isSc c = false := by simpa using hs
    unfold encS
    rw [hs']
    exact bytes_no c hs' w

theorem refbytes_any (c : Int) (w : World) : Calls Try.prog 12 #[.int .i64 c] w (GivesInts (encS c) w) := by
  by_cases hs : isSc c = true
  · have hc := (isSc_iff c).1 hs
    unfold encS
    rw [if_pos hs]
    unfold Sc at hc
    by_cases h1 : c < 128
    · rw [enc1 h1]
      go_enter Try.func12, Try.ntmps12
      go_wp2_with (go_at_call 15; refine (refsc_any _ _).mono ?_; rw [hs]; rintro e w' ⟨rfl, rfl⟩)
      go_ret
      exact gives_new (n := 1) (by omega) rfl rfl rfl
    by_cases h2 : c < 2048
    · rw [enc2 (by omega) h2]
      go_enter Try.func12, Try.ntmps12
      go_wp2_with (go_at_call 15; refine (refsc_any _ _).mono ?_; rw [hs]; rintro e w' ⟨rfl, rfl⟩)
      go_ret
      exact gives_new (n := 2) (by omega) rfl rfl rfl
    by_cases h3 : c < 65536
    · rw [enc3 (by omega) h3]
      go_enter Try.func12, Try.ntmps12
      go_wp2_with (go_at_call 15; refine (refsc_any _ _).mono ?_; rw [hs]; rintro e w' ⟨rfl, rfl⟩)
      go_ret
      exact gives_new (n := 3) (by omega) rfl rfl rfl
    · rw [enc4 (by omega)]
      go_enter Try.func12, Try.ntmps12
      go_wp2_with (go_at_call 15; refine (refsc_any _ _).mono ?_; rw [hs]; rintro e w' ⟨rfl, rfl⟩)
      go_ret
      exact gives_new (n := 4) (by omega) rfl rfl rfl
  · have hs' : isSc c = false := by simpa using hs
    unfold encS
    rw [hs']
    go_enter Try.func12, Try.ntmps12
    go_wp2_with (go_at_call 15; refine (refsc_any _ _).mono ?_; rw [hs']; rintro e w' ⟨rfl, rfl⟩)
    go_ret
    exact ⟨_, rfl, World.ownsRow_nil _ _ _ _, Below.refl _ _⟩

end Go.Proofs.Ytdcjlncbchhanaa
