/- Plain facts on UTF-8, second part: at most 25 parts; a list of bytes matches a part just if it is the bytes of a scalar value of it. No condition. -/
import Derived.Test.YtdcjlncbchhanaaMath
namespace Go.Proofs.Ytdcjlncbchhanaa

theorem Parts.seg {a b : Int} (ha : 128 ≤ a) (h2 : ¬ (a ≤ 2047 ∧ 2047 < b)) (h3 : ¬ (a ≤ 65535 ∧ 65535 < b)) (h4 : ¬ (a ≤ 57343 ∧ 55296 ≤ b)) {lo hi : Int} {L : List (Int × Int)} (h : Parts lo hi L) :
    a ≤ lo → hi ≤ b → (L.length : Int) ≤ phi lo hi := by
  induction h with
  | none h1 => intro _ _; unfold phi; rw [if_pos h1]; simp
  | gap h1 h5 h6 _ _ _ _ => intro k1 k2; omega
  | @cut lo hi _ _ h1 h5 h6 _ _ ih1 ih2 =>
    intro k1 k2
    have e1 := lop_lo (by omega) h1
    have e2 := lop_hi h1
    have i1 := ih1 k1 (by omega)
    have i2 := ih2 (by omega) k2
    have := cut_phi lo hi h1 (by omega) (by omega) (by omega) h6
    rw [List.length_append]; omega
  | @one lo hi h1 h5 h6 =>
    intro _ _
    have a0 := fr_le 64 lo hi
    have b0 := fr_le 4096 lo hi
    have c0 := fr_le 262144 lo hi
    unfold phi
    rw [if_neg (by omega)]
    simp; omega

/-- The parts that the numbers ahead of this one's segment may want, and those with it. -/
def dn (c : Int) : Int := if c ≤ 127 then 0 else if c ≤ 2047 then 1 else if c ≤ 55295 then 4 else if c ≤ 65535 then 9 else 14
def up (c : Int) : Int := if c ≤ 127 then 1 else if c ≤ 2047 then 4 else if c ≤ 57343 then 9 else if c ≤ 65535 then 14 else 21

theorem dn_le (c : Int) : 0 ≤ dn c ∧ dn c ≤ 14 := by unfold dn; (repeat' split) <;> omega
theorem up_le (c : Int) : 1 ≤ up c ∧ up c ≤ 21 := by unfold up; (repeat' split) <;> omega
theorem dn_mono {a b : Int} (h : a ≤ b) : dn a ≤ dn b := by unfold dn; (repeat' split) <;> omega
theorem up_mono {a b : Int} (h : a ≤ b) : up a ≤ up b := by unfold up; (repeat' split) <;> omega
theorem dn_up {a b : Int} (h : a ≤ b) (hg : ¬ (a ≤ 57343 ∧ 55296 ≤ b)) : dn a + 1 ≤ up b := by unfold dn up; (repeat' split) <;> omega

theorem Parts.bound {lo hi : Int} {L : List (Int × Int)} (h : Parts lo hi L) : 0 ≤ lo → hi ≤ 1114111 → L = [] ∨ (L.length : Int) + dn lo ≤ up hi := by
  induction h with
  | none h1 => intro _ _; exact .inl rfl
  | @gap lo hi A B h1 h2 h3 _ _ ih1 ih2 =>
    intro h0 h4
    have i1 := ih1 h0 (by omega)
    have i2 := ih2 (by omega) h4
    have e1 : up 55295 = 9 := by decide
    have e2 : dn 57344 = 9 := by decide
    have e3 : dn lo ≤ 9 := by have := dn_mono h2; have : dn 57343 = 9 := by decide
                              omega
    have e4 : 9 ≤ up hi := by have := up_mono h3; have : up 55296 = 9 := by decide
                              omega
    rw [e1] at i1
    rw [e2] at i2
    rcases i1 with rfl | i1
    · rcases i2 with rfl | i2
      · exact .inl rfl
      · right; simp; omega
    · right
      rcases i2 with rfl | i2
      · simp; omega
      · rw [List.length_append]; omega
  | @cut lo hi A B h1 h2 h3 p1 p2 ih1 ih2 =>
    intro h0 h4
    have l1 := lop_lo h0 h1
    have l2 := lop_hi h1
    have i1 := ih1 h0 (by omega)
    have i2 := ih2 (by omega) h4
    by_cases hb : lop lo hi = 127 ∨ lop lo hi = 2047 ∨ lop lo hi = 65535
    · have e : up (lop lo hi) = dn (lop lo hi + 1) := by
        rcases hb with e | e | e <;> rw [e] <;> decide
      have e5 : dn lo ≤ dn (lop lo hi + 1) := dn_mono (by omega)
      have e6 : up (lop lo hi) ≤ up hi := up_mono (by omega)
      rw [e] at i1 e6
      rcases i1 with rfl | i1
      · rcases i2 with rfl | i2
        · exact .inl rfl
        · right; simp; omega
      · right
        rcases i2 with rfl | i2
        · simp; omega
        · rw [List.length_append]; omega
    · right
      have s1 : ¬ (lo ≤ 127 ∧ 127 < hi) := fun h => hb (.inl (by unfold lop; rw [if_pos h]))
      have s2 : ¬ (lo ≤ 2047 ∧ 2047 < hi) := fun h => hb (.inr (.inl (by unfold lop; rw [if_neg s1, if_pos h])))
      have s3 : ¬ (lo ≤ 65535 ∧ 65535 < hi) := fun h => hb (.inr (.inr (by unfold lop; rw [if_neg s1, if_neg s2, if_pos h])))
      have s0 : ¬ hi ≤ 127 := fun h => by
        have e : lop lo hi = hi := by unfold lop; rw [if_neg s1, if_neg s2, if_neg s3, if_pos h]
        omega
      have hl := Parts.seg (a := lo) (b := hi) (by omega) s2 s3 h2 (Parts.cut h1 h2 h3 p1 p2) (Int.le_refl _) (Int.le_refl _)
      have a0 := fr_le 64 lo hi
      have b0 := fr_le 4096 lo hi
      have c0 := fr_le 262144 lo hi
      unfold phi at hl
      rw [if_neg (by omega)] at hl
      by_cases q1 : hi ≤ 2047
      · have := fr_same 4096 lo hi (by omega)
        have := fr_same 262144 lo hi (by omega)
        have d1 : dn lo = 1 := by unfold dn; rw [if_neg (by omega), if_pos (by omega)]
        have d2 : up hi = 4 := by unfold up; rw [if_neg (by omega), if_pos (by omega)]
        omega
      · by_cases q2 : hi ≤ 65535
        · have := fr_same 262144 lo hi (by omega)
          have d1 : dn lo + 5 ≤ up hi := by unfold dn up; (repeat' split) <;> omega
          omega
        · have d1 : dn lo + 7 ≤ up hi := by unfold dn up; (repeat' split) <;> omega
          omega
  | @one lo hi h1 h2 h3 =>
    intro h0 h4
    right
    have := dn_up h1 h2
    simp; omega

theorem Parts.few {lo hi : Int} {L : List (Int × Int)} (h : Parts lo hi L) (h0 : 0 ≤ lo) (h1 : hi ≤ 1114111) : L.length ≤ 21 := by
  have := dn_le lo
  have := up_le hi
  rcases h.bound h0 h1 with rfl | h
  · simp
  · omega

/-! ### What a part matches -/

/-- The ranges of bytes of a part. -/
def seqOf (p : Int × Int) : List (Int × Int) := (enc p.1).zip (enc p.2)

/-- Is a list of bytes in a sequence of ranges? -/
def inB : List Int → List (Int × Int) → Bool
  | [], [] => true
  | x :: xs, r :: rs => decide (r.1 ≤ x) && decide (x ≤ r.2) && inB xs rs
  | _, _ => false

/-- Which of the levels a part is of. -/
theorem Good.ways {a b : Int} (h : Good a b) : b ≤ 127 ∨ (128 ≤ a ∧ (a / 64 = b / 64 ∨ (a % 64 = 0 ∧ b % 64 = 63 ∧ (a / 4096 = b / 4096 ∨ (a % 4096 = 0 ∧ b % 4096 = 4095 ∧ (a / 262144 = b / 262144 ∨ (a % 262144 = 0 ∧ b % 262144 = 262143)))))) ∧
    ¬ (a ≤ 2047 ∧ 2047 < b) ∧ ¬ (a ≤ 65535 ∧ 65535 < b)) := by
  obtain ⟨h0, h1, h2, h3, h4⟩ := h
  by_cases hb : b ≤ 127
  · exact .inl hb
  · right
    unfold lop at h4
    have s1 : ¬ (a ≤ 127 ∧ 127 < b) := fun h => by rw [if_pos h] at h4; omega
    rw [if_neg s1] at h4
    have s2 : ¬ (a ≤ 2047 ∧ 2047 < b) := fun h => by rw [if_pos h] at h4; omega
    rw [if_neg s2] at h4
    have s3 : ¬ (a ≤ 65535 ∧ 65535 < b) := fun h => by rw [if_pos h] at h4; omega
    rw [if_neg s3, if_neg hb] at h4
    refine ⟨by omega, ?_, s2, s3⟩
    unfold lev at h4
    by_cases e1 : a / 64 = b / 64
    · exact .inl e1
    right
    rw [if_neg e1] at h4
    by_cases e2 : a % 64 ≠ 0
    · rw [if_pos e2] at h4; omega
    rw [if_neg e2] at h4
    by_cases e3 : b % 64 ≠ 64 - 1
    · rw [if_pos e3] at h4; omega
    rw [if_neg e3] at h4
    refine ⟨by omega, by omega, ?_⟩
    by_cases e4 : a / 4096 = b / 4096
    · exact .inl e4
    right
    rw [if_neg e4] at h4
    by_cases e5 : a % 4096 ≠ 0
    · rw [if_pos e5] at h4; omega
    rw [if_neg e5] at h4
    by_cases e6 : b % 4096 ≠ 4096 - 1
    · rw [if_pos e6] at h4; omega
    rw [if_neg e6] at h4
    refine ⟨by omega, by omega, ?_⟩
    by_cases e7 : a / 262144 = b / 262144
    · exact .inl e7
    right
    rw [if_neg e7] at h4
    by_cases e8 : a % 262144 ≠ 0
    · rw [if_pos e8] at h4; omega
    rw [if_neg e8] at h4
    by_cases e9 : b % 262144 ≠ 262144 - 1
    · rw [if_pos e9] at h4; omega
    exact ⟨by omega, by omega⟩

theorem enc1 {c : Int} (h1 : c < 128) : enc c = [c] := by unfold enc; rw [if_pos h1]
theorem enc2 {c : Int} (h0 : 128 ≤ c) (h1 : c < 2048) : enc c = [192 + c / 64, 128 + c % 64] := by unfold enc; rw [if_neg (by omega), if_pos h1]
theorem enc3 {c : Int} (h0 : 2048 ≤ c) (h1 : c < 65536) : enc c = [224 + c / 4096, 128 + c / 64 % 64, 128 + c % 64] := by unfold enc; rw [if_neg (by omega), if_neg (by omega), if_pos h1]
theorem enc4 {c : Int} (h0 : 65536 ≤ c) : enc c = [240 + c / 262144, 128 + c / 4096 % 64, 128 + c / 64 % 64, 128 + c % 64] := by unfold enc; rw [if_neg (by omega), if_neg (by omega), if_neg (by omega)]

theorem in1 (xs : List Int) (a0 b0 : Int) : inB xs [(a0, b0)] = true ↔ ∃ x, xs = [x] ∧ a0 ≤ x ∧ x ≤ b0 := by
  match xs with
  | [] => simp [inB]
  | [x] => simp [inB]
  | x :: y :: l => simp [inB]
theorem in2 (xs : List Int) (a0 b0 a1 b1 : Int) : inB xs [(a0, b0), (a1, b1)] = true ↔ ∃ x y, xs = [x, y] ∧ a0 ≤ x ∧ x ≤ b0 ∧ a1 ≤ y ∧ y ≤ b1 := by
  match xs with
  | [] => simp [inB]
  | [x] => simp [inB]
  | [x, y] => simp [inB, and_assoc]
  | x :: y :: z :: l => simp [inB]
theorem in3 (xs : List Int) (a0 b0 a1 b1 a2 b2 : Int) : inB xs [(a0, b0), (a1, b1), (a2, b2)] = true ↔ ∃ x y z, xs = [x, y, z] ∧ a0 ≤ x ∧ x ≤ b0 ∧ a1 ≤ y ∧ y ≤ b1 ∧ a2 ≤ z ∧ z ≤ b2 := by
  match xs with
  | [] => simp [inB]
  | [x] => simp [inB]
  | [x, y] => simp [inB]
  | [x, y, z] => simp [inB, and_assoc]
  | x :: y :: z :: u :: l => simp [inB]
theorem in4 (xs : List Int) (a0 b0 a1 b1 a2 b2 a3 b3 : Int) : inB xs [(a0, b0), (a1, b1), (a2, b2), (a3, b3)] = true ↔ ∃ x y z u, xs = [x, y, z, u] ∧ a0 ≤ x ∧ x ≤ b0 ∧ a1 ≤ y ∧ y ≤ b1 ∧ a2 ≤ z ∧ z ≤ b2 ∧ a3 ≤ u ∧ u ≤ b3 := by
  match xs with
  | [] => simp [inB]
  | [x] => simp [inB]
  | [x, y] => simp [inB]
  | [x, y, z] => simp [inB]
  | [x, y, z, u] => simp [inB, and_assoc]
  | x :: y :: z :: u :: v :: l => simp [inB]

theorem Good.match {a b : Int} (h : Good a b) (xs : List Int) : inB xs (seqOf (a, b)) = true ↔ ∃ c, a ≤ c ∧ c ≤ b ∧ xs = enc c := by
  have hw := h.ways
  obtain ⟨h0, h1, h2, h3, _⟩ := h
  unfold seqOf
  by_cases q1 : b ≤ 127
  · rw [enc1 (show a < 128 by omega), enc1 (show b < 128 by omega)]
    simp only [List.zip_cons_cons, List.zip_nil_right, in1]
    constructor
    · rintro ⟨x, rfl, k1, k2⟩; exact ⟨x, k1, k2, (enc1 (by omega)).symm⟩
    · rintro ⟨c, k1, k2, rfl⟩; exact ⟨c, enc1 (by omega), k1, k2⟩
  obtain ⟨g0, gw, g2, g3⟩ := hw.resolve_left q1
  by_cases q2 : b ≤ 2047
  · rw [enc2 (show 128 ≤ a by omega) (show a < 2048 by omega), enc2 (show 128 ≤ b by omega) (show b < 2048 by omega)]
    simp only [List.zip_cons_cons, List.zip_nil_right, in2]
    constructor
    · rintro ⟨x, y, rfl, k1, k2, k3, k4⟩
      refine ⟨(x - 192) * 64 + (y - 128), by omega, by omega, ?_⟩
      rw [enc2 (by omega) (by omega)]
      simp only [List.cons.injEq, and_true]
      omega
    · rintro ⟨c, k1, k2, rfl⟩
      refine ⟨_, _, enc2 (by omega) (by omega), ?_⟩
      omega
  by_cases q3 : b ≤ 65535
  · rw [enc3 (show 2048 ≤ a by omega) (show a < 65536 by omega), enc3 (show 2048 ≤ b by omega) (show b < 65536 by omega)]
    simp only [List.zip_cons_cons, List.zip_nil_right, in3]
    constructor
    · rintro ⟨x, y, z, rfl, k1, k2, k3, k4, k5, k6⟩
      refine ⟨(x - 224) * 4096 + (y - 128) * 64 + (z - 128), by omega, by omega, ?_⟩
      rw [enc3 (by omega) (by omega)]
      simp only [List.cons.injEq, and_true]
      omega
    · rintro ⟨c, k1, k2, rfl⟩
      refine ⟨_, _, _, enc3 (by omega) (by omega), ?_⟩
      omega
  · rw [enc4 (show 65536 ≤ a by omega), enc4 (show 65536 ≤ b by omega)]
    simp only [List.zip_cons_cons, List.zip_nil_right, in4]
    constructor
    · rintro ⟨x, y, z, u, rfl, k1, k2, k3, k4, k5, k6, k7, k8⟩
      refine ⟨(x - 240) * 262144 + (y - 128) * 4096 + (z - 128) * 64 + (u - 128), by omega, by omega, ?_⟩
      rw [enc4 (by omega)]
      simp only [List.cons.injEq, and_true]
      omega
    · rintro ⟨c, k1, k2, rfl⟩
      refine ⟨_, _, _, _, enc4 (by omega), ?_⟩
      omega

end Go.Proofs.Ytdcjlncbchhanaa
