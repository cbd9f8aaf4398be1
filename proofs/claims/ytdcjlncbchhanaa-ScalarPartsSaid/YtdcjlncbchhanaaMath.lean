/- Plain facts on UTF-8: the bytes of a scalar value, how a range of them is cut into parts, what each part's ranges of bytes match. No condition. -/
namespace Go.Proofs.Ytdcjlncbchhanaa

/-- The bytes of a scalar value. -/
def enc (c : Int) : List Int :=
  if c < 128 then [c] else if c < 2048 then [192 + c / 64, 128 + c % 64]
  else if c < 65536 then [224 + c / 4096, 128 + c / 64 % 64, 128 + c % 64]
  else [240 + c / 262144, 128 + c / 4096 % 64, 128 + c / 64 % 64, 128 + c % 64]

/-- Is a number a scalar value? -/
def Sc (c : Int) : Prop := (0 ≤ c ∧ c < 55296) ∨ (57343 < c ∧ c ≤ 1114111)

/-- Of the ways at one level: the last number of the part, or that of the next level. -/
def lev (m lo hi k : Int) : Int :=
  if lo / m = hi / m then hi else if lo % m ≠ 0 then lo / m * m + (m - 1) else if hi % m ≠ m - 1 then hi / m * m - 1 else k

/-- The last number of the first part of a range. -/
def lop (lo hi : Int) : Int :=
  if lo ≤ 127 ∧ 127 < hi then 127
  else if lo ≤ 2047 ∧ 2047 < hi then 2047
  else if lo ≤ 65535 ∧ 65535 < hi then 65535
  else if hi ≤ 127 then hi
  else lev 64 lo hi (lev 4096 lo hi (lev 262144 lo hi hi))

/-- The parts into which a range is cut. -/
inductive Parts : Int → Int → List (Int × Int) → Prop
  | none {lo hi : Int} : hi < lo → Parts lo hi []
  | gap {lo hi : Int} {A B : List (Int × Int)} : lo ≤ hi → lo ≤ 57343 → 55296 ≤ hi → Parts lo 55295 A → Parts 57344 hi B → Parts lo hi (A ++ B)
  | cut {lo hi : Int} {A B : List (Int × Int)} : lo ≤ hi → ¬ (lo ≤ 57343 ∧ 55296 ≤ hi) → lop lo hi < hi → Parts lo (lop lo hi) A → Parts (lop lo hi + 1) hi B → Parts lo hi (A ++ B)
  | one {lo hi : Int} : lo ≤ hi → ¬ (lo ≤ 57343 ∧ 55296 ≤ hi) → ¬ lop lo hi < hi → Parts lo hi [(lo, hi)]

/-- One part as it is. -/
def Good (a b : Int) : Prop := 0 ≤ a ∧ a ≤ b ∧ b ≤ 1114111 ∧ ¬ (a ≤ 57343 ∧ 55296 ≤ b) ∧ ¬ lop a b < b

theorem lop_lo {lo hi : Int} (h0 : 0 ≤ lo) (h : lo ≤ hi) : lo ≤ lop lo hi := by
  unfold lop lev
  repeat' split
  all_goals omega

theorem lop_hi {lo hi : Int} (h : lo ≤ hi) : lop lo hi ≤ hi := by
  unfold lop lev
  repeat' split
  all_goals omega

theorem Parts.good {lo hi : Int} {L : List (Int × Int)} (h : Parts lo hi L) : 0 ≤ lo → hi ≤ 1114111 → ∀ p ∈ L, Good p.1 p.2 := by
  induction h with
  | none _ => intro _ _ p hp; simp at hp
  | gap h1 h2 h3 _ _ ih1 ih2 =>
    intro h0 h4 p hp
    rcases List.mem_append.1 hp with hp | hp
    · exact ih1 h0 (by omega) p hp
    · exact ih2 (by omega) h4 p hp
  | cut h1 h2 h3 _ _ ih1 ih2 =>
    intro h0 h4 p hp
    have := lop_lo h0 h1
    rcases List.mem_append.1 hp with hp | hp
    · exact ih1 h0 (by omega) p hp
    · exact ih2 (by omega) h4 p hp
  | one h1 h2 h3 =>
    intro h0 h4 p hp
    simp at hp
    subst hp
    exact ⟨h0, h1, h4, h2, h3⟩

/-- Is c in this part? -/
def within (c : Int) (p : Int × Int) : Bool := decide (p.1 ≤ c ∧ c ≤ p.2)

theorem Parts.count {lo hi : Int} {L : List (Int × Int)} (h : Parts lo hi L) (c : Int) (hc : Sc c) : 0 ≤ lo → L.countP (within c) = if lo ≤ c ∧ c ≤ hi then 1 else 0 := by
  unfold Sc at hc
  induction h with
  | none h1 => intro _; rw [if_neg (by omega)]; rfl
  | @gap lo hi _ _ h1 h2 h3 _ _ ih1 ih2 =>
    intro h0
    rw [List.countP_append, ih1 h0, ih2 (by omega)]
    by_cases h : lo ≤ c ∧ c ≤ hi
    · rw [if_pos h]
      by_cases h' : c ≤ 55295
      · rw [if_pos (by omega), if_neg (by omega)]
      · rw [if_neg (by omega), if_pos (by omega)]
    · rw [if_neg h, if_neg (by omega), if_neg (by omega)]
  | @cut lo hi _ _ h1 h2 h3 _ _ ih1 ih2 =>
    intro h0
    have h4 := lop_lo h0 h1
    rw [List.countP_append, ih1 h0, ih2 (by omega)]
    by_cases h : lo ≤ c ∧ c ≤ hi
    · rw [if_pos h]
      by_cases h' : c ≤ lop lo hi
      · rw [if_pos (by omega), if_neg (by omega)]
      · rw [if_neg (by omega), if_pos (by omega)]
    · rw [if_neg h, if_neg (by omega), if_neg (by omega)]
  | @one lo hi h1 h2 h3 =>
    intro _
    by_cases h : lo ≤ c ∧ c ≤ hi <;> simp [within, h]

theorem Parts.len {lo hi : Int} {L : List (Int × Int)} (h : Parts lo hi L) : 0 ≤ lo → (L.length : Int) ≤ max 0 (hi - lo + 1) := by
  induction h with
  | none h1 => intro _; simp; omega
  | gap h1 h2 h3 _ _ ih1 ih2 =>
    intro h0
    have := ih1 h0
    have := ih2 (by omega)
    rw [List.length_append]; omega
  | cut h1 h2 h3 _ _ ih1 ih2 =>
    intro h0
    have := lop_lo h0 h1
    have := ih1 h0
    have := ih2 (by omega)
    rw [List.length_append]; omega
  | one h1 h2 h3 => intro _; simp; omega

/-! ### At most so many parts -/

/-- How many cuts a level may still want. -/
def fr (m lo hi : Int) : Int := (if lo / m ≠ hi / m ∧ lo % m ≠ 0 then 1 else 0) + (if lo / m ≠ hi / m ∧ hi % m ≠ m - 1 then 1 else 0)
def phi (lo hi : Int) : Int := if hi < lo then 0 else 1 + fr 64 lo hi + fr 4096 lo hi + fr 262144 lo hi

theorem fr_le (m lo hi : Int) : 0 ≤ fr m lo hi ∧ fr m lo hi ≤ 2 := by unfold fr; split <;> split <;> omega
theorem fr_same (m lo hi : Int) (h : lo / m = hi / m) : fr m lo hi = 0 := by unfold fr; simp [h]

theorem frlo_64_64 (lo hi x : Int) (hx : x = lo / 64 * 64 + 63 + 1) (h1 : lo / 64 ≠ hi / 64) (h2 : lo % 64 ≠ 0) (h3 : lo ≤ hi) : fr 64 x hi ≤ fr 64 lo hi - 1 := by
  unfold fr; split <;> split <;> split <;> split <;> omega
theorem frhi_64_64 (lo hi y : Int) (hy : y = hi / 64 * 64 - 1) (h1 : lo / 64 ≠ hi / 64) (h2 : hi % 64 ≠ 63) (h3 : lo ≤ hi) : fr 64 lo y ≤ fr 64 lo hi - 1 := by
  unfold fr; split <;> split <;> split <;> split <;> omega
theorem frlo_64_4096 (lo hi x : Int) (hx : x = lo / 64 * 64 + 63 + 1) (h1 : lo / 64 ≠ hi / 64) (h2 : lo % 64 ≠ 0) (h3 : lo ≤ hi) : fr 4096 x hi ≤ fr 4096 lo hi := by
  unfold fr; split <;> split <;> split <;> split <;> omega
theorem frhi_64_4096 (lo hi y : Int) (hy : y = hi / 64 * 64 - 1) (h1 : lo / 64 ≠ hi / 64) (h2 : hi % 64 ≠ 63) (h3 : lo ≤ hi) : fr 4096 lo y ≤ fr 4096 lo hi := by
  unfold fr; split <;> split <;> split <;> split <;> omega
theorem frlo_64_262144 (lo hi x : Int) (hx : x = lo / 64 * 64 + 63 + 1) (h1 : lo / 64 ≠ hi / 64) (h2 : lo % 64 ≠ 0) (h3 : lo ≤ hi) : fr 262144 x hi ≤ fr 262144 lo hi := by
  unfold fr; split <;> split <;> split <;> split <;> omega
theorem frhi_64_262144 (lo hi y : Int) (hy : y = hi / 64 * 64 - 1) (h1 : lo / 64 ≠ hi / 64) (h2 : hi % 64 ≠ 63) (h3 : lo ≤ hi) : fr 262144 lo y ≤ fr 262144 lo hi := by
  unfold fr; split <;> split <;> split <;> split <;> omega
theorem frlo_4096_4096 (lo hi x : Int) (hx : x = lo / 4096 * 4096 + 4095 + 1) (h1 : lo / 4096 ≠ hi / 4096) (h2 : lo % 4096 ≠ 0) (h3 : lo ≤ hi) : fr 4096 x hi ≤ fr 4096 lo hi - 1 := by
  unfold fr; split <;> split <;> split <;> split <;> omega
theorem frhi_4096_4096 (lo hi y : Int) (hy : y = hi / 4096 * 4096 - 1) (h1 : lo / 4096 ≠ hi / 4096) (h2 : hi % 4096 ≠ 4095) (h3 : lo ≤ hi) : fr 4096 lo y ≤ fr 4096 lo hi - 1 := by
  unfold fr; split <;> split <;> split <;> split <;> omega
theorem frlo_4096_262144 (lo hi x : Int) (hx : x = lo / 4096 * 4096 + 4095 + 1) (h1 : lo / 4096 ≠ hi / 4096) (h2 : lo % 4096 ≠ 0) (h3 : lo ≤ hi) : fr 262144 x hi ≤ fr 262144 lo hi := by
  unfold fr; split <;> split <;> split <;> split <;> omega
theorem frhi_4096_262144 (lo hi y : Int) (hy : y = hi / 4096 * 4096 - 1) (h1 : lo / 4096 ≠ hi / 4096) (h2 : hi % 4096 ≠ 4095) (h3 : lo ≤ hi) : fr 262144 lo y ≤ fr 262144 lo hi := by
  unfold fr; split <;> split <;> split <;> split <;> omega
theorem frlo_262144_262144 (lo hi x : Int) (hx : x = lo / 262144 * 262144 + 262143 + 1) (h1 : lo / 262144 ≠ hi / 262144) (h2 : lo % 262144 ≠ 0) (h3 : lo ≤ hi) : fr 262144 x hi ≤ fr 262144 lo hi - 1 := by
  unfold fr; split <;> split <;> split <;> split <;> omega
theorem frhi_262144_262144 (lo hi y : Int) (hy : y = hi / 262144 * 262144 - 1) (h1 : lo / 262144 ≠ hi / 262144) (h2 : hi % 262144 ≠ 262143) (h3 : lo ≤ hi) : fr 262144 lo y ≤ fr 262144 lo hi - 1 := by
  unfold fr; split <;> split <;> split <;> split <;> omega

/-- Lower levels of a part that ends where its block ends, or begins where it begins. -/
theorem fr_zero (m lo hi : Int) (h1 : lo % m = 0) (h2 : hi % m = m - 1) : fr m lo hi = 0 := by unfold fr; simp [h1, h2]

/-- Within one segment a cut costs nothing. -/
theorem cut_phi (lo hi : Int) (h : lo ≤ hi) (hb : 128 ≤ lo) (hs : ¬ (lo ≤ 2047 ∧ 2047 < hi)) (hs' : ¬ (lo ≤ 65535 ∧ 65535 < hi)) (hm : lop lo hi < hi) :
    phi lo (lop lo hi) + phi (lop lo hi + 1) hi ≤ phi lo hi := by
  have e : lop lo hi = lev 64 lo hi (lev 4096 lo hi (lev 262144 lo hi hi)) := by
    unfold lop
    rw [if_neg (by omega), if_neg hs, if_neg hs', if_neg (by omega)]
  rw [e] at hm ⊢
  have a0 := fr_le 64 lo hi
  have b0 := fr_le 4096 lo hi
  have c0 := fr_le 262144 lo hi
  unfold lev at hm ⊢
  by_cases h1 : lo / 64 = hi / 64
  · rw [if_pos h1] at hm; omega
  rw [if_neg h1] at hm ⊢
  by_cases h2 : lo % 64 ≠ 0
  · rw [if_pos h2] at hm ⊢
    have k1 := fr_same 64 lo (lo / 64 * 64 + (64 - 1)) (by omega)
    have k2 := fr_same 4096 lo (lo / 64 * 64 + (64 - 1)) (by omega)
    have k3 := fr_same 262144 lo (lo / 64 * 64 + (64 - 1)) (by omega)
    have j1 := frlo_64_64 lo hi (lo / 64 * 64 + (64 - 1) + 1) (by omega) h1 h2 h
    have j2 := frlo_64_4096 lo hi (lo / 64 * 64 + (64 - 1) + 1) (by omega) h1 h2 h
    have j3 := frlo_64_262144 lo hi (lo / 64 * 64 + (64 - 1) + 1) (by omega) h1 h2 h
    unfold phi
    rw [if_neg (by omega), if_neg (by omega), if_neg (by omega)]
    omega
  rw [if_neg h2] at hm ⊢
  by_cases h3 : hi % 64 ≠ 64 - 1
  · rw [if_pos h3] at hm ⊢
    have k1 := fr_same 64 (hi / 64 * 64 - 1 + 1) hi (by omega)
    have k2 := fr_same 4096 (hi / 64 * 64 - 1 + 1) hi (by omega)
    have k3 := fr_same 262144 (hi / 64 * 64 - 1 + 1) hi (by omega)
    have j1 := frhi_64_64 lo hi (hi / 64 * 64 - 1) (by omega) h1 h3 h
    have j2 := frhi_64_4096 lo hi (hi / 64 * 64 - 1) (by omega) h1 h3 h
    have j3 := frhi_64_262144 lo hi (hi / 64 * 64 - 1) (by omega) h1 h3 h
    unfold phi
    rw [if_neg (by omega), if_neg (by omega), if_neg (by omega)]
    omega
  rw [if_neg h3] at hm ⊢
  by_cases h4 : lo / 4096 = hi / 4096
  · rw [if_pos h4] at hm; omega
  rw [if_neg h4] at hm ⊢
  by_cases h5 : lo % 4096 ≠ 0
  · rw [if_pos h5] at hm ⊢
    have k1 := fr_zero 64 lo (lo / 4096 * 4096 + (4096 - 1)) (by omega) (by omega)
    have k2 := fr_same 4096 lo (lo / 4096 * 4096 + (4096 - 1)) (by omega)
    have k3 := fr_same 262144 lo (lo / 4096 * 4096 + (4096 - 1)) (by omega)
    have j1 := fr_zero 64 (lo / 4096 * 4096 + (4096 - 1) + 1) hi (by omega) (by omega)
    have j2 := frlo_4096_4096 lo hi (lo / 4096 * 4096 + (4096 - 1) + 1) (by omega) h4 h5 h
    have j3 := frlo_4096_262144 lo hi (lo / 4096 * 4096 + (4096 - 1) + 1) (by omega) h4 h5 h
    unfold phi
    rw [if_neg (by omega), if_neg (by omega), if_neg (by omega)]
    omega
  rw [if_neg h5] at hm ⊢
  by_cases h6 : hi % 4096 ≠ 4096 - 1
  · rw [if_pos h6] at hm ⊢
    have k1 := fr_zero 64 (hi / 4096 * 4096 - 1 + 1) hi (by omega) (by omega)
    have k2 := fr_same 4096 (hi / 4096 * 4096 - 1 + 1) hi (by omega)
    have k3 := fr_same 262144 (hi / 4096 * 4096 - 1 + 1) hi (by omega)
    have j1 := fr_zero 64 lo (hi / 4096 * 4096 - 1) (by omega) (by omega)
    have j2 := frhi_4096_4096 lo hi (hi / 4096 * 4096 - 1) (by omega) h4 h6 h
    have j3 := frhi_4096_262144 lo hi (hi / 4096 * 4096 - 1) (by omega) h4 h6 h
    unfold phi
    rw [if_neg (by omega), if_neg (by omega), if_neg (by omega)]
    omega
  rw [if_neg h6] at hm ⊢
  by_cases h7 : lo / 262144 = hi / 262144
  · rw [if_pos h7] at hm; omega
  rw [if_neg h7] at hm ⊢
  by_cases h8 : lo % 262144 ≠ 0
  · rw [if_pos h8] at hm ⊢
    have k1 := fr_zero 64 lo (lo / 262144 * 262144 + (262144 - 1)) (by omega) (by omega)
    have k2 := fr_zero 4096 lo (lo / 262144 * 262144 + (262144 - 1)) (by omega) (by omega)
    have k3 := fr_same 262144 lo (lo / 262144 * 262144 + (262144 - 1)) (by omega)
    have j1 := fr_zero 64 (lo / 262144 * 262144 + (262144 - 1) + 1) hi (by omega) (by omega)
    have j2 := fr_zero 4096 (lo / 262144 * 262144 + (262144 - 1) + 1) hi (by omega) (by omega)
    have j3 := frlo_262144_262144 lo hi (lo / 262144 * 262144 + (262144 - 1) + 1) (by omega) h7 h8 h
    unfold phi
    rw [if_neg (by omega), if_neg (by omega), if_neg (by omega)]
    omega
  rw [if_neg h8] at hm ⊢
  by_cases h9 : hi % 262144 ≠ 262144 - 1
  · rw [if_pos h9] at hm ⊢
    have k1 := fr_zero 64 (hi / 262144 * 262144 - 1 + 1) hi (by omega) (by omega)
    have k2 := fr_zero 4096 (hi / 262144 * 262144 - 1 + 1) hi (by omega) (by omega)
    have k3 := fr_same 262144 (hi / 262144 * 262144 - 1 + 1) hi (by omega)
    have j1 := fr_zero 64 lo (hi / 262144 * 262144 - 1) (by omega) (by omega)
    have j2 := fr_zero 4096 lo (hi / 262144 * 262144 - 1) (by omega) (by omega)
    have j3 := frhi_262144_262144 lo hi (hi / 262144 * 262144 - 1) (by omega) h7 h9 h
    unfold phi
    rw [if_neg (by omega), if_neg (by omega), if_neg (by omega)]
    omega
  rw [if_neg h9] at hm
  omega

end Go.Proofs.Ytdcjlncbchhanaa
