/- What is read ends within the text, and not ahead of where it began. No condition. -/
import Derived.Test.YtlaglkbcladfbaaDoorRNums
namespace Go.Proofs.YtlaglkbcladfbaaDoor
open Go.RowKit
set_option linter.unusedVariables false
set_option linter.unusedSimpArgs false

theorem skip_is (s : ByteArray) : ∀ (k p : Nat), p ≤ s.size → s.size - p ≤ k → ∃ q, Skip (rd s) p q ∧ p ≤ q ∧ q ≤ s.size := by
  intro k
  induction k with
  | zero =>
    intro p hp hk
    refine ⟨p, .here (by rw [rd_out (by omega)]; decide) (fun e he => ?_), Nat.le_refl _, hp⟩
    have := end_le hp he
    rw [rd_out (by omega)]
    decide
  | succ k ih =>
    intro p hp hk
    cases hb : isBl (rd s p)
    · cases hl : lineEnd (rd s) p with
      | none => exact ⟨p, .here hb (fun e he => by rw [hl] at he; cases he), Nat.le_refl _, hp⟩
      | some e =>
        cases he : isBl (rd s e)
        · exact ⟨p, .here hb (fun e' he' => by rw [hl] at he'; cases he'; exact he), Nat.le_refl _, hp⟩
        · have h1 := end_le hp hl
          have h2 := isBl_lt he
          obtain ⟨q, hs, h3, h4⟩ := ih (e + 1) (by omega) (by omega)
          exact ⟨q, .line hb hl he hs, by omega, h4⟩
    · have h2 := isBl_lt hb
      obtain ⟨q, hs, h3, h4⟩ := ih (p + 1) (by omega) (by omega)
      exact ⟨q, .blank hb hs, by omega, h4⟩

theorem skip_at {s : ByteArray} {p : Nat} (hp : p ≤ s.size) : Skip (rd s) p (skipEnd (rd s) p) ∧ p ≤ skipEnd (rd s) p ∧ skipEnd (rd s) p ≤ s.size := by
  obtain ⟨q, hs, h1, h2⟩ := skip_is s _ p hp (Nat.le_refl _)
  rw [hs.eq]
  exact ⟨hs, h1, h2⟩

theorem isDg_end {b : Int} (hb : b ≤ 16) : isDg b (-1) = false := by
  unfold isDg dig
  simp
  exact hb

theorem numAt_in {b lim : Int} {s : ByteArray} {p q : Nat} {v : Int} (hb : b ≤ 16) (hp : p ≤ s.size) (h : numAt b lim (rd s) p = .ok v q) : p < q ∧ q ≤ s.size := numAt_lt (isDg_end hb) hp h

theorem nameAt_in {s : ByteArray} {p q : Nat} {x : List Int} (hp : p ≤ s.size) (h : nameAt (rd s) p = .ok x q) : p ≤ q ∧ q ≤ s.size := by
  obtain ⟨hr, hq⟩ := run_at (P := isNm) (by decide) hp
  have hle := hr.le
  unfold nameAt at h
  split at h
  · cases h
  · cases h; omega

theorem quoteAt_in {s : ByteArray} {p q : Nat} {x : List Int} (h : quoteAt (rd s) p = .ok x q) : p < q ∧ q ≤ s.size := by
  unfold quoteAt at h
  split at h
  · rename_i h1
    have hlt := rd_lt (by omega) h1
    obtain ⟨hr, hq⟩ := run_at (P := isSt) (by decide) (s := s) (p := p + 1) (by omega)
    have hle := hr.le
    split at h
    · rename_i h2
      have hlt2 := rd_lt (by omega) h2
      cases h; omega
    · cases h
  · cases h

theorem countAt_in {s : ByteArray} {p q : Nat} {x : Int × Int × Bool} (hp : p ≤ s.size) (h : countAt (rd s) p = .ok x q) : p ≤ q ∧ q ≤ s.size := by
  have first : ∀ lo q, (if isDc (rd s p) then numAt 10 200 (rd s) p else .ok (-1) p) = .ok lo q → p ≤ q ∧ q ≤ s.size := by
    intro lo q h
    split at h
    · have := numAt_in (by omega) hp h; omega
    · cases h; omega
  unfold countAt at h
  cases h1 : (if isDc (rd s p) then numAt 10 200 (rd s) p else .ok (-1) p) with
  | err c => rw [h1] at h; cases h
  | ok lo q1 =>
    rw [h1] at h
    have hq1 := first lo q1 h1
    simp only at h
    split at h
    · rename_i h42
      have hlt := rd_lt (by omega) h42
      cases h2 : (if isDc (rd s (q1 + 1)) then numAt 10 200 (rd s) (q1 + 1) else .ok (-1) (q1 + 1)) with
      | err c => rw [h2] at h; cases h
      | ok hi q2 =>
        rw [h2] at h
        simp only at h
        cases h
        split at h2
        · have := numAt_in (by omega) (by omega) h2; omega
        · cases h2; omega
    · cases h; exact hq1

theorem kindOf_base {c b : Int} (h : kindOf c = .base b) : b = 2 ∨ b = 10 ∨ b = 16 := by
  unfold kindOf at h
  (repeat' split at h) <;> cases h <;> simp

/-- What may be asked for, in a base that is not above 16. -/
def goodAsk : Ask → Prop
  | .nums b => b ≤ 16
  | .dots b _ => b ≤ 16
  | _ => True

theorem Ans.bound {s : ByteArray} {k : Ask} {d p : Nat} {r : Got Tree} (h : Ans (rd s) k d p r) : goodAsk k → p ≤ s.size → ∀ t q, r = .ok t q → p ≤ q ∧ q ≤ s.size := by
  induction h with
  | altsOk _ _ ih1 ih2 =>
    intro _ hp t q e
    have h1 := ih1 trivial hp _ _ rfl
    have h2 := ih2 trivial h1.2 t q e
    omega
  | altsErr => intro _ _ t q e; cases e
  | moreEnd => intro _ hp t q e; cases e; omega
  | moreOk h1 _ _ ih1 ih2 =>
    intro _ hp t q e
    have hlt := rd_lt (by omega) h1
    have hs := skip_at (s := s) (p := _ + 1) hlt
    have h1 := ih1 trivial hs.2.2 _ _ rfl
    have h2 := ih2 trivial h1.2 t q e
    omega
  | moreErr => intro _ _ t q e; cases e
  | concOk _ _ ih1 ih2 =>
    intro _ hp t q e
    have h1 := ih1 trivial hp _ _ rfl
    have h2 := ih2 trivial h1.2 t q e
    omega
  | concErr => intro _ _ t q e; cases e
  | cmoreEnd =>
    intro _ hp t q e
    cases e
    exact (skip_at hp).2
  | cmoreOk h1 _ _ ih1 ih2 =>
    intro _ hp t q e
    have hs := skip_at hp
    have h1 := ih1 trivial hs.2.2 _ _ rfl
    have h2 := ih2 trivial h1.2 t q e
    omega
  | cmoreErr => intro _ _ t q e; cases e
  | repCount => intro _ _ t q e; cases e
  | repErr => intro _ _ t q e; cases e
  | repBare hc _ ih =>
    intro _ hp t q e
    have h1 := countAt_in hp hc
    have h2 := ih trivial h1.2 t q e
    omega
  | repLess => intro _ _ t q e; cases e
  | repOk hc _ _ ih =>
    intro _ hp t q e
    have h1 := countAt_in hp hc
    cases e
    have h2 := ih trivial h1.2 _ _ rfl
    omega
  | nameOk _ hn => intro _ hp t q e; cases e; exact nameAt_in hp hn
  | nameErr => intro _ _ t q e; cases e
  | deep => intro _ _ t q e; cases e
  | inErr => intro _ _ t q e; cases e
  | inOpen => intro _ _ t q e; cases e
  | round h1 _ _ h4 ih =>
    intro _ hp t q e
    cases e
    have hlt := rd_lt (by omega) h1
    have hs := skip_at (s := s) (p := _ + 1) hlt
    have h2 := ih trivial hs.2.2 _ _ rfl
    have hlt4 := rd_lt (by omega) h4
    omega
  | square h1 _ _ h4 ih =>
    intro _ hp t q e
    cases e
    have hlt := rd_lt (by omega) h1
    have hs := skip_at (s := s) (p := _ + 1) hlt
    have h2 := ih trivial hs.2.2 _ _ rfl
    have hlt4 := rd_lt (by omega) h4
    omega
  | quoteOk _ hq => intro _ hp t q e; cases e; have := quoteAt_in hq; omega
  | quoteErr => intro _ _ t q e; cases e
  | litOk _ _ hq => intro _ hp t q e; cases e; have := quoteAt_in hq; omega
  | litErr => intro _ _ t q e; cases e
  | @value d0 p0 b0 r0 h1 hk hn ih =>
    intro _ hp t q e
    have hb := kindOf_base hk
    have hlt := rd_lt (by omega) h1
    by_cases h2 : p0 + 1 < s.size
    · have := ih (show b0 ≤ 16 by omega) h2 t q e
      omega
    · exfalso
      rw [rd_out h2] at hk
      unfold kindOf at hk
      simp at hk
  | valueNo => intro _ _ t q e; cases e
  | no => intro _ _ t q e; cases e
  | numsErr => intro _ _ t q e; cases e
  | spanErr => intro _ _ t q e; cases e
  | spanLess => intro _ _ t q e; cases e
  | span h1 h2 h3 h4 =>
    intro hg hp t q e
    cases e
    have g1 := numAt_in hg hp h1
    have hlt := rd_lt (by omega) h2
    have g2 := numAt_in hg hlt h3
    omega
  | nums h1 h2 _ ih =>
    intro hg hp t q e
    have g1 := numAt_in hg hp h1
    have g2 := ih hg g1.2 t q e
    omega
  | dotsEnd => intro _ hp t q e; cases e; omega
  | dotsErr => intro _ _ t q e; cases e
  | dotsOk h1 h2 _ ih =>
    intro hg hp t q e
    have hlt := rd_lt (by omega) h1
    have g1 := numAt_in hg hlt h2
    have g2 := ih hg g1.2 t q e
    omega

end Go.Proofs.YtlaglkbcladfbaaDoor
