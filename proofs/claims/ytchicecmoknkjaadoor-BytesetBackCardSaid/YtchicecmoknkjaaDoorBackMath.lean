/- Plain facts on the ranges of a set: each rises, with a gap between two, and together they hold the set's bytes; no condition. -/
import Derived.Test.YtchicecmoknkjaaDoorList
namespace Go.Proofs.YtchicecmoknkjaaDoor
open Go.RowKit

/-- Does one of the ranges hold b? -/
def inR (l : List (Nat × Nat)) (b : Nat) : Bool := l.any fun r => decide (r.1 ≤ b) && decide (b ≤ r.2)

theorem inR_snoc (l : List (Nat × Nat)) (r : Nat × Nat) (b : Nat) : inR (l ++ [r]) b = (inR l b || (decide (r.1 ≤ b) && decide (b ≤ r.2))) := by simp [inR]

/-- Each range rises and ends ahead of k; between two there is a gap. -/
def GoodR (k : Nat) (l : List (Nat × Nat)) : Prop := (∀ r ∈ l, r.1 ≤ r.2 ∧ r.2 < k) ∧ l.Pairwise (fun p r => p.2 + 1 < r.1)

theorem GoodR.ext {k : Nat} {l : List (Nat × Nat)} (h : GoodR k l) : GoodR (k + 1) (ext l k) := by
  rcases List.eq_nil_or_concat l with rfl | ⟨l', r, rfl⟩
  · simp [ext_nil, GoodR]
  · rw [List.concat_eq_append] at h ⊢
    obtain ⟨h1, h2⟩ := h
    rw [List.pairwise_append] at h2
    obtain ⟨p1, _, p3⟩ := h2
    have hr := h1 r (by simp)
    by_cases hk : r.2 + 1 = k
    · rw [ext_yes _ _ _ hk]
      refine ⟨?_, ?_⟩
      · intro q hq
        rcases List.mem_append.1 hq with hq | hq
        · have := h1 q (List.mem_append.2 (.inl hq)); omega
        · simp at hq; subst hq; simp; omega
      · rw [List.pairwise_append]
        refine ⟨p1, by simp, ?_⟩
        intro q hq s hs
        simp at hs; subst hs
        exact p3 q hq r (by simp)
    · rw [ext_no _ _ _ hk]
      refine ⟨?_, ?_⟩
      · intro q hq
        rcases List.mem_append.1 hq with hq | hq
        · have := h1 q hq; omega
        · simp at hq; subst hq; simp
      · rw [List.pairwise_append]
        refine ⟨by rw [List.pairwise_append]; exact ⟨p1, by simp, p3⟩, by simp, ?_⟩
        intro q hq s hs
        simp at hs; subst hs
        rcases List.mem_append.1 hq with hq | hq
        · have a := p3 q hq r (by simp); simp; omega
        · simp at hq; subst hq; simp; omega

theorem inR_ext {k : Nat} {l : List (Nat × Nat)} (h : GoodR k l) (b : Nat) : inR (ext l k) b = (inR l b || b == k) := by
  rcases List.eq_nil_or_concat l with rfl | ⟨l', r, rfl⟩
  · simp only [ext_nil, inR]
    rw [Bool.eq_iff_iff]; simp; omega
  · rw [List.concat_eq_append] at h ⊢
    have hr := h.1 r (by simp)
    by_cases hk : r.2 + 1 = k
    · rw [ext_yes _ _ _ hk, inR_snoc, inR_snoc, Bool.or_assoc]
      congr 1
      rw [Bool.eq_iff_iff]; simp; omega
    · rw [ext_no _ _ _ hk, inR_snoc]
      congr 1
      rw [Bool.eq_iff_iff]; simp; omega

theorem rgs_good (f : Nat → Bool) : ∀ k, GoodR k (rgs f k)
  | 0 => by simp [rgs, GoodR]
  | k + 1 => by
    have ih := rgs_good f k
    unfold rgs
    split
    · exact ih.ext
    · exact ⟨fun r hr => by have := ih.1 r hr; omega, ih.2⟩

theorem rgs_in (f : Nat → Bool) (b : Nat) : ∀ k, inR (rgs f k) b = (decide (b < k) && f b)
  | 0 => by simp [rgs, inR]
  | k + 1 => by
    have ih := rgs_in f b k
    unfold rgs
    cases hf : f k with
    | true =>
      simp only [if_true]
      rw [inR_ext (rgs_good f k), ih]
      by_cases hb : b = k
      · subst hb; simp [hf]
      · have e : decide (b < k) = decide (b < k + 1) := by rw [Bool.eq_iff_iff]; simp; omega
        simp [hb, e]
    | false =>
      simp only [Bool.false_eq_true, if_false]
      rw [ih]
      by_cases hb : b = k
      · subst hb; simp [hf]
      · have e : decide (b < k) = decide (b < k + 1) := by rw [Bool.eq_iff_iff]; simp; omega
        rw [e]

theorem good_at {k : Nat} {l : List (Nat × Nat)} (h : GoodR k l) (i : Nat) (hi : i < l.length) : l[i].1 ≤ l[i].2 ∧ l[i].2 < k := h.1 _ (List.getElem_mem hi)

theorem good_gap {k : Nat} {l : List (Nat × Nat)} (h : GoodR k l) (i : Nat) (hi : i + 1 < l.length) : (l[i]'(by omega)).2 + 1 < l[i + 1].1 :=
  (List.pairwise_iff_getElem.1 h.2) i (i + 1) (by omega) hi (by omega)

theorem inR_take (l : List (Nat × Nat)) (i : Nat) (hi : i < l.length) (b : Nat) : inR (l.take (i + 1)) b = (inR (l.take i) b || (decide (l[i].1 ≤ b) && decide (b ≤ l[i].2))) := by
  rw [List.take_succ_eq_append_getElem hi, inR_snoc]

end Go.Proofs.YtchicecmoknkjaaDoor
