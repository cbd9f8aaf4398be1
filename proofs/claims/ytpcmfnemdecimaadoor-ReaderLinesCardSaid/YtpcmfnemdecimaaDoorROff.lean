/- A text behind another one: what is read of it is what it was, further on. No condition. -/
import Derived.Test.YtpcmfnemdecimaaDoorRJoin
namespace Go.Proofs.YtpcmfnemdecimaaDoor
set_option linter.unusedVariables false
set_option linter.unusedSimpArgs false

/-- From byte m on, the text is s. -/
structure Off (s : ByteArray) (f' : Nat → Int) (m : Nat) : Prop where
  same : ∀ i, f' (i + m) = rd s i

namespace Off
variable {s : ByteArray} {f' : Nat → Int} {m : Nat} (E : Off s f' m)
include E

theorem run {P : Int → Bool} (h1 : P (-1) = false) {p : Nat} (hp : p ≤ s.size) : runEnd P f' (p + m) = runEnd P (rd s) p + m := by
  obtain ⟨hr, hq⟩ := run_at (P := P) h1 hp
  have hle := hr.le
  refine IsRun.eq ⟨by omega, fun i a b => ?_, ?_⟩
  · obtain ⟨j, rfl⟩ : ∃ j, i = j + m := ⟨i - m, by omega⟩
    rw [E.same]; exact hr.all j (by omega) (by omega)
  · rw [E.same]; exact hr.stop

theorem cut_eq {p n : Nat} : cut f' (p + m) n = cut (rd s) p n := by
  unfold cut
  apply List.map_congr_left
  intro i _
  rw [show p + m + i = p + i + m by omega, E.same]
theorem val_eq {b : Int} {p : Nat} : ∀ {n : Nat}, val b f' (p + m) n = val b (rd s) p n
  | 0 => rfl
  | n + 1 => by
    unfold val
    rw [val_eq (n := n), show p + m + n = p + n + m by omega, E.same]

theorem num {b lim : Int} (hb : b ≤ 16) {p q : Nat} {v : Int} (hp : p ≤ s.size) (h : numAt b lim (rd s) p = .ok v q) : numAt b lim f' (p + m) = .ok v (q + m) := by
  obtain ⟨hr, hq⟩ := run_at (P := isDg b) (isDg_end hb) hp
  have hle := hr.le
  unfold numAt at h ⊢
  rw [E.run (isDg_end hb) hp, show runEnd (isDg b) (rd s) p + m - (p + m) = runEnd (isDg b) (rd s) p - p by omega, E.val_eq]
  split at h
  · cases h
  · rename_i h0
    rw [if_neg (by omega)]
    split at h
    · cases h
    · rename_i h1
      rw [if_neg h1]
      cases h; rfl
theorem name {p q : Nat} {x : List Int} (hp : p ≤ s.size) (h : nameAt (rd s) p = .ok x q) : nameAt f' (p + m) = .ok x (q + m) := by
  obtain ⟨hr, hq⟩ := run_at (P := isNm) (by decide) hp
  have hle := hr.le
  unfold nameAt at h ⊢
  rw [E.run (by decide) hp, show runEnd isNm (rd s) p + m - (p + m) = runEnd isNm (rd s) p - p by omega, E.cut_eq]
  split at h
  · cases h
  · rename_i h1
    rw [if_neg h1]
    cases h; rfl
theorem quote {p q : Nat} {x : List Int} (h : quoteAt (rd s) p = .ok x q) : quoteAt f' (p + m) = .ok x (q + m) := by
  unfold quoteAt at h ⊢
  split at h
  · rename_i h1
    have hlt : p + 1 ≤ s.size := rd_lt (by omega) h1
    obtain ⟨hr, hq⟩ := run_at (P := isSt) (by decide) (s := s) (p := p + 1) hlt
    have hle := hr.le
    have e1 : runEnd isSt f' (p + m + 1) = runEnd isSt (rd s) (p + 1) + m := by
      rw [show p + m + 1 = p + 1 + m by omega]; exact E.run (by decide) hlt
    have e2 : cut f' (p + m + 1) (runEnd isSt (rd s) (p + 1) - (p + 1)) = cut (rd s) (p + 1) (runEnd isSt (rd s) (p + 1) - (p + 1)) := by
      rw [show p + m + 1 = p + 1 + m by omega]; exact E.cut_eq
    rw [E.same, if_pos h1, e1, E.same, show runEnd isSt (rd s) (p + 1) + m - (p + m + 1) = runEnd isSt (rd s) (p + 1) - (p + 1) by omega, e2]
    split at h
    · rename_i h2
      rw [if_pos h2]
      cases h
      rw [show runEnd isSt (rd s) (p + 1) + m + 1 = runEnd isSt (rd s) (p + 1) + 1 + m by omega]
    · cases h
  · cases h
theorem dig1 {p q : Nat} {lo : Int} (hp : p ≤ s.size) (h : (if isDc (rd s p) then numAt 10 200 (rd s) p else Got.ok (-1) p) = .ok lo q) : (if isDc (f' (p + m)) then numAt 10 200 f' (p + m) else Got.ok (-1) (p + m)) = .ok lo (q + m) := by
  rw [E.same]
  split at h
  · rename_i h1; rw [if_pos h1]; exact E.num (by omega) hp h
  · rename_i h1; rw [if_neg h1]; cases h; rfl
theorem count {p q : Nat} {x : Int × Int × Bool} (hp : p ≤ s.size) (h : countAt (rd s) p = .ok x q) : countAt f' (p + m) = .ok x (q + m) := by
  cases h1 : (if isDc (rd s p) then numAt 10 200 (rd s) p else Got.ok (-1) p) with
  | err c => rw [count_bad h1] at h; cases h
  | ok lo q1 =>
    have g1 := E.dig1 hp h1
    have hq1 : q1 ≤ s.size := by
      split at h1
      · exact (numAt_in (by omega) hp h1).2
      · cases h1; exact hp
    by_cases h42 : rd s q1 = 42
    · have hlt : q1 + 1 ≤ s.size := rd_lt (by omega) h42
      have h42' : f' (q1 + m) = 42 := by rw [E.same]; exact h42
      cases h2 : (if isDc (rd s (q1 + 1)) then numAt 10 200 (rd s) (q1 + 1) else Got.ok (-1) (q1 + 1)) with
      | err c => rw [count_err h1 h42 h2] at h; cases h
      | ok hi q2 =>
        have g2 := E.dig1 hlt h2
        rw [count_star h1 h42 h2] at h
        cases h
        exact count_star g1 h42' (by rw [show q1 + m + 1 = q1 + 1 + m by omega]; exact g2)
    · rw [count_no h1 h42] at h
      cases h
      exact count_no g1 (by rw [E.same]; exact h42)

theorem com {p : Nat} (hp : p ≤ s.size) : comEnd f' (p + m) = comEnd (rd s) p + m := by
  unfold comEnd
  rw [E.same]
  by_cases h : rd s p = 59
  · rw [if_pos h, if_pos h, show p + m + 1 = p + 1 + m by omega]
    exact E.run (by decide) (rd_lt (by omega) h)
  · rw [if_neg h, if_neg h]
theorem ends {p : Nat} (hp : p ≤ s.size) : lineEnd f' (p + m) = (lineEnd (rd s) p).map (· + m) := by
  unfold lineEnd
  rw [E.com hp, E.same, show comEnd (rd s) p + m + 1 = comEnd (rd s) p + 1 + m by omega, E.same]
  split
  · rfl
  · split
    · simp only [Option.map_some]
    · split
      · simp only [Option.map_some]; congr 1; omega
      · rfl

theorem skip {p : Nat} (hp : p ≤ s.size) : skipEnd f' (p + m) = skipEnd (rd s) p + m := by
  have key : ∀ {p q : Nat}, Skip (rd s) p q → p ≤ s.size → Skip f' (p + m) (q + m) := by
    intro p q h
    induction h with
    | blank hb _ ih =>
      intro hp
      have hlt := isBl_lt hb
      have := ih (by omega)
      exact .blank (by rw [E.same]; exact hb) (by rw [show ∀ a, a + m + 1 = a + 1 + m from fun a => by omega]; exact this)
    | line hn hl hb _ ih =>
      intro hp
      have hlt := isBl_lt hb
      have := ih (by omega)
      exact .line (by rw [E.same]; exact hn) (by rw [E.ends hp, hl]; rfl) (by rw [E.same]; exact hb) (by rw [show ∀ a, a + m + 1 = a + 1 + m from fun a => by omega]; exact this)
    | here hn hall =>
      intro hp
      refine .here (by rw [E.same]; exact hn) (fun e he => ?_)
      rw [E.ends hp] at he
      obtain ⟨e0, h1, rfl⟩ := Option.map_eq_some_iff.1 he
      rw [E.same]
      exact hall e0 h1
  exact Skip.eq (key (skip_at hp).1 hp)

theorem ans {k : Ask} {d p : Nat} {r : Got Tree} (h : Ans (rd s) k d p r) : goodAsk k → p ≤ s.size → ∀ t q, r = .ok t q → Ans f' k d (p + m) (.ok t (q + m)) := by
  have one : ∀ a, a + m + 1 = a + 1 + m := fun a => by omega
  have two : ∀ a, a + m + 2 = a + 2 + m := fun a => by omega
  induction h with
  | altsOk a b ih1 ih2 => intro _ hp t q e; exact .altsOk (ih1 trivial hp _ _ rfl) (ih2 trivial (a.bound trivial hp _ _ rfl).2 t q e)
  | altsErr => intro _ _ t q e; cases e
  | moreEnd h => intro _ hp t q e; cases e; exact .moreEnd (by rw [E.same]; exact h)
  | moreOk h a b ih1 ih2 =>
    intro _ hp t q e
    have hlt := rd_lt (by omega) h
    have hs := skip_at (s := s) (p := _ + 1) hlt
    exact .moreOk (by rw [E.same]; exact h) (by rw [one, E.skip hlt]; exact ih1 trivial hs.2.2 _ _ rfl) (ih2 trivial (a.bound trivial hs.2.2 _ _ rfl).2 t q e)
  | moreErr => intro _ _ t q e; cases e
  | concOk a b ih1 ih2 => intro _ hp t q e; exact .concOk (ih1 trivial hp _ _ rfl) (ih2 trivial (a.bound trivial hp _ _ rfl).2 t q e)
  | concErr => intro _ _ t q e; cases e
  | @cmoreEnd d0 p0 l0 h =>
    intro _ hp t q e
    cases e
    have := Ans.cmoreEnd (f := f') (d := d0) (p := p0 + m) (l := l0) (by rw [E.skip hp, E.same]; exact fun g => h ⟨by omega, g.2⟩)
    rwa [E.skip hp] at this
  | cmoreOk h a b ih1 ih2 =>
    intro _ hp t q e
    have hs := skip_at hp
    exact .cmoreOk (by rw [E.skip hp, E.same]; exact ⟨by have := h.1; omega, h.2⟩) (by rw [E.skip hp]; exact ih1 trivial hs.2.2 _ _ rfl) (ih2 trivial (a.bound trivial hs.2.2 _ _ rfl).2 t q e)
  | cmoreErr => intro _ _ t q e; cases e
  | repCount => intro _ _ t q e; cases e
  | repErr => intro _ _ t q e; cases e
  | repBare h a ih => intro _ hp t q e; exact .repBare (E.count hp h) (ih trivial (countAt_in hp h).2 t q e)
  | repLess => intro _ _ t q e; cases e
  | repOk h a hb ih => intro _ hp t q e; cases e; exact .repOk (E.count hp h) (ih trivial (countAt_in hp h).2 _ _ rfl) hb
  | nameOk h h2 => intro _ hp t q e; cases e; exact .nameOk (by rw [E.same]; exact h) (E.name hp h2)
  | nameErr => intro _ _ t q e; cases e
  | deep => intro _ _ t q e; cases e
  | inErr => intro _ _ t q e; cases e
  | inOpen => intro _ _ t q e; cases e
  | round h hd a hc ih =>
    intro _ hp t q e
    cases e
    have hlt := rd_lt (by omega) h
    have hs := skip_at (s := s) (p := _ + 1) hlt
    rw [← one]
    exact .round (by rw [E.same]; exact h) hd (by rw [one, E.skip hlt]; exact ih trivial hs.2.2 _ _ rfl) (by rw [E.same]; exact hc)
  | square h hd a hc ih =>
    intro _ hp t q e
    cases e
    have hlt := rd_lt (by omega) h
    have hs := skip_at (s := s) (p := _ + 1) hlt
    rw [← one]
    exact .square (by rw [E.same]; exact h) hd (by rw [one, E.skip hlt]; exact ih trivial hs.2.2 _ _ rfl) (by rw [E.same]; exact hc)
  | quoteOk h h2 => intro _ hp t q e; cases e; exact .quoteOk (by rw [E.same]; exact h) (E.quote h2)
  | quoteErr => intro _ _ t q e; cases e
  | litOk h hk h2 => intro _ hp t q e; cases e; exact .litOk (by rw [E.same]; exact h) (by rw [one, E.same]; exact hk) (by rw [two]; exact E.quote h2)
  | litErr => intro _ _ t q e; cases e
  | @value d0 p0 b0 r0 h hk a ih =>
    intro _ hp t q e
    have hlt := rd_lt (by omega) h
    have hb := kindOf_base hk
    have hp2 : p0 + 2 ≤ s.size := by
      by_cases g : p0 + 1 < s.size
      · omega
      · rw [rd_out g] at hk; cases hk
    exact .value (by rw [E.same]; exact h) (by rw [one, E.same]; exact hk) (by rw [two]; exact ih (show b0 ≤ 16 by omega) hp2 t q e)
  | valueNo => intro _ _ t q e; cases e
  | no => intro _ _ t q e; cases e
  | numsErr => intro _ _ t q e; cases e
  | spanErr => intro _ _ t q e; cases e
  | spanLess => intro _ _ t q e; cases e
  | span h1 h2 h3 h4 =>
    intro hg hp t q e
    cases e
    have hlt := rd_lt (by omega) h2
    exact .span (E.num hg hp h1) (by rw [E.same]; exact h2) (by rw [one]; exact E.num hg hlt h3) h4
  | nums h1 h2 a ih =>
    intro hg hp t q e
    exact .nums (E.num hg hp h1) (by rw [E.same]; exact h2) (ih hg (numAt_in hg hp h1).2 t q e)
  | dotsEnd h => intro _ hp t q e; cases e; exact .dotsEnd (by rw [E.same]; exact h)
  | dotsErr => intro _ _ t q e; cases e
  | dotsOk h1 h2 a ih =>
    intro hg hp t q e
    have hlt := rd_lt (by omega) h1
    exact .dotsOk (by rw [E.same]; exact h1) (by rw [one]; exact E.num hg hlt h2) (ih hg (numAt_in hg hlt h2).2 t q e)

theorem rule {p e : Nat} {x : Rule} (hp : p ≤ s.size) (h : RuleAt (rd s) p (.ok x e)) : RuleAt f' (p + m) (.ok x (e + m)) := by
  have one : ∀ a, a + m + 1 = a + 1 + m := fun a => by omega
  cases h with
  | ok hn h61 ha he =>
    rename_i q q2 x0 t0
    have h1 := nameAt_in hp hn
    have h2 := skip_at h1.2
    have hlt := rd_lt (by omega) h61
    have h3 : eqAt (rd s) q ≤ s.size := by
      unfold eqAt
      split
      · rename_i h47
        have := rd_lt (by omega) h47
        omega
      · omega
    have heq : eqAt f' (q + m) = eqAt (rd s) q + m := by
      unfold eqAt
      rw [E.skip h1.2, one, E.same]
      split <;> omega
    have hdec : decide (f' (skipEnd f' (q + m) + 1) = 47) = decide (rd s (skipEnd (rd s) q + 1) = 47) := by
      rw [E.skip h1.2, one, E.same]
    have h4 := skip_at h3
    have h5 := ha.bound trivial h4.2.2 _ _ rfl
    have h61' : f' (skipEnd f' (q + m)) = 61 := by rw [E.skip h1.2, E.same]; exact h61
    have ha' : Ans f' .alts 0 (skipEnd f' (eqAt f' (q + m))) (.ok t0 (q2 + m)) := by rw [heq, E.skip h3]; exact E.ans ha trivial h4.2.2 _ _ rfl
    have hl : lineEnd f' (q2 + m) = some (e + m) := by rw [E.ends h5.2, he]; rfl
    have := RuleAt.ok (E.name hp hn) h61' ha' hl
    rwa [hdec] at this

/-- Where rules are read in the end. -/
theorem rules {l : List Rule} {p : Nat} {r : Got (List Rule)} (h : Rules (rd s) l p r) : p ≤ s.size → ∀ L q, r = .ok L q → ∀ pre : List Rule, pre.length + L.length ≤ 500 → Rules f' (pre ++ l) (p + m) (.ok (pre ++ L) (q + m)) ∧ l.length ≤ L.length ∧ 2 * L.length + p ≤ 2 * l.length + q ∧ q ≤ s.size := by
  induction h with
  | done h => intro hp L q e pre _; cases e; exact ⟨.done (by rw [E.same]; exact h), Nat.le_refl _, by omega, hp⟩
  | empty h0 h1 h2 a ih =>
    intro hp L q e pre hl
    obtain ⟨hr1, hq1⟩ := run_at (P := isBl) (by decide) hp
    have hle := hr1.le
    have he := end_le hq1 h2
    obtain ⟨i1, i2, i3, i4⟩ := ih he.2 L q e pre hl
    refine ⟨.empty (by rw [E.same]; exact h0) (by rw [E.same]; exact h1) ?_ i1, i2, by omega, i4⟩
    rw [E.run (by decide) hp, E.ends hq1, h2]
    rfl
  | bad => intro _ L q e; cases e
  | err => intro _ L q e; cases e
  | many => intro _ L q e; cases e
  | rule h0 h1 h2 a ih =>
    intro hp L q e pre hl
    have hb := rule_bound hp h1
    have hb3 := hb.2.2 h0
    obtain ⟨i1, i2, i3, i4⟩ := ih hb.2.1 L q e pre hl
    simp only [List.length_append, List.length_cons, List.length_nil] at i2 i3
    refine ⟨.rule (by rw [E.same]; exact h0) (E.rule hp h1) (by simp; omega) (by rw [List.append_assoc]; exact i1), by omega, by omega, i4⟩

end Off

end Go.Proofs.YtpcmfnemdecimaaDoor
