/- Texts one behind the other: what is read of the first one stays what it is, and so does what is read of the second one. No condition. -/
import Derived.Test.YtpcmfnemdecimaaDoorROne
namespace Go.Proofs.YtpcmfnemdecimaaDoor
set_option linter.unusedVariables false
set_option linter.unusedSimpArgs false

/-- A text that goes on behind n bytes with a line's end, behind which no blank comes. -/
structure Ext (s : ByteArray) (f' : Nat → Int) : Prop where
  same : ∀ i, i < s.size → f' i = rd s i
  nl : f' s.size = 10
  nb : isBl (f' (s.size + 1)) = false

namespace Ext
variable {s : ByteArray} {f' : Nat → Int} (E : Ext s f')
include E

/-- A test that neither the end nor a line's end passes. -/
theorem test {P : Int → Bool} (h1 : P (-1) = false) (h2 : P 10 = false) {i : Nat} (hi : i ≤ s.size) : P (f' i) = P (rd s i) := by
  by_cases h : i < s.size
  · rw [E.same i h]
  · obtain rfl : i = s.size := by omega
    rw [E.nl, rd_out (by omega), h1, h2]
theorem eqv {c : Int} (h1 : c ≠ -1) (h2 : c ≠ 10) {i : Nat} (hi : i ≤ s.size) : f' i = c ↔ rd s i = c := by
  by_cases h : i < s.size
  · rw [E.same i h]
  · obtain rfl : i = s.size := by omega
    rw [E.nl, rd_out (by omega)]
    omega

theorem run {P : Int → Bool} (h1 : P (-1) = false) (h2 : P 10 = false) {p : Nat} (hp : p ≤ s.size) : runEnd P f' p = runEnd P (rd s) p := by
  obtain ⟨hr, hq⟩ := run_at (P := P) h1 hp
  refine IsRun.eq ⟨hr.le, fun i a b => ?_, ?_⟩
  · rw [E.same i (by omega)]; exact hr.all i a b
  · rw [E.test h1 h2 hq]; exact hr.stop

theorem cut_eq {p n : Nat} (h : p + n ≤ s.size) : cut f' p n = cut (rd s) p n := by
  unfold cut
  apply List.map_congr_left
  intro i hi
  exact E.same _ (by have := List.mem_range.1 hi; omega)
theorem val_eq {b : Int} {p : Nat} : ∀ {n : Nat}, p + n ≤ s.size → val b f' p n = val b (rd s) p n
  | 0, _ => rfl
  | n + 1, h => by
    unfold val
    rw [val_eq (n := n) (by omega), E.same _ (by omega)]

theorem num {b lim : Int} (hb : b ≤ 16) {p : Nat} (hp : p ≤ s.size) : numAt b lim f' p = numAt b lim (rd s) p := by
  have h10 : isDg b 10 = false := by unfold isDg dig; simp; exact hb
  obtain ⟨hr, hq⟩ := run_at (P := isDg b) (isDg_end hb) hp
  have hle := hr.le
  unfold numAt
  rw [E.run (isDg_end hb) h10 hp, E.val_eq (by omega)]
theorem name {p : Nat} (hp : p ≤ s.size) : nameAt f' p = nameAt (rd s) p := by
  obtain ⟨hr, hq⟩ := run_at (P := isNm) (by decide) hp
  have hle := hr.le
  unfold nameAt
  rw [E.run (by decide) (by decide) hp, E.cut_eq (by omega)]
theorem quote {p : Nat} (hp : p ≤ s.size) : quoteAt f' p = quoteAt (rd s) p := by
  by_cases h : rd s p = 34
  · have hlt := rd_lt (by omega) h
    obtain ⟨hr, hq⟩ := run_at (P := isSt) (by decide) (s := s) (p := p + 1) hlt
    have hle := hr.le
    unfold quoteAt
    rw [if_pos h, if_pos ((E.eqv (by omega) (by omega) hp).2 h), E.run (p := p + 1) (by decide) (by decide) hlt, E.cut_eq (p := p + 1) (by omega)]
    by_cases h2 : rd s (runEnd isSt (rd s) (p + 1)) = 34
    · rw [if_pos h2, if_pos ((E.eqv (by omega) (by omega) hq).2 h2)]
    · rw [if_neg h2, if_neg (fun g => h2 ((E.eqv (by omega) (by omega) hq).1 g))]
  · unfold quoteAt
    rw [if_neg h, if_neg (fun g => h ((E.eqv (by omega) (by omega) hp).1 g))]
theorem dig1 {p : Nat} (hp : p ≤ s.size) : (if isDc (f' p) then numAt 10 200 f' p else Got.ok (-1) p) = (if isDc (rd s p) then numAt 10 200 (rd s) p else .ok (-1) p) := by
  rw [E.test (P := isDc) (by decide) (by decide) hp, E.num (by omega) hp]
theorem count {p : Nat} (hp : p ≤ s.size) : countAt f' p = countAt (rd s) p := by
  unfold countAt
  rw [E.dig1 hp]
  cases h : (if isDc (rd s p) then numAt 10 200 (rd s) p else Got.ok (-1) p) with
  | err c => rfl
  | ok lo q =>
    have hq : q ≤ s.size := by
      split at h
      · exact (numAt_in (by omega) hp h).2
      · cases h; exact hp
    simp only
    by_cases h42 : rd s q = 42
    · have hlt := rd_lt (by omega) h42
      rw [if_pos h42, if_pos ((E.eqv (by omega) (by omega) hq).2 h42), E.dig1 hlt]
    · rw [if_neg h42, if_neg (fun g => h42 ((E.eqv (by omega) (by omega) hq).1 g))]

theorem com {p : Nat} (hp : p ≤ s.size) : comEnd f' p = comEnd (rd s) p := by
  unfold comEnd
  by_cases h : rd s p = 59
  · rw [if_pos h, if_pos ((E.eqv (by omega) (by omega) hp).2 h), E.run (by decide) (by decide) (rd_lt (by omega) h)]
  · rw [if_neg h, if_neg (fun g => h ((E.eqv (by omega) (by omega) hp).1 g))]

/-- The end of a line stays; but where it was the text's end it is one byte further on. -/
theorem ends {p e : Nat} (hp : p ≤ s.size) (h : lineEnd (rd s) p = some e) : lineEnd f' p = some e ∨ (e = s.size ∧ lineEnd f' p = some (s.size + 1)) := by
  have hk := com_le hp
  unfold lineEnd at h ⊢
  rw [E.com hp]
  split at h
  · rename_i h0
    have hks : comEnd (rd s) p = s.size := by have := rd_neg.1 h0; omega
    have he := Option.some.inj h
    right
    refine ⟨by omega, ?_⟩
    rw [hks, E.nl]
    simp
  · rename_i h0
    have hlt : comEnd (rd s) p < s.size := by
      by_cases g : comEnd (rd s) p < s.size
      · exact g
      · exact absurd (rd_neg.2 g) h0
    left
    rw [E.same _ hlt, if_neg h0]
    split at h
    · rename_i h1; rw [if_pos h1]; exact h
    · rename_i h1
      rw [if_neg h1]
      split at h
      · rename_i h2
        have hlt2 := rd_lt (by omega) h2.2
        rw [if_pos ⟨h2.1, by rw [E.same _ hlt2]; exact h2.2⟩]
        exact h
      · cases h

/-- The end of a line behind which a blank comes is one in the first text. -/
theorem ends_back {p e : Nat} (hp : p ≤ s.size) (h : lineEnd f' p = some e) (hb : isBl (f' e) = true) : lineEnd (rd s) p = some e ∧ e < s.size := by
  have hk := com_le hp
  have hne : e ≠ s.size + 1 := fun g => by rw [g, E.nb] at hb; cases hb
  have hne2 : e ≠ s.size := fun g => by rw [g, E.nl] at hb; cases hb
  unfold lineEnd at h ⊢
  rw [E.com hp] at h
  by_cases hlt : comEnd (rd s) p < s.size
  · rw [E.same _ hlt] at h
    split at h
    · rename_i h0; exact absurd h0 (by rw [rd_in hlt]; omega)
    · rename_i h0
      rw [if_neg h0]
      split at h
      · rename_i h1
        rw [if_pos h1]
        have := Option.some.inj h
        exact ⟨h, by omega⟩
      · rename_i h1
        rw [if_neg h1]
        split at h
        · rename_i h2
          have he := Option.some.inj h
          have hlt2 : comEnd (rd s) p + 1 < s.size := by omega
          rw [if_pos ⟨h2.1, by rw [← E.same _ hlt2]; exact h2.2⟩]
          exact ⟨h, by omega⟩
        · cases h
  · have hks : comEnd (rd s) p = s.size := by omega
    rw [hks, E.nl] at h
    simp at h
    omega

theorem skip {p : Nat} (hp : p ≤ s.size) : skipEnd f' p = skipEnd (rd s) p := by
  have key : ∀ {p q : Nat}, Skip (rd s) p q → p ≤ s.size → Skip f' p q := by
    intro p q h
    induction h with
    | blank hb _ ih =>
      intro hp
      have hlt := isBl_lt hb
      exact .blank (by rw [E.same _ hlt]; exact hb) (ih (by omega))
    | line hn hl hb _ ih =>
      intro hp
      have hlt := isBl_lt hb
      rcases E.ends hp hl with h | ⟨h, _⟩
      · exact .line (by rw [E.test (P := isBl) (by decide) (by decide) hp]; exact hn) h (by rw [E.same _ hlt]; exact hb) (ih (by omega))
      · omega
    | here hn hall =>
      intro hp
      refine .here (by rw [E.test (P := isBl) (by decide) (by decide) hp]; exact hn) (fun e he => ?_)
      cases hb : isBl (f' e)
      · rfl
      · obtain ⟨h1, h2⟩ := E.ends_back hp he hb
        have := hall e h1
        rw [E.same e h2] at hb
        rw [hb] at this
        cases this
  exact Skip.eq (key (skip_at hp).1 hp)

theorem kind {p : Nat} (hp : p ≤ s.size) : kindOf (f' p) = kindOf (rd s p) := by
  by_cases h : p < s.size
  · rw [E.same p h]
  · obtain rfl : p = s.size := by omega
    rw [E.nl, rd_out (by omega)]
    rfl

/-- What is read stays what it is. -/
theorem ans {k : Ask} {d p : Nat} {r : Got Tree} (h : Ans (rd s) k d p r) : goodAsk k → p ≤ s.size → ∀ t q, r = .ok t q → Ans f' k d p (.ok t q) := by
  induction h with
  | altsOk a b ih1 ih2 => intro _ hp t q e; exact .altsOk (ih1 trivial hp _ _ rfl) (ih2 trivial (a.bound trivial hp _ _ rfl).2 t q e)
  | altsErr => intro _ _ t q e; cases e
  | moreEnd h => intro _ hp t q e; cases e; exact .moreEnd (fun g => h ((E.eqv (by omega) (by omega) hp).1 g))
  | moreOk h a b ih1 ih2 =>
    intro _ hp t q e
    have hlt := rd_lt (by omega) h
    have hs := skip_at (s := s) (p := _ + 1) hlt
    exact .moreOk ((E.eqv (by omega) (by omega) hp).2 h) (by rw [E.skip hlt]; exact ih1 trivial hs.2.2 _ _ rfl) (ih2 trivial (a.bound trivial hs.2.2 _ _ rfl).2 t q e)
  | moreErr => intro _ _ t q e; cases e
  | concOk a b ih1 ih2 => intro _ hp t q e; exact .concOk (ih1 trivial hp _ _ rfl) (ih2 trivial (a.bound trivial hp _ _ rfl).2 t q e)
  | concErr => intro _ _ t q e; cases e
  | @cmoreEnd d0 p0 l0 h =>
    intro _ hp t q e
    cases e
    have hs := skip_at hp
    have := Ans.cmoreEnd (f := f') (d := d0) (p := p0) (l := l0) (by rw [E.skip hp, E.test (P := isRp) (by decide) (by decide) hs.2.2]; exact h)
    rwa [E.skip hp] at this
  | cmoreOk h a b ih1 ih2 =>
    intro _ hp t q e
    have hs := skip_at hp
    exact .cmoreOk (by rw [E.skip hp, E.test (P := isRp) (by decide) (by decide) hs.2.2]; exact h) (by rw [E.skip hp]; exact ih1 trivial hs.2.2 _ _ rfl) (ih2 trivial (a.bound trivial hs.2.2 _ _ rfl).2 t q e)
  | cmoreErr => intro _ _ t q e; cases e
  | repCount => intro _ _ t q e; cases e
  | repErr => intro _ _ t q e; cases e
  | repBare h a ih => intro _ hp t q e; exact .repBare (by rw [E.count hp]; exact h) (ih trivial (countAt_in hp h).2 t q e)
  | repLess => intro _ _ t q e; cases e
  | repOk h a hb ih => intro _ hp t q e; cases e; exact .repOk (by rw [E.count hp]; exact h) (ih trivial (countAt_in hp h).2 _ _ rfl) hb
  | nameOk h h2 => intro _ hp t q e; cases e; exact .nameOk (by rw [E.test (P := isAl) (by decide) (by decide) hp]; exact h) (by rw [E.name hp]; exact h2)
  | nameErr => intro _ _ t q e; cases e
  | deep => intro _ _ t q e; cases e
  | inErr => intro _ _ t q e; cases e
  | inOpen => intro _ _ t q e; cases e
  | round h hd a hc ih =>
    intro _ hp t q e
    cases e
    have hlt := rd_lt (by omega) h
    have hs := skip_at (s := s) (p := _ + 1) hlt
    have hb := (a.bound trivial hs.2.2 _ _ rfl).2
    exact .round ((E.eqv (by omega) (by omega) hp).2 h) hd (by rw [E.skip hlt]; exact ih trivial hs.2.2 _ _ rfl) ((E.eqv (by omega) (by omega) hb).2 hc)
  | square h hd a hc ih =>
    intro _ hp t q e
    cases e
    have hlt := rd_lt (by omega) h
    have hs := skip_at (s := s) (p := _ + 1) hlt
    have hb := (a.bound trivial hs.2.2 _ _ rfl).2
    exact .square ((E.eqv (by omega) (by omega) hp).2 h) hd (by rw [E.skip hlt]; exact ih trivial hs.2.2 _ _ rfl) ((E.eqv (by omega) (by omega) hb).2 hc)
  | quoteOk h h2 => intro _ hp t q e; cases e; exact .quoteOk ((E.eqv (by omega) (by omega) hp).2 h) (by rw [E.quote hp]; exact h2)
  | quoteErr => intro _ _ t q e; cases e
  | @litOk d0 p0 q0 x0 b0 h hk h2 =>
    intro _ hp t q e
    cases e
    have hlt := rd_lt (by omega) h
    have hp2 : p0 + 2 ≤ s.size := by
      by_cases g : p0 + 1 < s.size
      · omega
      · rw [rd_out g] at hk; cases b0 <;> cases hk
    exact .litOk ((E.eqv (by omega) (by omega) hp).2 h) (by rw [E.kind hlt]; exact hk) (by rw [E.quote hp2]; exact h2)
  | litErr => intro _ _ t q e; cases e
  | @value d0 p0 b0 r0 h hk a ih =>
    intro _ hp t q e
    have hlt := rd_lt (by omega) h
    have hb := kindOf_base hk
    have hp2 : p0 + 2 ≤ s.size := by
      by_cases g : p0 + 1 < s.size
      · omega
      · rw [rd_out g] at hk; cases hk
    exact .value ((E.eqv (by omega) (by omega) hp).2 h) (by rw [E.kind hlt]; exact hk) (ih (show b0 ≤ 16 by omega) hp2 t q e)
  | valueNo => intro _ _ t q e; cases e
  | no => intro _ _ t q e; cases e
  | numsErr => intro _ _ t q e; cases e
  | spanErr => intro _ _ t q e; cases e
  | spanLess => intro _ _ t q e; cases e
  | span h1 h2 h3 h4 =>
    intro hg hp t q e
    cases e
    have g1 := numAt_in hg hp h1
    have hlt := rd_lt (by omega) h2
    exact .span (by rw [E.num hg hp]; exact h1) ((E.eqv (by omega) (by omega) g1.2).2 h2) (by rw [E.num hg hlt]; exact h3) h4
  | nums h1 h2 a ih =>
    intro hg hp t q e
    have g1 := numAt_in hg hp h1
    exact .nums (by rw [E.num hg hp]; exact h1) (fun g => h2 ((E.eqv (by omega) (by omega) g1.2).1 g)) (ih hg g1.2 t q e)
  | dotsEnd h => intro _ hp t q e; cases e; exact .dotsEnd (fun g => h ((E.eqv (by omega) (by omega) hp).1 g))
  | dotsErr => intro _ _ t q e; cases e
  | dotsOk h1 h2 a ih =>
    intro hg hp t q e
    have hlt := rd_lt (by omega) h1
    have g1 := numAt_in hg hlt h2
    exact .dotsOk ((E.eqv (by omega) (by omega) hp).2 h1) (by rw [E.num hg hlt]; exact h2) (ih hg g1.2 t q e)

theorem rule {p e : Nat} {x : Rule} (hp : p ≤ s.size) (h : RuleAt (rd s) p (.ok x e)) : RuleAt f' p (.ok x e) ∨ (e = s.size ∧ RuleAt f' p (.ok x (s.size + 1))) := by
  cases h with
  | ok hn h61 ha he =>
    rename_i q q2 x0 t0
    have h1 := nameAt_in hp hn
    have h2 := skip_at h1.2
    have hlt := rd_lt (by omega) h61
    have h3 : eqAt (rd s) q ≤ s.size := by
      unfold eqAt
      split
      · rename_i h47
        have := rd_lt (by omega) h47
        omega
      · omega
    have heq : eqAt f' q = eqAt (rd s) q := by
      unfold eqAt
      rw [E.skip h1.2]
      by_cases h47 : rd s (skipEnd (rd s) q + 1) = 47
      · rw [if_pos h47, if_pos ((E.eqv (by omega) (by omega) hlt).2 h47)]
      · rw [if_neg h47, if_neg (fun g => h47 ((E.eqv (by omega) (by omega) hlt).1 g))]
    have hdec : decide (f' (skipEnd f' q + 1) = 47) = decide (rd s (skipEnd (rd s) q + 1) = 47) := by
      rw [E.skip h1.2]
      exact decide_eq_decide.2 (E.eqv (by omega) (by omega) hlt)
    have h4 := skip_at h3
    have h5 := ha.bound trivial h4.2.2 _ _ rfl
    have hn' : nameAt f' p = .ok x0 q := by rw [E.name hp]; exact hn
    have h61' : f' (skipEnd f' q) = 61 := by rw [E.skip h1.2]; exact (E.eqv (by omega) (by omega) h2.2.2).2 h61
    have ha' : Ans f' .alts 0 (skipEnd f' (eqAt f' q)) (.ok t0 q2) := by rw [heq, E.skip h3]; exact E.ans ha trivial h4.2.2 _ _ rfl
    rcases E.ends h5.2 he with hl | ⟨hes, hl⟩
    · left
      have := RuleAt.ok hn' h61' ha' hl
      rwa [hdec] at this
    · right
      refine ⟨hes, ?_⟩
      have := RuleAt.ok hn' h61' ha' hl
      rwa [hdec] at this

/-- The rules of the first text come first. -/
theorem rules {l : List Rule} {p : Nat} {r : Got (List Rule)} (h : Rules (rd s) l p r) : p ≤ s.size → ∀ L q, r = .ok L q → ∀ r', Rules f' L (s.size + 1) r' → Rules f' l p r' := by
  have start : ∀ (l : List Rule) (r' : Got (List Rule)), Rules f' l (s.size + 1) r' → Rules f' l s.size r' := by
    intro l r' h
    have h1 : runEnd isBl f' s.size = s.size := IsRun.eq ⟨Nat.le_refl _, fun i a b => absurd a (by omega), by rw [E.nl]; decide⟩
    have h2 : lineEnd f' s.size = some (s.size + 1) := by
      have hc : comEnd f' s.size = s.size := by unfold comEnd; rw [E.nl, if_neg (by omega)]
      unfold lineEnd
      rw [hc, E.nl]
      rfl
    exact .empty (by rw [E.nl]; omega) (by rw [E.nl]; decide) (by rw [h1]; exact h2) h
  have last : ∀ {l L : List Rule} {q : Nat}, Rules (rd s) l s.size (.ok L q) → L = l := by
    intro l L q h
    cases h with
    | done => rfl
    | empty h => rw [rd_out (by omega)] at h; omega
    | rule h => rw [rd_out (by omega)] at h; cases h
  induction h with
  | done h =>
    intro hp L q e r' hr
    cases e
    have := rd_neg.1 h
    obtain rfl : _ = s.size := Nat.le_antisymm hp (by omega)
    exact start _ _ hr
  | @empty l0 p0 e0 r0 h0 h1 h2 a ih =>
    intro hp L q e r' hr
    have hlt : p0 < s.size := by
      by_cases g : p0 < s.size
      · exact g
      · rw [rd_out g] at h0; omega
    obtain ⟨hr1, hq1⟩ := run_at (P := isBl) (by decide) hp
    have he := end_le hq1 h2
    have hf0 := E.same _ hlt
    rcases E.ends hq1 h2 with hl | ⟨hes, hl⟩
    · exact .empty (by rw [hf0]; exact h0) (by rw [hf0]; exact h1) (by rw [E.run (by decide) (by decide) hp]; exact hl) (ih he.2 L q e r' hr)
    · subst e
      subst hes
      have := last a
      subst this
      exact .empty (by rw [hf0]; exact h0) (by rw [hf0]; exact h1) (by rw [E.run (by decide) (by decide) hp]; exact hl) hr
  | bad => intro _ L q e; cases e
  | err => intro _ L q e; cases e
  | many => intro _ L q e; cases e
  | @rule l0 p0 q0 x0 r0 h0 h1 h2 a ih =>
    intro hp L q e r' hr
    have hal : isAl (f' p0) = true := by rw [E.test (P := isAl) (by decide) (by decide) hp]; exact h0
    have hb := rule_bound hp h1
    rcases E.rule hp h1 with hl | ⟨hes, hl⟩
    · exact .rule hal hl h2 (ih hb.2.1 L q e r' hr)
    · subst e
      subst hes
      have := last a
      subst this
      exact .rule hal hl h2 hr

end Ext

end Go.Proofs.YtpcmfnemdecimaaDoor
