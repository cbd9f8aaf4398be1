/- Two texts, one behind the other, have the rules of both; comments and empty lines change nothing. No condition. -/
import Derived.Test.YtpcmfnemdecimaaDoorROff
import Derived.Test.YtpcmfnemdecimaaDoorRAwake
namespace Go.Proofs.YtpcmfnemdecimaaDoor
set_option linter.unusedVariables false
set_option linter.unusedSimpArgs false

/-- There are two errors. -/
theorem numAt_err {b lim : Int} {f : Nat → Int} {p : Nat} {c : Int} (h : numAt b lim f p = .err c) : c = 2 ∨ c = 20 := by
  unfold numAt at h
  split at h
  · cases h; exact .inr rfl
  · split at h
    · cases h; exact .inl rfl
    · cases h
theorem nameAt_err {f : Nat → Int} {p : Nat} {c : Int} (h : nameAt f p = .err c) : c = 2 ∨ c = 20 := by
  unfold nameAt at h
  split at h
  · cases h; exact .inl rfl
  · cases h
theorem quoteAt_err {f : Nat → Int} {p : Nat} {c : Int} (h : quoteAt f p = .err c) : c = 2 ∨ c = 20 := by
  unfold quoteAt at h
  split at h
  · split at h
    · cases h
    · cases h; exact .inr rfl
  · cases h; exact .inr rfl
theorem countAt_err {f : Nat → Int} {p : Nat} {c : Int} (h : countAt f p = .err c) : c = 2 ∨ c = 20 := by
  have one : ∀ p c, (if isDc (f p) then numAt 10 200 f p else Got.ok (-1) p) = .err c → c = 2 ∨ c = 20 := by
    intro p c h
    split at h
    · exact numAt_err h
    · cases h
  cases h1 : (if isDc (f p) then numAt 10 200 f p else Got.ok (-1) p) with
  | err c' => rw [count_bad h1] at h; cases h; exact one _ _ h1
  | ok lo q =>
    by_cases h42 : f q = 42
    · cases h2 : (if isDc (f (q + 1)) then numAt 10 200 f (q + 1) else Got.ok (-1) (q + 1)) with
      | err c' => rw [count_err h1 h42 h2] at h; cases h; exact one _ _ h2
      | ok hi q2 => rw [count_star h1 h42 h2] at h; cases h
    · rw [count_no h1 h42] at h; cases h
theorem Ans.errs {f : Nat → Int} {k : Ask} {d p : Nat} {r : Got Tree} (h : Ans f k d p r) : ∀ c, r = .err c → c = 2 ∨ c = 20 := by
  induction h with
  | altsOk _ _ _ ih => exact ih
  | altsErr _ ih => exact ih
  | moreEnd => intro c e; cases e
  | moreOk _ _ _ _ ih => exact ih
  | moreErr _ _ ih => intro c e; exact ih c e
  | concOk _ _ _ ih => exact ih
  | concErr _ ih => exact ih
  | cmoreEnd => intro c e; cases e
  | cmoreOk _ _ _ _ ih => exact ih
  | cmoreErr _ _ ih => intro c e; exact ih c e
  | repCount h => intro c e; cases e; exact countAt_err h
  | repErr _ _ ih => intro c e; cases e; exact ih _ rfl
  | repBare => intro c e; cases e
  | repLess => intro c e; cases e; exact .inr rfl
  | repOk => intro c e; cases e
  | nameOk => intro c e; cases e
  | nameErr _ h => intro c e; cases e; exact nameAt_err h
  | deep => intro c e; cases e; exact .inl rfl
  | inErr _ _ _ ih => intro c e; cases e; exact ih _ rfl
  | inOpen => intro c e; cases e; exact .inr rfl
  | round => intro c e; cases e
  | square => intro c e; cases e
  | quoteOk => intro c e; cases e
  | quoteErr _ h => intro c e; cases e; exact quoteAt_err h
  | litOk => intro c e; cases e
  | litErr _ _ h => intro c e; cases e; exact quoteAt_err h
  | value _ _ _ ih => exact ih
  | valueNo => intro c e; cases e; exact .inr rfl
  | no => intro c e; cases e; exact .inr rfl
  | numsErr h => intro c e; cases e; exact numAt_err h
  | spanErr _ _ h => intro c e; cases e; exact numAt_err h
  | spanLess => intro c e; cases e; exact .inr rfl
  | span => intro c e; cases e
  | nums _ _ _ ih => exact ih
  | dotsEnd => intro c e; cases e
  | dotsErr _ h => intro c e; cases e; exact numAt_err h
  | dotsOk _ _ _ ih => exact ih
theorem RuleAt.errs {f : Nat → Int} {p : Nat} {c : Int} (h : RuleAt f p (.err c)) : c = 2 ∨ c = 20 := by
  cases h with
  | name h => exact nameAt_err h
  | noEq => exact .inr rfl
  | err _ _ h => exact h.errs _ rfl
  | noEnd => exact .inr rfl
theorem Rules.errs {f : Nat → Int} {l : List Rule} {p : Nat} {r : Got (List Rule)} (h : Rules f l p r) : ∀ c, r = .err c → c = 2 ∨ c = 20 := by
  induction h with
  | done => intro c e; cases e
  | empty _ _ _ _ ih => exact ih
  | bad => intro c e; cases e; exact .inr rfl
  | err _ h => intro c e; cases e; exact h.errs
  | many => intro c e; cases e; exact .inl rfl
  | rule _ _ _ _ ih => exact ih
theorem Answer.errs {s : ByteArray} {c : Int} (h : Answer s (.err c)) : c = 2 ∨ c = 20 := by
  unfold Answer at h
  split at h
  · cases h; exact .inl rfl
  · exact h.errs _ rfl

theorem rules_count {s : ByteArray} {l : List Rule} {p : Nat} {r : Got (List Rule)} (h : Rules (rd s) l p r) : p ≤ s.size → ∀ L q, r = .ok L q → 2 * L.length + p ≤ 2 * l.length + q ∧ q ≤ s.size := by
  induction h with
  | done h => intro hp L q e; cases e; exact ⟨by omega, hp⟩
  | empty h0 h1 h2 a ih =>
    intro hp L q e
    obtain ⟨hr1, hq1⟩ := run_at (P := isBl) (by decide) hp
    have hle := hr1.le
    have he := end_le hq1 h2
    have := ih he.2 L q e
    omega
  | bad => intro _ L q e; cases e
  | err => intro _ L q e; cases e
  | many => intro _ L q e; cases e
  | rule h0 h1 h2 a ih =>
    intro hp L q e
    have hb := rule_bound hp h1
    have hb3 := hb.2.2 h0
    have := ih hb.2.1 L q e
    simp only [List.length_append, List.length_cons, List.length_nil] at this
    omega

theorem get_app_left {a b : ByteArray} {i : Nat} (h : i < a.size) : rd (a ++ b) i = rd a i := by
  have h2 : i < (a ++ b).size := by rw [ByteArray.size_append]; omega
  rw [rd_in h, rd_in h2]
  congr 2
  exact ByteArray.getElem_append_left h
theorem get_app_right {a b : ByteArray} {i : Nat} : rd (a ++ b) (i + a.size) = rd b i := by
  by_cases h : i < b.size
  · have h2 : i + a.size < (a ++ b).size := by rw [ByteArray.size_append]; omega
    rw [rd_in h, rd_in h2]
    congr 2
    rw [ByteArray.getElem_append_right (by omega)]
    congr 1
    omega
  · rw [rd_out h, rd_out (by rw [ByteArray.size_append]; omega)]

/-- The rules of both. -/
theorem join_two {s u : ByteArray} {A B : List Rule} {q q' : Nat} (ha : Rules (rd s) [] 0 (.ok A q)) (h0 : rd u 0 = 10) (h1 : isBl (rd u 1) = false) (hb : Rules (rd (s ++ u)) A (s.size + 1) (.ok B q')) : Rules (rd (s ++ u)) [] 0 (.ok B q') := by
  have E : Ext s (rd (s ++ u)) := ⟨fun i hi => get_app_left hi, by have := get_app_right (a := s) (b := u) (i := 0); rw [Nat.zero_add] at this; rw [this, h0],
    by have := get_app_right (a := s) (b := u) (i := 1); rw [Nat.add_comm] at this; rw [this, h1]⟩
  exact E.rules ha (by omega) A q rfl _ hb

end Go.Proofs.YtpcmfnemdecimaaDoor
