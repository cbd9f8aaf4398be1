/- There is one answer to what is asked for. No condition. -/
import Derived.Test.YtlaglkbcladfbaaDoorRRead
namespace Go.Proofs.YtlaglkbcladfbaaDoor
set_option linter.unusedVariables false
set_option linter.unusedSimpArgs false

theorem isAl_ne {c : Int} (h : isAl c = true) : c ≠ 40 ∧ c ≠ 91 ∧ c ≠ 34 ∧ c ≠ 37 := by
  unfold isAl at h
  simp at h
  omega

set_option maxHeartbeats 4000000 in
theorem Ans.one {f : Nat → Int} {k : Ask} {d p : Nat} {r : Got Tree} (h : Ans f k d p r) : ∀ r', Ans f k d p r' → r = r' := by
  induction h with
  | altsOk _ _ ih1 ih2 => intro r' h'; cases h' with | altsOk a b => cases ih1 _ a; exact ih2 _ b | altsErr a => cases ih1 _ a
  | altsErr _ ih => intro r' h'; cases h' with | altsOk a b => cases ih _ a | altsErr a => exact ih _ a
  | moreEnd h => intro r' h'; cases h' with | moreEnd => rfl | moreOk e => exact absurd e h | moreErr e => exact absurd e h
  | moreOk h _ _ ih1 ih2 => intro r' h'; cases h' with | moreEnd e => exact absurd h e | moreOk _ a b => cases ih1 _ a; exact ih2 _ b | moreErr _ a => cases ih1 _ a
  | moreErr h _ ih => intro r' h'; cases h' with | moreEnd e => exact absurd h e | moreOk _ a b => cases ih _ a | moreErr _ a => exact ih _ a
  | concOk _ _ ih1 ih2 => intro r' h'; cases h' with | concOk a b => cases ih1 _ a; exact ih2 _ b | concErr a => cases ih1 _ a
  | concErr _ ih => intro r' h'; cases h' with | concOk a b => cases ih _ a | concErr a => exact ih _ a
  | cmoreEnd h => intro r' h'; cases h' with | cmoreEnd => rfl | cmoreOk e => exact absurd e h | cmoreErr e => exact absurd e h
  | cmoreOk h _ _ ih1 ih2 => intro r' h'; cases h' with | cmoreEnd e => exact absurd h e | cmoreOk _ a b => cases ih1 _ a; exact ih2 _ b | cmoreErr _ a => cases ih1 _ a
  | cmoreErr h _ ih => intro r' h'; cases h' with | cmoreEnd e => exact absurd h e | cmoreOk _ a b => cases ih _ a | cmoreErr _ a => exact ih _ a
  | repCount h => intro r' h'; cases h' with
    | repCount e => rw [h] at e; cases e; rfl
    | repErr e _ => rw [h] at e; cases e
    | repBare e _ => rw [h] at e; cases e
    | repLess e _ _ => rw [h] at e; cases e
    | repOk e _ _ => rw [h] at e; cases e
  | repErr h _ ih => intro r' h'; cases h' with
    | repCount e => rw [h] at e; cases e
    | repErr e a => rw [h] at e; cases e; exact ih _ a
    | repBare e a => rw [h] at e; cases e; cases ih _ a
    | repLess e a _ => rw [h] at e; cases e; cases ih _ a
    | repOk e a _ => rw [h] at e; cases e; cases ih _ a
  | repBare h _ ih => intro r' h'; cases h' with
    | repCount e => rw [h] at e; cases e
    | repErr e a => rw [h] at e; cases e; cases ih _ a
    | repBare e a => rw [h] at e; cases e; exact ih _ a
    | repLess e a _ => rw [h] at e; cases e
    | repOk e a _ => rw [h] at e; cases e
  | repLess h _ hb ih => intro r' h'; cases h' with
    | repCount e => rw [h] at e; cases e
    | repErr e a => rw [h] at e; cases e; cases ih _ a
    | repBare e a => rw [h] at e; cases e
    | repLess e a _ => rfl
    | repOk e a n => rw [h] at e; cases e; exact absurd hb n
  | repOk h _ hb ih => intro r' h'; cases h' with
    | repCount e => rw [h] at e; cases e
    | repErr e a => rw [h] at e; cases e; cases ih _ a
    | repBare e a => rw [h] at e; cases e
    | repLess e a n => rw [h] at e; cases e; exact absurd n hb
    | repOk e a n => rw [h] at e; cases e; cases ih _ a; rfl
  | nameOk h1 h2 => intro r' h'; have hne := isAl_ne h1; cases h' <;> first | rfl | (exfalso; omega) | grind
  | nameErr h1 h2 => intro r' h'; have hne := isAl_ne h1; cases h' <;> first | rfl | (exfalso; omega) | grind
  | deep h1 h2 => intro r' h'; cases h' <;> first | rfl | (exfalso; omega) | (have hne := isAl_ne ‹_›; exfalso; omega) | grind
  | inErr h1 h2 _ ih => intro r' h'; cases h' <;> first | (exfalso; omega) | (have hne := isAl_ne ‹_›; exfalso; omega) | (exact ih _ ‹_›) | (cases ih _ ‹_›; done) | grind
  | inOpen h1 h2 _ h4 ih => intro r' h'; cases h' <;> first | rfl | (exfalso; omega) | (have hne := isAl_ne ‹_›; exfalso; omega) | (cases ih _ ‹_›; done) | grind
  | round h1 h2 _ h4 ih => intro r' h'; cases h' <;> first | (exfalso; omega) | (have hne := isAl_ne ‹_›; exfalso; omega) | (cases ih _ ‹_›; done) | (cases ih _ ‹_›; rfl) | grind
  | square h1 h2 _ h4 ih => intro r' h'; cases h' <;> first | (exfalso; omega) | (have hne := isAl_ne ‹_›; exfalso; omega) | (cases ih _ ‹_›; done) | (cases ih _ ‹_›; rfl) | grind
  | quoteOk h1 h2 => intro r' h'; cases h' <;> first | (exfalso; omega) | (have hne := isAl_ne ‹_›; exfalso; omega) | grind
  | quoteErr h1 h2 => intro r' h'; cases h' <;> first | (exfalso; omega) | (have hne := isAl_ne ‹_›; exfalso; omega) | grind
  | litOk h1 h2 h3 => intro r' h'; cases h' <;> first | (exfalso; omega) | (have hne := isAl_ne ‹_›; exfalso; omega) | grind
  | litErr h1 h2 h3 => intro r' h'; cases h' <;> first | (exfalso; omega) | (have hne := isAl_ne ‹_›; exfalso; omega) | grind
  | value h1 h2 _ ih => intro r' h'; cases h' with
    | value _ e a => rw [h2] at e; cases e; exact ih _ a
    | litOk _ e _ => rw [h2] at e; cases e
    | litErr _ e _ => rw [h2] at e; cases e
    | valueNo _ e => rw [h2] at e; cases e
    | nameOk e _ => have := isAl_ne e; omega
    | nameErr e _ => have := isAl_ne e; omega
    | _ => exfalso; omega
  | valueNo h1 h2 => intro r' h'; cases h' <;> first | rfl | (exfalso; omega) | (have hne := isAl_ne ‹_›; exfalso; omega) | grind
  | no h1 h2 h3 h4 h5 => intro r' h'; cases h' <;> first | rfl | (exfalso; omega) | grind
  | numsErr h => intro r' h'; cases h' with
    | numsErr e => rw [h] at e; cases e; rfl
    | spanErr e _ _ => rw [h] at e; cases e
    | spanLess e _ _ _ => rw [h] at e; cases e
    | span e _ _ _ => rw [h] at e; cases e
    | nums e _ _ => rw [h] at e; cases e
  | spanErr h h2 h3 => intro r' h'; cases h' with
    | numsErr e => rw [h] at e; cases e
    | spanErr e _ e3 => rw [h] at e; cases e; rw [h3] at e3; cases e3; rfl
    | spanLess e _ e3 _ => rw [h] at e; cases e; rw [h3] at e3; cases e3
    | span e _ e3 _ => rw [h] at e; cases e; rw [h3] at e3; cases e3
    | nums e e2 _ => rw [h] at e; cases e; exact absurd h2 e2
  | spanLess h h2 h3 h4 => intro r' h'; cases h' with
    | numsErr e => rw [h] at e; cases e
    | spanErr e _ e3 => rw [h] at e; cases e; rw [h3] at e3; cases e3
    | spanLess e _ e3 _ => rfl
    | span e _ e3 e4 => rw [h] at e; cases e; rw [h3] at e3; cases e3; exact absurd h4 e4
    | nums e e2 _ => rw [h] at e; cases e; exact absurd h2 e2
  | span h h2 h3 h4 => intro r' h'; cases h' with
    | numsErr e => rw [h] at e; cases e
    | spanErr e _ e3 => rw [h] at e; cases e; rw [h3] at e3; cases e3
    | spanLess e _ e3 e4 => rw [h] at e; cases e; rw [h3] at e3; cases e3; exact absurd e4 h4
    | span e _ e3 e4 => rw [h] at e; cases e; rw [h3] at e3; cases e3; rfl
    | nums e e2 _ => rw [h] at e; cases e; exact absurd h2 e2
  | nums h h2 _ ih => intro r' h'; cases h' with
    | numsErr e => rw [h] at e; cases e
    | spanErr e e2 e3 => rw [h] at e; cases e; exact absurd e2 h2
    | spanLess e e2 e3 e4 => rw [h] at e; cases e; exact absurd e2 h2
    | span e e2 e3 e4 => rw [h] at e; cases e; exact absurd e2 h2
    | nums e e2 a => rw [h] at e; cases e; exact ih _ a
  | dotsEnd h => intro r' h'; cases h' with | dotsEnd => rfl | dotsErr e _ => exact absurd e h | dotsOk e _ _ => exact absurd e h
  | dotsErr h h2 => intro r' h'; cases h' with
    | dotsEnd e => exact absurd h e
    | dotsErr _ e => rw [h2] at e; cases e; rfl
    | dotsOk _ e _ => rw [h2] at e; cases e
  | dotsOk h h2 _ ih => intro r' h'; cases h' with
    | dotsEnd e => exact absurd h e
    | dotsErr _ e => rw [h2] at e; cases e
    | dotsOk _ e a => rw [h2] at e; cases e; exact ih _ a

theorem RuleAt.one {f : Nat → Int} {p : Nat} {r r' : Got Rule} (h : RuleAt f p r) (h' : RuleAt f p r') : r = r' := by
  cases h with
  | name h => cases h' with
    | name e => rw [h] at e; cases e; rfl
    | noEq e _ => rw [h] at e; cases e
    | err e _ _ => rw [h] at e; cases e
    | noEnd e _ _ _ => rw [h] at e; cases e
    | ok e _ _ _ => rw [h] at e; cases e
  | noEq h h2 => cases h' with
    | name e => rw [h] at e; cases e
    | noEq e _ => rfl
    | err e e2 _ => rw [h] at e; cases e; exact absurd e2 h2
    | noEnd e e2 _ _ => rfl
    | ok e e2 _ _ => rw [h] at e; cases e; exact absurd e2 h2
  | err h h2 h3 => cases h' with
    | name e => rw [h] at e; cases e
    | noEq e e2 => rw [h] at e; cases e; exact absurd h2 e2
    | err e _ a => rw [h] at e; cases e; cases h3.one _ a; rfl
    | noEnd e _ a _ => rw [h] at e; cases e; cases h3.one _ a
    | ok e _ a _ => rw [h] at e; cases e; cases h3.one _ a
  | noEnd h h2 h3 h4 => cases h' with
    | name e => rw [h] at e; cases e
    | noEq e e2 => rfl
    | err e _ a => rw [h] at e; cases e; cases h3.one _ a
    | noEnd e _ a _ => rfl
    | ok e _ a e4 => rw [h] at e; cases e; cases h3.one _ a; rw [h4] at e4; cases e4
  | ok h h2 h3 h4 => cases h' with
    | name e => rw [h] at e; cases e
    | noEq e e2 => rw [h] at e; cases e; exact absurd h2 e2
    | err e _ a => rw [h] at e; cases e; cases h3.one _ a
    | noEnd e _ a e4 => rw [h] at e; cases e; cases h3.one _ a; rw [h4] at e4; cases e4
    | ok e _ a e4 => rw [h] at e; cases e; cases h3.one _ a; rw [h4] at e4; cases e4; rfl

theorem Rules.one {f : Nat → Int} {l : List Rule} {p : Nat} {r : Got (List Rule)} (h : Rules f l p r) : ∀ r', Rules f l p r' → r = r' := by
  have key : ∀ c : Int, c < 0 → isAl c = true → False := by
    intro c hc h
    unfold isAl at h
    simp at h
    omega
  induction h with
  | done h => intro r' h'; cases h' with
    | done => rfl
    | empty e _ _ _ => omega
    | bad e _ _ => omega
    | err e _ => exact (key _ h e).elim
    | many e _ _ => exact (key _ h e).elim
    | rule e _ _ _ => exact (key _ h e).elim
  | empty h h2 h3 _ ih => intro r' h'; cases h' with
    | done e => omega
    | empty _ _ e a => rw [h3] at e; cases e; exact ih _ a
    | bad _ _ e => rw [h3] at e; cases e
    | err e _ => rw [h2] at e; cases e
    | many e _ _ => rw [h2] at e; cases e
    | rule e _ _ _ => rw [h2] at e; cases e
  | bad h h2 h3 => intro r' h'; cases h' with
    | done e => omega
    | empty _ _ e a => rw [h3] at e; cases e
    | bad _ _ e => rfl
    | err e _ => rw [h2] at e; cases e
    | many e _ _ => rw [h2] at e; cases e
    | rule e _ _ _ => rw [h2] at e; cases e
  | err h h2 => intro r' h'; cases h' with
    | done e => exact (key _ e h).elim
    | empty _ e _ _ => rw [h] at e; cases e
    | bad _ e _ => rw [h] at e; cases e
    | err _ a => cases h2.one a; rfl
    | many _ a _ => cases h2.one a
    | rule _ a _ _ => cases h2.one a
  | many h h2 h3 => intro r' h'; cases h' with
    | done e => exact (key _ e h).elim
    | empty _ e _ _ => rw [h] at e; cases e
    | bad _ e _ => rw [h] at e; cases e
    | err _ a => cases h2.one a
    | many _ a _ => rfl
    | rule _ a e _ => omega
  | rule h h2 h3 _ ih => intro r' h'; cases h' with
    | done e => exact (key _ e h).elim
    | empty _ e _ _ => rw [h] at e; cases e
    | bad _ e _ => rw [h] at e; cases e
    | err _ a => cases h2.one a
    | many _ a e => omega
    | rule _ a _ b => cases h2.one a; exact ih _ b

theorem Answer.one {s : ByteArray} {r r' : Got (List Rule)} (h : Answer s r) (h' : Answer s r') : r = r' := by
  unfold Answer at h h'
  split at h
  · rw [if_pos ‹_›] at h'
    rw [h, h']
  · rw [if_neg ‹_›] at h'
    exact h.one _ h'

end Go.Proofs.YtlaglkbcladfbaaDoor
