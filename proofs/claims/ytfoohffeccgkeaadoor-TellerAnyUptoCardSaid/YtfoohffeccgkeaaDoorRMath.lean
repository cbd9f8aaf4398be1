/- What a text of rules is, in words that no program is named in: runs of bytes, ends of lines, white space, numbers, names, expressions, rules. No condition. -/
import Derived.WalkKit
import Derived.WalkLawsBesides
namespace Go.Proofs.YtfoohffeccgkeaaDoor
set_option linter.unusedVariables false

/-- What kind of byte it is; below 0: behind the end. -/
def isBl (c : Int) : Bool := c == 32 || c == 9
def isAl (c : Int) : Bool := (decide (97 ≤ c) && decide (c ≤ 122)) || (decide (65 ≤ c) && decide (c ≤ 90))
def isDc (c : Int) : Bool := decide (48 ≤ c) && decide (c ≤ 57)
def isNm (c : Int) : Bool := isAl c || isDc c || c == 45
def isSt (c : Int) : Bool := decide (32 ≤ c) && decide (c ≤ 126) && !(c == 34)
def isCm (c : Int) : Bool := isBl c || (decide (33 ≤ c) && decide (c ≤ 126))
def isRp (c : Int) : Bool := isAl c || isDc c || c == 34 || c == 37 || c == 40 || c == 42 || c == 91
def dig (c : Int) : Int := if 48 ≤ c ∧ c ≤ 57 then c - 48 else if 97 ≤ c ∧ c ≤ 102 then c - 87 else if 65 ≤ c ∧ c ≤ 70 then c - 55 else 16
def isDg (b c : Int) : Bool := decide (dig c < b)
def low (c : Int) : Int := if 65 ≤ c ∧ c ≤ 90 then c + 32 else c

/-- From p on, up to q, all are of a kind, and what is at q is not. -/
structure IsRun (P : Int → Bool) (f : Nat → Int) (p q : Nat) : Prop where
  le : p ≤ q
  all : ∀ i, p ≤ i → i < q → P (f i) = true
  stop : P (f q) = false

theorem IsRun.one {P : Int → Bool} {f : Nat → Int} {p q q' : Nat} (h : IsRun P f p q) (h' : IsRun P f p q') : q = q' := by
  rcases Nat.lt_trichotomy q q' with g | g | g
  · have := h'.all q h.le g
    rw [h.stop] at this
    cases this
  · exact g
  · have := h.all q' h'.le g
    rw [h'.stop] at this
    cases this

open Classical in
/-- Where a run ends. -/
noncomputable def runEnd (P : Int → Bool) (f : Nat → Int) (p : Nat) : Nat := if h : ∃ q, IsRun P f p q then h.choose else p

theorem IsRun.eq {P : Int → Bool} {f : Nat → Int} {p q : Nat} (h : IsRun P f p q) : runEnd P f p = q := by
  have h2 : ∃ q, IsRun P f p q := ⟨q, h⟩
  unfold runEnd
  rw [dif_pos h2]
  exact h2.choose_spec.one h

/-- What ends a line from p on, a comment ahead of it or none: where it ends. -/
noncomputable def comEnd (f : Nat → Int) (p : Nat) : Nat := if f p = 59 then runEnd isCm f (p + 1) else p
noncomputable def lineEnd (f : Nat → Int) (p : Nat) : Option Nat :=
  if f (comEnd f p) < 0 then some (comEnd f p) else if f (comEnd f p) = 10 then some (comEnd f p + 1) else if f (comEnd f p) = 13 ∧ f (comEnd f p + 1) = 10 then some (comEnd f p + 2) else none

/-- White space from p on ends at q. -/
inductive Skip (f : Nat → Int) : Nat → Nat → Prop
  | blank {p q : Nat} : isBl (f p) = true → Skip f (p + 1) q → Skip f p q
  | line {p e q : Nat} : isBl (f p) = false → lineEnd f p = some e → isBl (f e) = true → Skip f (e + 1) q → Skip f p q
  | here {p : Nat} : isBl (f p) = false → (∀ e, lineEnd f p = some e → isBl (f e) = false) → Skip f p p

theorem Skip.one {f : Nat → Int} {p q q' : Nat} (h : Skip f p q) (h' : Skip f p q') : q = q' := by
  induction h with
  | blank hb _ ih =>
    cases h' with
    | blank _ k => exact ih k
    | line k => rw [hb] at k; cases k
    | here k => rw [hb] at k; cases k
  | line hn hl hb _ ih =>
    cases h' with
    | blank k => rw [hn] at k; cases k
    | line _ k2 _ k => rw [hl] at k2; cases k2; exact ih k
    | here _ k => have := k _ hl; rw [hb] at this; cases this
  | here hn hl =>
    cases h' with
    | blank k => rw [hn] at k; cases k
    | line _ k2 k3 _ => have := hl _ k2; rw [k3] at this; cases this
    | here => rfl

open Classical in
noncomputable def skipEnd (f : Nat → Int) (p : Nat) : Nat := if h : ∃ q, Skip f p q then h.choose else p
theorem Skip.eq {f : Nat → Int} {p q : Nat} (h : Skip f p q) : skipEnd f p = q := by
  have h2 : ∃ q, Skip f p q := ⟨q, h⟩
  unfold skipEnd
  rw [dif_pos h2]
  exact h2.choose_spec.one h

/-- The bytes from p on, n of them. -/
def cut (f : Nat → Int) (p n : Nat) : List Int := (List.range n).map fun i => f (p + i)

/-- The number of n digits from p on. -/
def val (b : Int) (f : Nat → Int) (p : Nat) : Nat → Int
  | 0 => 0
  | n + 1 => val b f p n * b + dig (f (p + n))

/-- What is read: a thing, and where it ends, or which error. -/
inductive Got (α : Type)
  | ok (x : α) (q : Nat)
  | err (c : Int)

noncomputable def numAt (b lim : Int) (f : Nat → Int) (p : Nat) : Got Int :=
  if runEnd (isDg b) f p = p then .err 20 else if lim < val b f p (runEnd (isDg b) f p - p) then .err 2 else .ok (val b f p (runEnd (isDg b) f p - p)) (runEnd (isDg b) f p)

noncomputable def nameAt (f : Nat → Int) (p : Nat) : Got (List Int) :=
  if 40 < runEnd isNm f p - p then .err 2 else .ok ((cut f p (runEnd isNm f p - p)).map low) (runEnd isNm f p)

noncomputable def quoteAt (f : Nat → Int) (p : Nat) : Got (List Int) :=
  if f p = 34 then if f (runEnd isSt f (p + 1)) = 34 then .ok (cut f (p + 1) (runEnd isSt f (p + 1) - (p + 1))) (runEnd isSt f (p + 1) + 1) else .err 20 else .err 20

/-- How often what follows stands: at least, at most, and whether that was said. -/
noncomputable def countAt (f : Nat → Int) (p : Nat) : Got (Int × Int × Bool) :=
  match (if isDc (f p) then numAt 10 200 f p else .ok (-1) p) with
  | .err c => .err c
  | .ok lo q =>
    if f q = 42 then
      match (if isDc (f (q + 1)) then numAt 10 200 f (q + 1) else .ok (-1) (q + 1)) with
      | .err c => .err c
      | .ok hi q' => .ok (max lo 0, hi, true) q'
    else .ok (max lo 0, max lo 0, decide (0 ≤ lo)) q

/-- An expression: its kind (1 Alt, 2 Seq, 3 Rep, 4 Ref, 5 Fold, 6 Nums, 7 Span), its text, its numbers, how often, its kids. -/
inductive Tree
  | mk (kind : Int) (text : List Int) (nums : List Int) (lo hi : Int) (kids : List Tree)

def foldT (x : List Int) : Tree := .mk 5 (x.map low) [] 0 0 []
def refT (x : List Int) : Tree := .mk 4 x [] 0 0 []
def litT (x : List Int) (exact : Bool) : Tree := if exact = true ∧ x ≠ [] then .mk 6 [] x 0 0 [] else foldT x
def repT (lo hi : Int) (t : Tree) : Tree := .mk 3 [] [] lo hi [t]
/-- Several of a kind, or the only one. -/
def joinT (kind : Int) : List Tree → Tree
  | [t] => t
  | l => .mk kind [] [] 0 0 l

/-- What the byte behind a percent sign says. -/
inductive Pct
  | text (exact : Bool)
  | base (b : Int)
  | none
def kindOf (c : Int) : Pct :=
  if c = 115 ∨ c = 83 then .text true else if c = 105 ∨ c = 73 then .text false else if c = 98 ∨ c = 66 then .base 2 else if c = 100 ∨ c = 68 then .base 10 else if c = 120 ∨ c = 88 then .base 16 else .none

/-- What may be asked for: alternatives, more of them; a concatenation, more of it; a repetition; an element; more numbers behind a dot; numbers to a base. -/
inductive Ask
  | alts
  | altMore (l : List Tree)
  | conc
  | concMore (l : List Tree)
  | rep
  | elem
  | nums (b : Int)
  | dots (b : Int) (l : List Int)

/-- The answer to what is asked for in d brackets from p on. -/
inductive Ans (f : Nat → Int) : Ask → Nat → Nat → Got Tree → Prop
  | altsOk {d p q : Nat} {t : Tree} {r : Got Tree} : Ans f .conc d p (.ok t q) → Ans f (.altMore [t]) d q r → Ans f .alts d p r
  | altsErr {d p : Nat} {c : Int} : Ans f .conc d p (.err c) → Ans f .alts d p (.err c)
  | moreEnd {d p : Nat} {l : List Tree} : f p ≠ 47 → Ans f (.altMore l) d p (.ok (joinT 1 l) p)
  | moreOk {d p q : Nat} {l : List Tree} {t : Tree} {r : Got Tree} : f p = 47 → Ans f .conc d (skipEnd f (p + 1)) (.ok t q) → Ans f (.altMore (l ++ [t])) d q r → Ans f (.altMore l) d p r
  | moreErr {d p : Nat} {l : List Tree} {c : Int} : f p = 47 → Ans f .conc d (skipEnd f (p + 1)) (.err c) → Ans f (.altMore l) d p (.err c)
  | concOk {d p q : Nat} {t : Tree} {r : Got Tree} : Ans f .rep d p (.ok t q) → Ans f (.concMore [t]) d q r → Ans f .conc d p r
  | concErr {d p : Nat} {c : Int} : Ans f .rep d p (.err c) → Ans f .conc d p (.err c)
  | cmoreEnd {d p : Nat} {l : List Tree} : ¬ (p < skipEnd f p ∧ isRp (f (skipEnd f p)) = true) → Ans f (.concMore l) d p (.ok (joinT 2 l) (skipEnd f p))
  | cmoreOk {d p q : Nat} {l : List Tree} {t : Tree} {r : Got Tree} : p < skipEnd f p ∧ isRp (f (skipEnd f p)) = true → Ans f .rep d (skipEnd f p) (.ok t q) → Ans f (.concMore (l ++ [t])) d q r → Ans f (.concMore l) d p r
  | cmoreErr {d p : Nat} {l : List Tree} {c : Int} : p < skipEnd f p ∧ isRp (f (skipEnd f p)) = true → Ans f .rep d (skipEnd f p) (.err c) → Ans f (.concMore l) d p (.err c)
  | repCount {d p : Nat} {c : Int} : countAt f p = .err c → Ans f .rep d p (.err c)
  | repErr {d p q : Nat} {c : Int} {x : Int × Int × Bool} : countAt f p = .ok x q → Ans f .elem d q (.err c) → Ans f .rep d p (.err c)
  | repBare {d p q q' : Nat} {lo hi : Int} {t : Tree} : countAt f p = .ok (lo, hi, false) q → Ans f .elem d q (.ok t q') → Ans f .rep d p (.ok t q')
  | repLess {d p q q' : Nat} {lo hi : Int} {t : Tree} : countAt f p = .ok (lo, hi, true) q → Ans f .elem d q (.ok t q') → 0 ≤ hi ∧ hi < lo → Ans f .rep d p (.err 20)
  | repOk {d p q q' : Nat} {lo hi : Int} {t : Tree} : countAt f p = .ok (lo, hi, true) q → Ans f .elem d q (.ok t q') → ¬ (0 ≤ hi ∧ hi < lo) → Ans f .rep d p (.ok (repT lo hi t) q')
  | nameOk {d p q : Nat} {x : List Int} : isAl (f p) = true → nameAt f p = .ok x q → Ans f .elem d p (.ok (refT x) q)
  | nameErr {d p : Nat} {c : Int} : isAl (f p) = true → nameAt f p = .err c → Ans f .elem d p (.err c)
  | deep {d p : Nat} : f p = 40 ∨ f p = 91 → d = 50 → Ans f .elem d p (.err 2)
  | inErr {d p : Nat} {c : Int} : f p = 40 ∨ f p = 91 → d < 50 → Ans f .alts (d + 1) (skipEnd f (p + 1)) (.err c) → Ans f .elem d p (.err c)
  | inOpen {d p q : Nat} {t : Tree} : f p = 40 ∨ f p = 91 → d < 50 → Ans f .alts (d + 1) (skipEnd f (p + 1)) (.ok t q) → f q ≠ (if f p = 40 then 41 else 93) → Ans f .elem d p (.err 20)
  | round {d p q : Nat} {t : Tree} : f p = 40 → d < 50 → Ans f .alts (d + 1) (skipEnd f (p + 1)) (.ok t q) → f q = 41 → Ans f .elem d p (.ok t (q + 1))
  | square {d p q : Nat} {t : Tree} : f p = 91 → d < 50 → Ans f .alts (d + 1) (skipEnd f (p + 1)) (.ok t q) → f q = 93 → Ans f .elem d p (.ok (repT 0 1 t) (q + 1))
  | quoteOk {d p q : Nat} {x : List Int} : f p = 34 → quoteAt f p = .ok x q → Ans f .elem d p (.ok (foldT x) q)
  | quoteErr {d p : Nat} {c : Int} : f p = 34 → quoteAt f p = .err c → Ans f .elem d p (.err c)
  | litOk {d p q : Nat} {x : List Int} {exact : Bool} : f p = 37 → kindOf (f (p + 1)) = .text exact → quoteAt f (p + 2) = .ok x q → Ans f .elem d p (.ok (litT x exact) q)
  | litErr {d p : Nat} {c : Int} {exact : Bool} : f p = 37 → kindOf (f (p + 1)) = .text exact → quoteAt f (p + 2) = .err c → Ans f .elem d p (.err c)
  | value {d p : Nat} {b : Int} {r : Got Tree} : f p = 37 → kindOf (f (p + 1)) = .base b → Ans f (.nums b) d (p + 2) r → Ans f .elem d p r
  | valueNo {d p : Nat} : f p = 37 → kindOf (f (p + 1)) = .none → Ans f .elem d p (.err 20)
  | no {d p : Nat} : isAl (f p) = false → f p ≠ 40 → f p ≠ 91 → f p ≠ 34 → f p ≠ 37 → Ans f .elem d p (.err 20)
  | numsErr {d p : Nat} {b c : Int} : numAt b 1114111 f p = .err c → Ans f (.nums b) d p (.err c)
  | spanErr {d p q : Nat} {b v c : Int} : numAt b 1114111 f p = .ok v q → f q = 45 → numAt b 1114111 f (q + 1) = .err c → Ans f (.nums b) d p (.err c)
  | spanLess {d p q q' : Nat} {b v u : Int} : numAt b 1114111 f p = .ok v q → f q = 45 → numAt b 1114111 f (q + 1) = .ok u q' → u < v → Ans f (.nums b) d p (.err 20)
  | span {d p q q' : Nat} {b v u : Int} : numAt b 1114111 f p = .ok v q → f q = 45 → numAt b 1114111 f (q + 1) = .ok u q' → ¬ u < v → Ans f (.nums b) d p (.ok (.mk 7 [] [v, u] 0 0 []) q')
  | nums {d p q : Nat} {b v : Int} {r : Got Tree} : numAt b 1114111 f p = .ok v q → f q ≠ 45 → Ans f (.dots b [v]) d q r → Ans f (.nums b) d p r
  | dotsEnd {d p : Nat} {b : Int} {l : List Int} : f p ≠ 46 → Ans f (.dots b l) d p (.ok (.mk 6 [] l 0 0 []) p)
  | dotsErr {d p : Nat} {b c : Int} {l : List Int} : f p = 46 → numAt b 1114111 f (p + 1) = .err c → Ans f (.dots b l) d p (.err c)
  | dotsOk {d p q : Nat} {b v : Int} {l : List Int} {r : Got Tree} : f p = 46 → numAt b 1114111 f (p + 1) = .ok v q → Ans f (.dots b (l ++ [v])) d q r → Ans f (.dots b l) d p r

/-- A rule. -/
structure Rule where
  name : List Int
  more : Bool
  expr : Tree

noncomputable def eqAt (f : Nat → Int) (q : Nat) : Nat := if f (skipEnd f q + 1) = 47 then skipEnd f q + 2 else skipEnd f q + 1

inductive RuleAt (f : Nat → Int) : Nat → Got Rule → Prop
  | name {p : Nat} {c : Int} : nameAt f p = .err c → RuleAt f p (.err c)
  | noEq {p q : Nat} {x : List Int} : nameAt f p = .ok x q → f (skipEnd f q) ≠ 61 → RuleAt f p (.err 20)
  | err {p q : Nat} {x : List Int} {c : Int} : nameAt f p = .ok x q → f (skipEnd f q) = 61 → Ans f .alts 0 (skipEnd f (eqAt f q)) (.err c) → RuleAt f p (.err c)
  | noEnd {p q q' : Nat} {x : List Int} {t : Tree} : nameAt f p = .ok x q → f (skipEnd f q) = 61 → Ans f .alts 0 (skipEnd f (eqAt f q)) (.ok t q') → lineEnd f q' = none → RuleAt f p (.err 20)
  | ok {p q q' e : Nat} {x : List Int} {t : Tree} : nameAt f p = .ok x q → f (skipEnd f q) = 61 → Ans f .alts 0 (skipEnd f (eqAt f q)) (.ok t q') → lineEnd f q' = some e →
      RuleAt f p (.ok ⟨x, decide (f (skipEnd f q + 1) = 47), t⟩ e)

/-- The rules from p on, behind others. -/
inductive Rules (f : Nat → Int) : List Rule → Nat → Got (List Rule) → Prop
  | done {l : List Rule} {p : Nat} : f p < 0 → Rules f l p (.ok l p)
  | empty {l : List Rule} {p e : Nat} {r : Got (List Rule)} : 0 ≤ f p → isAl (f p) = false → lineEnd f (runEnd isBl f p) = some e → Rules f l e r → Rules f l p r
  | bad {l : List Rule} {p : Nat} : 0 ≤ f p → isAl (f p) = false → lineEnd f (runEnd isBl f p) = none → Rules f l p (.err 20)
  | err {l : List Rule} {p : Nat} {c : Int} : isAl (f p) = true → RuleAt f p (.err c) → Rules f l p (.err c)
  | many {l : List Rule} {p q : Nat} {x : Rule} : isAl (f p) = true → RuleAt f p (.ok x q) → 500 ≤ l.length → Rules f l p (.err 2)
  | rule {l : List Rule} {p q : Nat} {x : Rule} {r : Got (List Rule)} : isAl (f p) = true → RuleAt f p (.ok x q) → l.length < 500 → Rules f (l ++ [x]) q r → Rules f l p r

end Go.Proofs.YtfoohffeccgkeaaDoor
