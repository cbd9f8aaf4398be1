/- Which expressions may be, and their texts, in words that no program is named in. No condition. -/
import Derived.Test.YtfoohffeccgkeaaDoorRMath
namespace Go.Proofs.YtfoohffeccgkeaaDoor
set_option linter.unusedVariables false

def smB (c : Int) : Bool := decide (97 ≤ c) && decide (c ≤ 122)
def nlB (c : Int) : Bool := smB c || isDc c || c == 45
/-- A name: a small letter, then small letters, digits and '-', at most 40. -/
def nameB : List Int → Bool
  | [] => false
  | c :: l => decide ((c :: l).length ≤ 40) && smB c && (c :: l).all nlB
def foB (c : Int) : Bool := decide (32 ≤ c) && decide (c ≤ 126) && !(c == 34) && !(decide (65 ≤ c) && decide (c ≤ 90))
def numB (n : Int) : Bool := decide (0 ≤ n) && decide (n ≤ 1114111)
def cntB (lo hi : Int) : Bool := decide (0 ≤ lo) && decide (lo ≤ 200) && (hi == -1 || (decide (lo ≤ hi) && decide (hi ≤ 200)))

/-- Whether an expression's own fields are as its kind asks, and the others 0 or empty; n: how many kids. -/
def formB (k : Int) (x ns : List Int) (lo hi : Int) (n : Nat) : Bool :=
  if k = 1 ∨ k = 2 then x.isEmpty && ns.isEmpty && lo == 0 && hi == 0 && decide (2 ≤ n)
  else if k = 3 then x.isEmpty && ns.isEmpty && decide (n = 1) && cntB lo hi
  else if k = 4 then ns.isEmpty && lo == 0 && hi == 0 && decide (n = 0) && nameB x
  else if k = 5 then ns.isEmpty && lo == 0 && hi == 0 && decide (n = 0) && x.all foB
  else if k = 6 then x.isEmpty && lo == 0 && hi == 0 && decide (n = 0) && decide (1 ≤ ns.length) && decide (ns.length ≤ 10000) && ns.all numB
  else if k = 7 then x.isEmpty && lo == 0 && hi == 0 && decide (n = 0) && decide (ns.length = 2) && ns.all numB && decide (ns.getD 0 0 ≤ ns.getD 1 0)
  else false

/-- Whether an expression may be, with at most so many others within one another. -/
def rightF : Nat → Tree → Bool
  | 0, .mk k x ns lo hi kids => formB k x ns lo hi kids.length && kids.isEmpty
  | d + 1, .mk k x ns lo hi kids => formB k x ns lo hi kids.length && kids.all (rightF d)

/-- A number in digits of a base, with at least so many of them. -/
def hexC (n : Nat) : Int := if n < 10 then 48 + n else 55 + n
def hexF : Nat → Nat → List Int
  | 0, _ => []
  | f + 1, n => (if n < 16 then [] else hexF f (n / 16)) ++ [hexC (n % 16)]
def hexT (n : Nat) : List Int := if n < 16 then [48, hexC n] else hexF 6 n
def decF : Nat → Nat → List Int
  | 0, _ => []
  | f + 1, n => (if n < 10 then [] else decF f (n / 10)) ++ [48 + ((n % 10 : Nat) : Int)]
def decT (n : Nat) : List Int := decF 20 n

/-- Texts with another one between each two. -/
def sepT (s : List Int) : List (List Int) → List Int
  | [] => []
  | [x] => x
  | x :: y :: l => x ++ s ++ sepT s (y :: l)

def Tree.kind : Tree → Int
  | .mk k _ _ _ _ _ => k
/-- How often, as it stands ahead. -/
def cntT (lo hi : Int) : List Int :=
  if hi = 0 then [48] else (if 0 < lo then decT lo.toNat else []) ++ (if hi = lo then [] else [42] ++ (if 0 ≤ hi then decT hi.toNat else []))
def brT (b : Bool) (x : List Int) : List Int := if b = true then [40] ++ x ++ [41] else x

/-- An expression's text, out of its kids' texts. -/
def textS (f : Tree → List Int) : Tree → List Int
  | .mk k x ns lo hi kids =>
    if k = 1 then sepT [32, 47, 32] (kids.map fun t => brT (t.kind == 1) (f t))
    else if k = 2 then sepT [32] (kids.map fun t => brT (t.kind == 1 || t.kind == 2) (f t))
    else if k = 3 then
      if lo = 0 ∧ hi = 1 then [91] ++ (kids.map f).flatten ++ [93]
      else cntT lo hi ++ (kids.map fun t => brT (t.kind == 1 || t.kind == 2 || t.kind == 3) (f t)).flatten
    else if k = 4 then x
    else if k = 5 then [34] ++ x ++ [34]
    else [37, 120] ++ sepT (if k = 6 then [46] else [45]) (ns.map fun n => hexT n.toNat)
/-- An expression's text, with at most so many others within one another. -/
def textF : Nat → Tree → List Int
  | 0, t => textS (fun _ => []) t
  | d + 1, t => textS (textF d) t

/-- The rules' text, or none: one of them may not be. -/
def lineT (r : Rule) : List Int := r.name ++ (if r.more = true then [32, 61, 47, 32] else [32, 61, 32]) ++ textF 50 r.expr ++ [10]
def linesB (l : List Rule) : Bool := l.all fun r => nameB r.name && rightF 50 r.expr
def tellT (l : List Rule) : Option (List Int) := if linesB l = true then some (l.map lineT).flatten else none

end Go.Proofs.YtfoohffeccgkeaaDoor
