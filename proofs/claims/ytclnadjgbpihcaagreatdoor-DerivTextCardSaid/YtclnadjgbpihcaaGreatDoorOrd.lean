/- Texts in order: putting one by one, and sorting and then dropping what is there twice, are one. No condition. -/
import Derived.Test.YtclnadjgbpihcaaGreatDoorSMath
import Derived.Lib.Bytealg
namespace Go.Proofs.YtclnadjgbpihcaaGreatDoor
open Go.Sort Go.Lib
set_option linter.unusedVariables false
set_option linter.unusedSimpArgs false

abbrev Tx := List UInt8
def tlt (a b : Tx) : Prop := compareBytes a b < 0
instance (a b : Tx) : Decidable (tlt a b) := inferInstanceAs (Decidable (_ < _))
theorem cb_refl (a : Tx) : compareBytes a a = 0 := by
  induction a with
  | nil => rfl
  | cons x a ih => simp [compareBytes, UInt8.lt_irrefl, ih]
theorem cb_less (a b : Tx) : Op.bytesLess a b = decide (compareBytes a b < 0) := by
  induction a generalizing b with
  | nil => cases b <;> simp [Op.bytesLess, compareBytes]
  | cons x a ih =>
    cases b with
    | nil => simp [Op.bytesLess, compareBytes]
    | cons y b =>
      simp only [Op.bytesLess, compareBytes, ih]
      by_cases h : x < y
      · simp [h]
      · by_cases h2 : y < x
        · have : ¬ x = y := fun e => by subst e; exact UInt8.lt_irrefl x h2
          simp [h, h2, this]
        · have : x = y := UInt8.le_antisymm (UInt8.not_lt.1 h2) (UInt8.not_lt.1 h)
          simp [h, h2, this]
theorem cb_eq (a b : Tx) : ¬ compareBytes a b < 0 → ¬ compareBytes b a < 0 → a = b := by
  induction a generalizing b with
  | nil => cases b <;> simp [compareBytes]
  | cons x a ih =>
    cases b with
    | nil => simp [compareBytes]
    | cons y b =>
      simp only [compareBytes]
      by_cases h : x < y
      · simp [h]
      · by_cases h2 : y < x
        · simp [h, h2]
        · simp only [h, h2, if_false]
          intro h3 h4
          rw [ih b h3 h4, UInt8.le_antisymm (UInt8.not_lt.1 h2) (UInt8.not_lt.1 h)]
theorem tlt_irrefl (a : Tx) : ¬ tlt a a := by unfold tlt; rw [cb_refl]; omega

/-- A comparison by a text. -/
structure KeyOf {α : Type} (cf : α → α → Int) (key : α → Tx) : Prop where
  eq : ∀ x y, cf x y = compareBytes (key x) (key y)

section
variable {α : Type} {key : α → Tx} {ix : α → Nat}
/-- One more, at its place by its text, unless it is there. -/
def putL (key : α → Tx) (r : α) : Bool → List α → List α
  | p, [] => if p then [] else [r]
  | p, x :: l => if key x = key r then x :: putL key r true l else if tlt (key r) (key x) ∧ p = false then r :: x :: putL key r true l else x :: putL key r p l
theorem putL_true (r : α) (l : List α) : putL key r true l = l := by
  induction l with
  | nil => rfl
  | cons x l ih =>
    rw [putL]
    split
    · rw [ih]
    · split
      · rename_i h; simp at h
      · rw [ih]
/-- The lists that ascend by their texts. -/
def Asc (key : α → Tx) (l : List α) : Prop := l.Pairwise fun x y => tlt (key x) (key y)
variable (tr : ∀ x y z : Tx, tlt x y → tlt y z → tlt x z)
include tr
theorem putL_asc (r : α) : ∀ l : List α, Asc key l → Asc key (putL key r false l) ∧ ∀ x, x ∈ putL key r false l ↔ x ∈ l ∨ (x = r ∧ ∀ y ∈ l, key y ≠ key r)
  | [], _ => by
    refine ⟨by simp [putL, Asc], fun x => by simp [putL]⟩
  | a :: l, h => by
    obtain ⟨h1, h2⟩ := List.pairwise_cons.1 h
    obtain ⟨ih1, ih2⟩ := putL_asc r l h2
    rw [putL]
    by_cases e : key a = key r
    · rw [if_pos e, putL_true]
      refine ⟨h, fun x => ⟨fun hx => .inl hx, fun hx => ?_⟩⟩
      rcases hx with hx | ⟨_, hx⟩
      · exact hx
      · exact absurd e (hx a (by simp))
    · rw [if_neg e]
      by_cases c : tlt (key r) (key a)
      · rw [if_pos ⟨c, rfl⟩, putL_true]
        refine ⟨List.pairwise_cons.2 ⟨fun y hy => ?_, h⟩, fun x => ?_⟩
        · rcases List.mem_cons.1 hy with rfl | hy
          · exact c
          · exact tr _ _ _ c (h1 y hy)
        · constructor
          · intro hx
            rcases List.mem_cons.1 hx with rfl | hx
            · refine .inr ⟨rfl, fun y hy e2 => ?_⟩
              rcases List.mem_cons.1 hy with rfl | hy
              · exact e e2
              · have := tr _ _ _ c (h1 y hy)
                rw [e2] at this
                exact tlt_irrefl _ this
            · exact .inl hx
          · rintro (hx | ⟨rfl, _⟩)
            · exact List.mem_cons_of_mem _ hx
            · simp
      · rw [if_neg (by simp [c])]
        refine ⟨List.pairwise_cons.2 ⟨fun y hy => ?_, ih1⟩, fun x => ?_⟩
        · rcases (ih2 y).1 hy with hy | ⟨rfl, _⟩
          · exact h1 y hy
          · refine Classical.byContradiction fun n => ?_
            exact e (cb_eq _ _ n c)
        · rw [List.mem_cons, List.mem_cons, ih2]
          constructor
          · rintro (rfl | hx | ⟨rfl, hx⟩)
            · exact .inl (.inl rfl)
            · exact .inl (.inr hx)
            · exact .inr ⟨rfl, fun y hy => by
                rcases List.mem_cons.1 hy with rfl | hy
                · exact e
                · exact hx y hy⟩
          · rintro ((rfl | hx) | ⟨rfl, hx⟩)
            · exact .inl rfl
            · exact .inr (.inl hx)
            · exact .inr (.inr ⟨rfl, fun y hy => hx y (List.mem_cons_of_mem _ hy)⟩)
/-- Put one by one. -/
theorem put_all (L : List α) (hix : L.Pairwise fun x y => ix x < ix y) : Asc key (L.foldl (fun o r => putL key r false o) []) ∧
    ∀ x, x ∈ L.foldl (fun o r => putL key r false o) [] ↔ x ∈ L ∧ ∀ y ∈ L, key y = key x → ix x ≤ ix y := by
  suffices h : ∀ (R P : List α), L = P ++ R → ∀ o, Asc key o → (∀ x, x ∈ o ↔ x ∈ P ∧ ∀ y ∈ P, key y = key x → ix x ≤ ix y) → Asc key (R.foldl (fun o r => putL key r false o) o) ∧ ∀ x, x ∈ R.foldl (fun o r => putL key r false o) o ↔ x ∈ L ∧ ∀ y ∈ L, key y = key x → ix x ≤ ix y by
    exact h L [] rfl [] List.Pairwise.nil fun x => by simp
  intro R
  induction R with
  | nil =>
    intro P e o h1 h2
    rw [List.append_nil] at e
    subst e
    exact ⟨h1, h2⟩
  | cons r R ih =>
    intro P e o h1 h2
    obtain ⟨g1, g2⟩ := putL_asc tr r o h1
    refine ih (P ++ [r]) (by simp [e]) _ g1 fun x => ?_
    have hP : ∀ y ∈ P, ix y < ix r := fun y hy => by
      rw [e, List.pairwise_append] at hix
      exact hix.2.2 y hy r (by simp)
    rw [g2, h2]
    constructor
    · rintro (⟨hx, hm⟩ | ⟨rfl, hn⟩)
      · refine ⟨by simp [hx], fun y hy ek => ?_⟩
        rcases List.mem_append.1 hy with hy | hy
        · exact hm y hy ek
        · simp at hy
          subst hy
          exact Nat.le_of_lt (hP x hx)
      · refine ⟨by simp, fun y hy ek => ?_⟩
        rcases List.mem_append.1 hy with hy | hy
        · -- the first one with this text is there: against hn
          exfalso
          have key2 : ∀ (n : Nat) (y : α), ix y ≤ n → y ∈ P → key y = key x → ∃ z ∈ o, key z = key x := by
            intro n
            induction n using Nat.strongRecOn with
            | _ n ihn =>
            intro y hn1 hy ek
            by_cases c : ∀ z ∈ P, key z = key y → ix y ≤ ix z
            · exact ⟨y, (h2 y).2 ⟨hy, c⟩, ek⟩
            · obtain ⟨z, hz⟩ := Classical.not_forall.1 c
              obtain ⟨hz1, hz2⟩ := Classical.not_forall.1 hz
              obtain ⟨hz2, hz3⟩ := Classical.not_forall.1 hz2
              exact ihn (ix z) (by omega) z (Nat.le_refl _) hz1 (hz2.trans ek)
          obtain ⟨z, hz1, hz2⟩ := key2 (ix y) y (Nat.le_refl _) hy ek
          exact hn z hz1 hz2
        · simp at hy
          subst hy
          exact Nat.le_refl _
    · rintro ⟨hx, hm⟩
      rcases List.mem_append.1 hx with hx | hx
      · exact .inl ⟨hx, fun y hy ek => hm y (by simp [hy]) ek⟩
      · simp at hx
        subst hx
        refine .inr ⟨rfl, fun y hy ek => ?_⟩
        have h3 := (h2 y).1 hy
        have := hm y (by simp [h3.1]) ek
        have := hP y h3.1
        omega

/-- Without what has the text of the one ahead. -/
def cptF (key : α → Tx) : Tx → List α → List α
  | _, [] => []
  | k, y :: l => if key y = k then cptF key k l else y :: cptF key (key y) l
def cpt (key : α → Tx) : List α → List α
  | [] => []
  | x :: l => x :: cptF key (key x) l
/-- In order, by the texts and then by the places. -/
def SrtL (key : α → Tx) (ix : α → Nat) (l : List α) : Prop := l.Pairwise fun x y => tlt (key x) (key y) ∨ (key x = key y ∧ ix x < ix y)
theorem cptF_asc : ∀ (l : List α) (k : Tx), SrtL key ix l → (∀ y ∈ l, tlt k (key y) ∨ k = key y) →
    Asc key (cptF key k l) ∧ (∀ x ∈ cptF key k l, tlt k (key x)) ∧ ∀ x, x ∈ cptF key k l ↔ x ∈ l ∧ key x ≠ k ∧ ∀ y ∈ l, key y = key x → ix x ≤ ix y
  | [], k, h, hk => ⟨List.Pairwise.nil, fun x hx => by simp [cptF] at hx, fun x => by simp [cptF]⟩
  | a :: l, k, h, hk => by
    obtain ⟨h1, h2⟩ := List.pairwise_cons.1 h
    rw [cptF]
    by_cases e : key a = k
    · rw [if_pos e]
      obtain ⟨i1, i2, i3⟩ := cptF_asc l k h2 fun y hy => hk y (by simp [hy])
      refine ⟨i1, i2, fun x => ?_⟩
      rw [i3]
      constructor
      · rintro ⟨a1, a2, a3⟩
        refine ⟨by simp [a1], a2, fun y hy ek => ?_⟩
        rcases List.mem_cons.1 hy with rfl | hy
        · exact absurd (ek.symm.trans e) a2
        · exact a3 y hy ek
      · rintro ⟨a1, a2, a3⟩
        rcases List.mem_cons.1 a1 with rfl | a1
        · exact absurd e a2
        · exact ⟨a1, a2, fun y hy ek => a3 y (by simp [hy]) ek⟩
    · rw [if_neg e]
      have ka : tlt k (key a) := (hk a (by simp)).resolve_right fun q => e q.symm
      obtain ⟨i1, i2, i3⟩ := cptF_asc l (key a) h2 fun y hy => (h1 y hy).imp id fun q => q.1
      refine ⟨List.pairwise_cons.2 ⟨i2, i1⟩, fun x hx => ?_, fun x => ?_⟩
      · rcases List.mem_cons.1 hx with rfl | hx
        · exact ka
        · exact tr _ _ _ ka (i2 x hx)
      · rw [List.mem_cons, i3]
        constructor
        · rintro (rfl | ⟨a1, a2, a3⟩)
          · refine ⟨by simp, e, fun y hy ek => ?_⟩
            rcases List.mem_cons.1 hy with rfl | hy
            · exact Nat.le_refl _
            · rcases h1 y hy with q | q
              · rw [ek] at q
                exact absurd q (tlt_irrefl _)
              · exact Nat.le_of_lt q.2
          · refine ⟨by simp [a1], fun q => ?_, fun y hy ek => ?_⟩
            · have := i2 x ((i3 x).2 ⟨a1, a2, a3⟩)
              rw [q] at this
              exact tlt_irrefl _ (tr _ _ _ ka this)
            · rcases List.mem_cons.1 hy with rfl | hy
              · exact absurd ek.symm a2
              · exact a3 y hy ek
        · rintro ⟨a1, a2, a3⟩
          rcases List.mem_cons.1 a1 with rfl | a1
          · exact .inl rfl
          · by_cases q : key x = key a
            · have h4 := a3 a (by simp) q.symm
              rcases h1 x a1 with r | r
              · rw [q] at r
                exact absurd r (tlt_irrefl _)
              · omega
            · exact .inr ⟨a1, q, fun y hy ek => a3 y (by simp [hy]) ek⟩
theorem cpt_asc (l : List α) (h : SrtL key ix l) : Asc key (cpt key l) ∧ ∀ x, x ∈ cpt key l ↔ x ∈ l ∧ ∀ y ∈ l, key y = key x → ix x ≤ ix y := by
  cases l with
  | nil => exact ⟨List.Pairwise.nil, fun x => by simp [cpt]⟩
  | cons a l =>
    obtain ⟨h1, h2⟩ := List.pairwise_cons.1 h
    obtain ⟨i1, i2, i3⟩ := cptF_asc tr l (key a) h2 fun y hy => (h1 y hy).imp id fun q => q.1
    rw [cpt]
    refine ⟨List.pairwise_cons.2 ⟨i2, i1⟩, fun x => ?_⟩
    rw [List.mem_cons, i3]
    constructor
    · rintro (rfl | ⟨a1, a2, a3⟩)
      · refine ⟨by simp, fun y hy ek => ?_⟩
        rcases List.mem_cons.1 hy with rfl | hy
        · exact Nat.le_refl _
        · rcases h1 y hy with q | q
          · rw [ek] at q
            exact absurd q (tlt_irrefl _)
          · exact Nat.le_of_lt q.2
      · refine ⟨by simp [a1], fun y hy ek => ?_⟩
        rcases List.mem_cons.1 hy with rfl | hy
        · exact absurd ek.symm a2
        · exact a3 y hy ek
    · rintro ⟨a1, a3⟩
      rcases List.mem_cons.1 a1 with rfl | a1
      · exact .inl rfl
      · by_cases q : key x = key a
        · have h4 := a3 a (by simp) q.symm
          rcases h1 x a1 with r | r
          · rw [q] at r
            exact absurd r (tlt_irrefl _)
          · omega
        · exact .inr ⟨a1, q, fun y hy ek => a3 y (by simp [hy]) ek⟩
/-- Two that ascend and have the same ones are one. -/
theorem asc_one : ∀ (l m : List α), Asc key l → Asc key m → (∀ x, x ∈ l ↔ x ∈ m) → l = m
  | [], [], _, _, _ => rfl
  | [], b :: m, _, _, h => by have := (h b).2 (by simp); simp at this
  | a :: l, [], _, _, h => by have := (h a).1 (by simp); simp at this
  | a :: l, b :: m, h1, h2, h => by
    obtain ⟨a1, a2⟩ := List.pairwise_cons.1 h1
    obtain ⟨b1, b2⟩ := List.pairwise_cons.1 h2
    have e : a = b := by
      rcases List.mem_cons.1 ((h a).1 (by simp)) with e | e
      · exact e
      · rcases List.mem_cons.1 ((h b).2 (by simp)) with e2 | e2
        · exact e2.symm
        · exact absurd (tr _ _ _ (a1 b e2) (b1 a e)) (tlt_irrefl _)
    subst e
    rw [asc_one l m a2 b2 fun x => ?_]
    constructor
    · intro hx
      rcases List.mem_cons.1 ((h x).1 (by simp [hx])) with rfl | q
      · exact absurd (a1 x hx) (tlt_irrefl _)
      · exact q
    · intro hx
      rcases List.mem_cons.1 ((h x).2 (by simp [hx])) with rfl | q
      · exact absurd (b1 x hx) (tlt_irrefl _)
      · exact q
/-- What is sorted, and then without what is there twice, is what is put one by one. -/
theorem sorted_put {L D : List α} (hix : L.Pairwise fun x y => ix x < ix y) (hp : D.Perm L) (hs : SrtL key ix D) : cpt key D = L.foldl (fun o r => putL key r false o) [] := by
  obtain ⟨c1, c2⟩ := cpt_asc tr D hs
  obtain ⟨p1, p2⟩ := put_all tr L hix
  refine asc_one tr _ _ c1 p1 fun x => ?_
  rw [c2, p2, hp.mem_iff]
  constructor
  · rintro ⟨a, b⟩
    exact ⟨a, fun y hy => b y (hp.mem_iff.2 hy)⟩
  · rintro ⟨a, b⟩
    exact ⟨a, fun y hy => b y (hp.mem_iff.1 hy)⟩
end

end Go.Proofs.YtclnadjgbpihcaaGreatDoor

