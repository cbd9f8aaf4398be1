/- Regular expressions as trees: their texts, what makes them, and when they are right. No condition. -/
import Derived.Test.YtclnadjgbpihcaaGreatDoorOrd
import Derived.Test.YtclnadjgbpihcaaGreatDoorList
namespace Go.Proofs.YtclnadjgbpihcaaGreatDoor
open Go.Lib
set_option linter.unusedVariables false
set_option linter.unusedSimpArgs false

/-- The four words of a set. -/
structure W4 where
  a : Int
  b : Int
  c : Int
  d : Int
theorem W4.ext' {s t : W4} (h : s.a = t.a ∧ s.b = t.b ∧ s.c = t.c ∧ s.d = t.d) : s = t := by
  cases s; cases t; simp at h; simp [h]
instance : DecidableEq W4 := fun s t => if h : s.a = t.a ∧ s.b = t.b ∧ s.c = t.c ∧ s.d = t.d then isTrue (W4.ext' h) else isFalse fun e => h (by rw [e]; exact ⟨rfl, rfl, rfl, rfl⟩)
def W4.zero : W4 := ⟨0, 0, 0, 0⟩
def W4.mem (s : W4) : Nat → Bool := memb s.a s.b s.c s.d
def W4.Ok (s : W4) : Prop := (0 ≤ s.a ∧ s.a ≤ 18446744073709551615) ∧ (0 ≤ s.b ∧ s.b ≤ 18446744073709551615) ∧ (0 ≤ s.c ∧ s.c ≤ 18446744073709551615) ∧ (0 ≤ s.d ∧ s.d ≤ 18446744073709551615)
def W4.of (f : Nat → Bool) : W4 := ⟨(wd (fun j => f j) 64 : Int), (wd (fun j => f (64 + j)) 64 : Int), (wd (fun j => f (128 + j)) 64 : Int), (wd (fun j => f (192 + j)) 64 : Int)⟩
theorem W4.isSet {s : W4} (h : s.Ok) : IsSet s.a s.b s.c s.d s.mem := IsSet.of _ _ _ _ h.1 h.2.1 h.2.2.1 h.2.2.2
theorem isSet_of {a b c d : Int} {f : Nat → Bool} (h : IsSet a b c d f) : (⟨a, b, c, d⟩ : W4) = W4.of f := by
  obtain ⟨h0, h1, h2, h3⟩ := h
  unfold W4.of
  rw [← h0, ← h1, ← h2, ← h3]
theorem of_isSet (f : Nat → Bool) : IsSet (W4.of f).a (W4.of f).b (W4.of f).c (W4.of f).d f := ⟨rfl, rfl, rfl, rfl⟩
theorem of_ok (f : Nat → Bool) : (W4.of f).Ok := (of_isSet f).range
theorem of_mem {s : W4} (h : s.Ok) : W4.of s.mem = s := (isSet_of (W4.isSet h)).symm
theorem of_congr {f g : Nat → Bool} (h : ∀ b, b < 256 → f b = g b) : W4.of f = W4.of g := isSet_of ((of_isSet f).congr h)
theorem zero_ok : W4.zero.Ok := ⟨by decide, by decide, by decide, by decide⟩
theorem zero_isSet : IsSet 0 0 0 0 (fun _ => false) := IsSet.empty
theorem of_zero (f : Nat → Bool) : W4.of f = W4.zero ↔ ∀ b, b < 256 → f b = false := by
  constructor
  · intro h b hb
    have h1 := of_isSet f
    rw [h] at h1
    exact h1.inj zero_isSet b hb
  · intro h
    rw [of_congr h]
    exact (isSet_of zero_isSet).symm

/-- A regular expression. -/
inductive RT where
  | mk (k : Int) (s : W4) (kids : List RT)
def RT.kind : RT → Int | .mk k _ _ => k
def RT.set : RT → W4 | .mk _ s _ => s
def RT.kids : RT → List RT | .mk _ _ l => l
/-- How many there are in one; how deep it is. -/
def RT.sz : RT → Nat
  | .mk _ _ kids => 1 + (kids.map RT.sz).sum
def RT.dep : RT → Nat
  | .mk _ _ kids => 1 + (kids.map RT.dep).foldr max 0
/-- The words of all its sets are words. -/
def RT.ok : RT → Prop
  | .mk _ s kids => s.Ok ∧ ∀ p ∈ kids.map RT.ok, p
theorem map_all {f : RT → Prop} {l : List RT} : (∀ p ∈ l.map f, p) ↔ ∀ t ∈ l, f t :=
  ⟨fun h t ht => h _ (List.mem_map_of_mem ht), fun h p hp => by obtain ⟨t, ht, rfl⟩ := List.mem_map.1 hp; exact h t ht⟩
theorem ok_mk {k : Int} {s : W4} {kids : List RT} : (RT.mk k s kids).ok ↔ s.Ok ∧ ∀ t ∈ kids, t.ok := by
  rw [RT.ok, map_all]
theorem sz_mk (k : Int) (s : W4) (kids : List RT) : (RT.mk k s kids).sz = 1 + (kids.map RT.sz).sum := by rw [RT.sz]
theorem sz_pos (t : RT) : 0 < t.sz := by
  obtain ⟨k, s, kids⟩ := t
  rw [sz_mk]
  omega
theorem sum_mem {l : List RT} {t : RT} (h : t ∈ l) : t.sz ≤ (l.map RT.sz).sum := by
  induction l with
  | nil => simp at h
  | cons a l ih =>
    simp only [List.map_cons, List.sum_cons]
    rcases List.mem_cons.1 h with rfl | h
    · omega
    · have := ih h; omega
theorem sz_kid {k : Int} {s : W4} {kids : List RT} {t : RT} (h : t ∈ kids) : t.sz < (RT.mk k s kids).sz := by
  rw [sz_mk]
  have := sum_mem h
  omega
theorem dmax_le {l : List Nat} {n : Nat} : (l.foldr max 0) ≤ n ↔ ∀ k ∈ l, k ≤ n := by
  induction l with
  | nil => simp
  | cons a l ih => simp only [List.foldr_cons, Nat.max_le, ih, List.mem_cons, forall_eq_or_imp]
theorem dep_mk {k : Int} {s : W4} {kids : List RT} {n : Nat} : (RT.mk k s kids).dep ≤ n + 1 ↔ ∀ t ∈ kids, t.dep ≤ n := by
  rw [RT.dep]
  have : 1 + (kids.map RT.dep).foldr max 0 ≤ n + 1 ↔ (kids.map RT.dep).foldr max 0 ≤ n := by omega
  rw [this, dmax_le]
  simp
theorem dep_pos (t : RT) : 1 ≤ t.dep := by
  obtain ⟨_, _, _⟩ := t
  rw [RT.dep]
  omega
/-- By the size of what is in it. -/
theorem RT.ind {P : RT → Prop} (h : ∀ k s kids, (∀ t ∈ kids, P t) → P (.mk k s kids)) (t : RT) : P t := by
  suffices q : ∀ (n : Nat) (t : RT), t.sz ≤ n → P t from q _ t (Nat.le_refl _)
  intro n
  induction n with
  | zero => intro t ht; have := sz_pos t; omega
  | succ n ih =>
    intro t ht
    obtain ⟨k, s, kids⟩ := t
    exact h k s kids fun u hu => ih u (by have := sz_kid (k := k) (s := s) hu; omega)

/-! ### texts -/
def digF : Nat → Nat → Tx
  | 0, n => [UInt8.ofNat (48 + n % 10)]
  | f + 1, n => if n < 10 then [UInt8.ofNat (48 + n % 10)] else digF f (n / 10) ++ [UInt8.ofNat (48 + n % 10)]
def dig (n : Nat) : Tx := digF 2 n
def sepB (c : Tx) : List Tx → Tx
  | [] => []
  | [x] => x
  | x :: y :: l => x ++ c ++ sepB c (y :: l)
def rngT (s : W4) : Tx := sepB [44] ((rgs s.mem 256).map fun r => dig r.1 ++ 45 :: dig r.2)
def txt : RT → Tx
  | .mk k s kids => if k = 0 then [48] else if k = 1 then [49] else if k = 2 then 91 :: (rngT s ++ [93]) else if k = 3 then 40 :: (sepB [] (kids.map txt) ++ [41])
    else if k = 5 then sepB [] (kids.map txt) ++ [42] else 123 :: (sepB [124] (kids.map txt) ++ [125])
theorem txt_mk (k : Int) (s : W4) (kids : List RT) : txt (.mk k s kids) = if k = 0 then [48] else if k = 1 then [49] else if k = 2 then 91 :: (rngT s ++ [93]) else if k = 3 then 40 :: (sepB [] (kids.map txt) ++ [41])
    else if k = 5 then sepB [] (kids.map txt) ++ [42] else 123 :: (sepB [124] (kids.map txt) ++ [125]) := by rw [txt]

/-! ### making -/
def noneM : RT := .mk 0 W4.zero []
def emptyM : RT := .mk 1 W4.zero []
def ofM (s : W4) : RT := if s = W4.zero then noneM else .mk 2 s []
def flatM (k : Int) (l : List RT) : List RT := l.flatMap fun r => if r.kind = k then r.kids else [r]
def someM (k e : Int) : List RT → RT
  | [] => .mk e W4.zero []
  | [x] => x
  | x :: y :: l => .mk k W4.zero (x :: y :: l)
def catM (l : List RT) : RT := if (flatM 3 l).any (fun r => r.kind == 0) then noneM else someM 3 1 ((flatM 3 l).filter fun r => !(r.kind == 1))
def unionM (l : List RT) : W4 := W4.of fun b => l.any fun r => r.kind == 2 && r.set.mem b
def byteM (l : List RT) : List RT := if unionM l = W4.zero then [] else [.mk 2 (unionM l) []]
def othersM (l : List RT) : List RT := l.filter fun r => !(r.kind == 0) && !(r.kind == 2)
noncomputable def putsM (l : List RT) : List RT := l.foldl (fun o r => putL txt r false o) []
noncomputable def eitherM (l : List RT) : RT := someM 4 0 (putsM (byteM (flatM 4 l) ++ othersM (flatM 4 l)))
def starM (r : RT) : RT := if r.kind = 0 ∨ r.kind = 1 then emptyM else if r.kind = 5 then r else .mk 5 W4.zero [r]

/-! ### right ones -/
/-- As the document says it. -/
def rightM : RT → Prop
  | .mk k s kids => (∀ p ∈ kids.map rightM, p) ∧ (k ≠ 2 → s = W4.zero) ∧ (((k = 0 ∨ k = 1) ∧ kids = []) ∨ (k = 2 ∧ kids = [] ∧ s ≠ W4.zero) ∨ (k = 5 ∧ ∃ x, kids = [x] ∧ starM x = .mk k s kids) ∨
      (k = 3 ∧ 1 < kids.length ∧ catM kids = .mk k s kids) ∨ (k = 4 ∧ 1 < kids.length ∧ eitherM kids = .mk k s kids))
theorem right_mk (k : Int) (s : W4) (kids : List RT) : rightM (.mk k s kids) ↔ (∀ t ∈ kids, rightM t) ∧ (k ≠ 2 → s = W4.zero) ∧ (((k = 0 ∨ k = 1) ∧ kids = []) ∨ (k = 2 ∧ kids = [] ∧ s ≠ W4.zero) ∨ (k = 5 ∧ ∃ x, kids = [x] ∧ starM x = .mk k s kids) ∨
      (k = 3 ∧ 1 < kids.length ∧ catM kids = .mk k s kids) ∨ (k = 4 ∧ 1 < kids.length ∧ eitherM kids = .mk k s kids)) := by
  rw [rightM, map_all]
/-- As the program asks it of one, but for order. -/
def formP : RT → Prop
  | .mk k s kids => (s = W4.zero ↔ k ≠ 2) ∧ (((k = 0 ∨ k = 1 ∨ k = 2) ∧ kids = []) ∨ (k = 5 ∧ kids.length = 1 ∧ ∀ t ∈ kids, t.kind ≠ 0 ∧ t.kind ≠ 1 ∧ t.kind ≠ 5) ∨
      (k = 3 ∧ 2 ≤ kids.length ∧ ∀ t ∈ kids, t.kind ≠ 0 ∧ t.kind ≠ 1 ∧ t.kind ≠ 3) ∨ (k = 4 ∧ 2 ≤ kids.length ∧ (∀ t ∈ kids, t.kind ≠ 0 ∧ t.kind ≠ 4) ∧ kids.Pairwise fun x y => ¬ (x.kind = 2 ∧ y.kind = 2)))
def formA : RT → Prop
  | .mk k s kids => formP (.mk k s kids) ∧ ∀ p ∈ kids.map formA, p
theorem form_mk (k : Int) (s : W4) (kids : List RT) : formA (.mk k s kids) ↔ formP (.mk k s kids) ∧ ∀ t ∈ kids, formA t := by
  rw [formA, map_all]
/-- In each Either the texts ascend. -/
def ascM : RT → Prop
  | .mk k s kids => (k = 4 → Asc txt kids) ∧ ∀ p ∈ kids.map ascM, p
theorem asc_mk (k : Int) (s : W4) (kids : List RT) : ascM (.mk k s kids) ↔ (k = 4 → Asc txt kids) ∧ ∀ t ∈ kids, ascM t := by
  rw [ascM, map_all]

theorem tlt_trans (x y z : Tx) (h : tlt x y) (k : tlt y z) : tlt x z := by
  unfold tlt at *
  induction x generalizing y z with
  | nil =>
    cases z with
    | nil => cases y <;> simp [compareBytes] at h k
    | cons c z => simp [compareBytes]
  | cons a x ih =>
    cases y with
    | nil => simp [compareBytes] at h
    | cons b y =>
      cases z with
      | nil => simp [compareBytes] at k
      | cons c z =>
        simp only [compareBytes] at h k ⊢
        by_cases h1 : a < b
        · by_cases k1 : b < c
          · have : a < c := UInt8.lt_trans h1 k1
            simp [this]
          · by_cases k2 : c < b
            · simp [k1, k2] at k
            · have e : b = c := UInt8.le_antisymm (UInt8.not_lt.1 k2) (UInt8.not_lt.1 k1)
              subst e
              simp [h1]
        · by_cases h2 : b < a
          · simp [h1, h2] at h
          · have e : a = b := UInt8.le_antisymm (UInt8.not_lt.1 h2) (UInt8.not_lt.1 h1)
            subst e
            by_cases k1 : a < c
            · simp [k1]
            · by_cases k2 : c < a
              · simp [k1, k2] at k
              · simp only [h1, k1, k2, if_false] at h k ⊢
                exact ih y z h k

/-- Put one by one, all their texts unlike. -/
theorem puts_new : ∀ (L o : List RT), Asc txt o → (L.Pairwise fun x y => txt x ≠ txt y) → (∀ x ∈ L, ∀ y ∈ o, txt y ≠ txt x) →
    Asc txt (L.foldl (fun o r => putL txt r false o) o) ∧ ∀ x, x ∈ L.foldl (fun o r => putL txt r false o) o ↔ x ∈ o ∨ x ∈ L
  | [], o, h, _, _ => ⟨h, fun x => by simp⟩
  | r :: L, o, h, hp, hn => by
    obtain ⟨p1, p2⟩ := List.pairwise_cons.1 hp
    obtain ⟨g1, g2⟩ := putL_asc tlt_trans r o h
    have hr : ∀ y ∈ o, txt y ≠ txt r := fun y hy => hn r (by simp) y hy
    obtain ⟨i1, i2⟩ := puts_new L (putL txt r false o) g1 p2 fun x hx y hy => by
      rcases (g2 y).1 hy with q | ⟨rfl, _⟩
      · exact hn x (by simp [hx]) y q
      · exact p1 x hx
    refine ⟨i1, fun x => ?_⟩
    rw [List.foldl_cons, i2, g2, List.mem_cons]
    constructor
    · rintro ((h | ⟨rfl, _⟩) | h)
      · exact .inl h
      · exact .inr (.inl rfl)
      · exact .inr (.inr h)
    · rintro (h | rfl | h)
      · exact .inl (.inl h)
      · exact .inl (.inr ⟨rfl, hr⟩)
      · exact .inr h
theorem puts_asc (L : List RT) : Asc txt (putsM L) ∧ ∀ x ∈ putsM L, x ∈ L := by
  suffices h : ∀ (L o : List RT), Asc txt o → Asc txt (L.foldl (fun o r => putL txt r false o) o) ∧ ∀ x ∈ L.foldl (fun o r => putL txt r false o) o, x ∈ o ∨ x ∈ L by
    obtain ⟨h1, h2⟩ := h L [] List.Pairwise.nil
    exact ⟨h1, fun x hx => (h2 x hx).resolve_left (by simp)⟩
  intro L
  induction L with
  | nil => exact fun o h => ⟨h, fun x hx => .inl hx⟩
  | cons r L ih =>
    intro o h
    obtain ⟨g1, g2⟩ := putL_asc tlt_trans r o h
    obtain ⟨i1, i2⟩ := ih _ g1
    refine ⟨i1, fun x hx => ?_⟩
    rcases i2 x hx with q | q
    · rcases (g2 x).1 q with q | ⟨rfl, _⟩
      · exact .inl q
      · exact .inr (by simp)
    · exact .inr (by simp [q])

theorem flat_mem {k : Int} {l : List RT} {x : RT} (h : x ∈ flatM k l) : (x ∈ l ∧ x.kind ≠ k) ∨ ∃ y ∈ l, y.kind = k ∧ x ∈ y.kids := by
  unfold flatM at h
  obtain ⟨y, hy, hx⟩ := List.mem_flatMap.1 h
  split at hx
  · exact .inr ⟨y, hy, by assumption, hx⟩
  · simp at hx
    subst hx
    exact .inl ⟨hy, by assumption⟩
theorem flat_same {k : Int} {l : List RT} (h : ∀ t ∈ l, t.kind ≠ k) : flatM k l = l := by
  induction l with
  | nil => rfl
  | cons a l ih =>
    unfold flatM at ih ⊢
    rw [List.flatMap_cons, if_neg (h a (by simp)), ih fun t ht => h t (by simp [ht])]
    rfl
theorem kids_sz {y x : RT} (h : x ∈ y.kids) : x.sz < y.sz := by
  obtain ⟨k, s, kids⟩ := y
  exact sz_kid h
theorem flat_sz {k k' : Int} {s : W4} {l : List RT} {x : RT} (h : x ∈ flatM k l) : x.sz < (RT.mk k' s l).sz := by
  rcases flat_mem h with ⟨h, _⟩ | ⟨y, hy, _, hx⟩
  · exact sz_kid h
  · have := sz_kid (k := k') (s := s) hy
    have := kids_sz hx
    omega
theorem some_two {k e : Int} {l : List RT} (h : 2 ≤ l.length) : someM k e l = .mk k W4.zero l := by
  match l with
  | [] => simp at h
  | [x] => simp at h
  | x :: y :: l => rfl
theorem some_is {k e : Int} {l : List RT} {k' : Int} {s : W4} {kids : List RT} (hk : k' ≠ e) (hx : ∀ x ∈ l, x.sz < (RT.mk k' s kids).sz) (h : someM k e l = .mk k' s kids) : k = k' ∧ s = W4.zero ∧ l = kids := by
  match l with
  | [] =>
    simp only [someM, RT.mk.injEq] at h
    exact absurd h.1.symm hk
  | [x] =>
    simp only [someM] at h
    have := hx x (by simp)
    rw [h] at this
    omega
  | x :: y :: l =>
    simp only [someM, RT.mk.injEq] at h
    exact ⟨h.1, h.2.1.symm, h.2.2⟩

theorem flat_long {kids : List RT} (h : ∀ t ∈ kids, formA t) : kids.length ≤ ((flatM 3 kids).filter fun r => !(r.kind == 1)).length + (kids.filter fun r => r.kind == 1).length ∧
    ((∃ t ∈ kids, t.kind = 3) → kids.length < ((flatM 3 kids).filter fun r => !(r.kind == 1)).length + (kids.filter fun r => r.kind == 1).length) := by
  induction kids with
  | nil => simp
  | cons a l ih =>
    obtain ⟨i1, i2⟩ := ih fun t ht => h t (by simp [ht])
    have e : flatM 3 (a :: l) = (if a.kind = 3 then a.kids else [a]) ++ flatM 3 l := rfl
    rw [e, List.filter_append, List.length_append]
    by_cases c : a.kind = 3
    · rw [if_pos c]
      obtain ⟨k, s, kids⟩ := a
      simp only [RT.kind] at c
      subst c
      have hf := ((form_mk _ _ _).1 (h (RT.mk 3 s kids) (by simp))).1
      obtain ⟨_, q⟩ := hf
      rcases q with ⟨q, _⟩ | ⟨q, _⟩ | ⟨_, q1, q2⟩ | ⟨q, _⟩
      · omega
      · omega
      · have hfl : (kids.filter fun r => !(r.kind == 1)) = kids := List.filter_eq_self.2 fun t ht => by
          have := (q2 t ht).2.1
          simpa using this
        have hc : ((RT.mk 3 s kids :: l).filter fun r => r.kind == 1) = l.filter fun r => r.kind == 1 := by
          rw [List.filter_cons, if_neg (by simp [RT.kind])]
        simp only [RT.kids, hfl, hc, List.length_cons]
        exact ⟨by omega, fun _ => by omega⟩
      · omega
    · rw [if_neg c]
      by_cases c1 : a.kind = 1
      · have hc : ((a :: l).filter fun r => r.kind == 1) = a :: l.filter fun r => r.kind == 1 := by rw [List.filter_cons, if_pos (by simp [c1])]
        have hd : ([a].filter fun r => !(r.kind == 1)) = [] := by simp [c1]
        rw [hc, hd]
        simp only [List.length_cons, List.length_nil]
        refine ⟨by omega, fun ⟨t, ht, hk⟩ => ?_⟩
        rcases List.mem_cons.1 ht with rfl | ht
        · exact absurd hk c
        · have := i2 ⟨t, ht, hk⟩
          omega
      · have hc : ((a :: l).filter fun r => r.kind == 1) = l.filter fun r => r.kind == 1 := by rw [List.filter_cons, if_neg (by simp [c1])]
        have hd : ([a].filter fun r => !(r.kind == 1)) = [a] := by simp [c1]
        rw [hc, hd]
        simp only [List.length_cons, List.length_nil]
        refine ⟨by omega, fun ⟨t, ht, hk⟩ => ?_⟩
        rcases List.mem_cons.1 ht with rfl | ht
        · exact absurd hk c
        · have := i2 ⟨t, ht, hk⟩
          omega

/-- What the document calls right has the program's form, and ascends. -/
theorem right_form (t : RT) : rightM t → formA t ∧ ascM t := by
  induction t using RT.ind with
  | h k s kids ih =>
    intro h
    obtain ⟨h1, h2, h3⟩ := (right_mk k s kids).1 h
    have hf : ∀ t ∈ kids, formA t := fun t ht => (ih t ht (h1 t ht)).1
    have ha : ∀ t ∈ kids, ascM t := fun t ht => (ih t ht (h1 t ht)).2
    rw [form_mk, asc_mk]
    suffices q : formP (.mk k s kids) ∧ (k = 4 → Asc txt kids) from ⟨⟨q.1, hf⟩, q.2, ha⟩
    rcases h3 with ⟨hk, rfl⟩ | ⟨rfl, rfl, hs⟩ | ⟨rfl, x, rfl, hx⟩ | ⟨rfl, hl, hc⟩ | ⟨rfl, hl, hc⟩
    · exact ⟨⟨⟨fun _ => by omega, h2⟩, .inl ⟨by omega, rfl⟩⟩, fun e => by omega⟩
    · exact ⟨⟨⟨fun e => absurd e hs, fun e => absurd rfl e⟩, .inl ⟨by omega, rfl⟩⟩, fun e => by omega⟩
    · refine ⟨⟨⟨fun _ => by omega, h2⟩, .inr (.inl ⟨rfl, rfl, fun t ht => ?_⟩)⟩, fun e => by omega⟩
      simp at ht
      subst ht
      unfold starM at hx
      split at hx
      · simp [emptyM] at hx
      · rename_i q
        split at hx
        · have := sz_kid (k := 5) (s := s) (kids := [t]) (t := t) (by simp)
          rw [← hx] at this
          omega
        · exact ⟨fun e => q (.inl e), fun e => q (.inr e), by assumption⟩
    · refine ⟨⟨⟨fun _ => by omega, h2⟩, .inr (.inr (.inl ⟨rfl, hl, ?_⟩))⟩, fun e => by omega⟩
      unfold catM at hc
      split at hc
      · simp [noneM] at hc
      · rename_i hn
        obtain ⟨_, _, e⟩ := some_is (by omega) (fun x hx => flat_sz (List.mem_filter.1 hx).1) hc
        have no1 : ∀ t ∈ kids, t.kind ≠ 1 := fun t ht => by
          rw [← e] at ht
          simpa using (List.mem_filter.1 ht).2
        have no0 : ∀ t ∈ kids, t.kind ≠ 0 := fun t ht q => by
          rw [← e] at ht
          exact hn (List.any_eq_true.2 ⟨t, (List.mem_filter.1 ht).1, by simp [q]⟩)
        have hl1 : (kids.filter fun r => r.kind == 1) = [] := List.filter_eq_nil_iff.2 fun t ht => by simpa using no1 t ht
        have hlong := flat_long hf
        rw [e, hl1] at hlong
        refine fun t ht => ⟨no0 t ht, no1 t ht, fun q => ?_⟩
        have := hlong.2 ⟨t, ht, q⟩
        simp at this
    · unfold eitherM at hc
      obtain ⟨p1, p2⟩ := puts_asc (byteM (flatM 4 kids) ++ othersM (flatM 4 kids))
      have hsz : ∀ x ∈ putsM (byteM (flatM 4 kids) ++ othersM (flatM 4 kids)), x.kind ≠ 4 ∨ x.sz < (RT.mk 4 s kids).sz := fun x hx => by
        rcases List.mem_append.1 (p2 x hx) with q | q
        · left
          unfold byteM at q
          split at q
          · simp at q
          · simp at q
            subst q
            simp [RT.kind]
        · right
          exact flat_sz (List.mem_filter.1 q).1
      have key : s = W4.zero ∧ putsM (byteM (flatM 4 kids) ++ othersM (flatM 4 kids)) = kids := by
        generalize putsM (byteM (flatM 4 kids) ++ othersM (flatM 4 kids)) = o at hc hsz
        match o with
        | [] => simp [someM] at hc
        | [x] =>
          simp only [someM] at hc
          rcases hsz x (by simp) with q | q
          · rw [hc] at q
            exact absurd rfl q
          · rw [hc] at q
            omega
        | x :: y :: l =>
          simp only [someM, RT.mk.injEq] at hc
          exact ⟨hc.2.1.symm, hc.2.2⟩
      obtain ⟨_, e⟩ := key
      have no4 : ∀ t ∈ kids, t.kind ≠ 4 := fun t ht => by
        rw [← e] at ht
        rcases List.mem_append.1 (p2 t ht) with q | q
        · unfold byteM at q
          split at q
          · simp at q
          · simp at q
            subst q
            simp [RT.kind]
        · rcases flat_mem (List.mem_filter.1 q).1 with ⟨_, q⟩ | ⟨y, hy, hk, hx⟩
          · exact q
          · have hfy := hf y hy
            obtain ⟨k', s', kids'⟩ := y
            simp only [RT.kind] at hk
            subst hk
            obtain ⟨⟨_, hh⟩, _⟩ := (form_mk _ _ _).1 hfy
            rcases hh with ⟨w, _⟩ | ⟨w, _⟩ | ⟨w, _⟩ | ⟨_, _, w, _⟩
            · omega
            · omega
            · omega
            · exact (w t hx).2
      have no0 : ∀ t ∈ kids, t.kind ≠ 0 := fun t ht => by
        rw [← e] at ht
        rcases List.mem_append.1 (p2 t ht) with q | q
        · unfold byteM at q
          split at q
          · simp at q
          · simp at q
            subst q
            simp [RT.kind]
        · have := (List.mem_filter.1 q).2
          simp at this
          exact this.1
      rw [e] at p1
      refine ⟨⟨⟨fun _ => by omega, h2⟩, .inr (.inr (.inr ⟨rfl, hl, fun t ht => ⟨no0 t ht, no4 t ht⟩, ?_⟩))⟩, fun _ => p1⟩
      refine p1.imp_of_mem fun {x y} hx hy hxy => fun ⟨k1, k2⟩ => ?_
      have one : ∀ z ∈ kids, z.kind = 2 → z = .mk 2 (unionM (flatM 4 kids)) [] := fun z hz hk => by
        rw [← e] at hz
        rcases List.mem_append.1 (p2 z hz) with q | q
        · unfold byteM at q
          split at q
          · simp at q
          · simpa using q
        · have := (List.mem_filter.1 q).2
          simp [hk] at this
      rw [one x hx k1, one y hy k2] at hxy
      exact tlt_irrefl _ hxy

theorem union_one {l : List RT} {b : RT} (hb : b ∈ l) (hk : b.kind = 2) (hok : b.set.Ok) (h1 : ∀ t ∈ l, t.kind = 2 → t = b) : unionM l = b.set := by
  unfold unionM
  rw [← of_mem hok]
  refine of_congr fun c _ => ?_
  rw [Bool.eq_iff_iff, List.any_eq_true]
  constructor
  · rintro ⟨t, ht, hh⟩
    simp at hh
    rw [h1 t ht hh.1] at hh
    exact hh.2
  · intro hh
    exact ⟨b, hb, by simp [hk, hh]⟩
theorem union_none {l : List RT} (h : ∀ t ∈ l, t.kind ≠ 2) : unionM l = W4.zero := by
  unfold unionM
  rw [of_zero]
  intro b _
  rw [Bool.eq_false_iff]
  intro hh
  obtain ⟨t, ht, hk⟩ := List.any_eq_true.1 hh
  simp at hk
  exact h t ht hk.1

/-- What has the program's form, and ascends, is right. -/
theorem form_right (t : RT) : t.ok → formA t → ascM t → rightM t := by
  induction t using RT.ind with
  | h k s kids ih =>
    intro ho hf ha
    obtain ⟨hf1, hf2⟩ := (form_mk k s kids).1 hf
    obtain ⟨ha1, ha2⟩ := (asc_mk k s kids).1 ha
    have ho2 := (ok_mk.1 ho).2
    obtain ⟨hz, hp⟩ := hf1
    refine (right_mk k s kids).2 ⟨fun t ht => ih t ht (ho2 t ht) (hf2 t ht) (ha2 t ht), hz.2, ?_⟩
    rcases hp with ⟨hk, rfl⟩ | ⟨rfl, hl, hx⟩ | ⟨rfl, hl, hx⟩ | ⟨rfl, hl, hx, hp⟩
    · rcases hk with hk | hk | rfl
      · exact .inl ⟨.inl hk, rfl⟩
      · exact .inl ⟨.inr hk, rfl⟩
      · exact .inr (.inl ⟨rfl, rfl, fun e => hz.1 e rfl⟩)
    · match kids with
      | [x] =>
        obtain ⟨a1, a2, a3⟩ := hx x (by simp)
        refine .inr (.inr (.inl ⟨rfl, x, rfl, ?_⟩))
        unfold starM
        rw [if_neg (by omega), if_neg a3, hz.2 (by omega)]
      | [] => simp at hl
      | _ :: _ :: _ => simp at hl
    · refine .inr (.inr (.inr (.inl ⟨rfl, hl, ?_⟩)))
      unfold catM
      rw [flat_same fun t ht => (hx t ht).2.2, if_neg, List.filter_eq_self.2, some_two hl, hz.2 (by omega)]
      · intro t ht
        simpa using (hx t ht).2.1
      · intro hh
        obtain ⟨t, ht, hk⟩ := List.any_eq_true.1 hh
        exact (hx t ht).1 (by simpa using hk)
    · refine .inr (.inr (.inr (.inr ⟨rfl, hl, ?_⟩)))
      unfold eitherM
      rw [flat_same fun t ht => (hx t ht).2]
      have hA := ha1 rfl
      have hne : kids.Pairwise fun x y => txt x ≠ txt y := hA.imp fun {x y} h e => by rw [e] at h; exact tlt_irrefl _ h
      have same : putsM (byteM kids ++ othersM kids) = kids := by
        have mem : ∀ x, x ∈ byteM kids ++ othersM kids ↔ x ∈ kids := by
          intro x
          rw [List.mem_append]
          unfold othersM byteM
          rw [List.mem_filter]
          by_cases hb : ∃ b ∈ kids, b.kind = 2
          · obtain ⟨b, hb, hk⟩ := hb
            have h1 : ∀ t ∈ kids, t.kind = 2 → t = b := fun t ht hkt => by
              refine Classical.byContradiction fun n => ?_
              obtain ⟨i, hi⟩ := List.getElem?_of_mem ht
              obtain ⟨j, hj⟩ := List.getElem?_of_mem hb
              have hi2 := List.getElem?_eq_some_iff.1 hi
              have hj2 := List.getElem?_eq_some_iff.1 hj
              obtain ⟨hil, hie⟩ := hi2
              obtain ⟨hjl, hje⟩ := hj2
              rcases Nat.lt_trichotomy i j with q | q | q
              · have := List.pairwise_iff_getElem.1 hp i j hil hjl q
                rw [hie, hje] at this
                exact this ⟨hkt, hk⟩
              · subst q
                exact n (hie.symm.trans hje)
              · have := List.pairwise_iff_getElem.1 hp j i hjl hil q
                rw [hie, hje] at this
                exact this ⟨hk, hkt⟩
            have hbo := ho2 b hb
            have hbf := hf2 b hb
            have hu : unionM kids = b.set := union_one hb hk (by obtain ⟨k', s', kids'⟩ := b; exact (ok_mk.1 hbo).1) h1
            obtain ⟨k', s', kids'⟩ := b
            simp only [RT.kind] at hk
            subst hk
            obtain ⟨⟨g1, g2⟩, _⟩ := (form_mk _ _ _).1 hbf
            have hs' : s' ≠ W4.zero := fun e => g1.1 e rfl
            have hkids : kids' = [] := by
              rcases g2 with ⟨_, w⟩ | ⟨w, _⟩ | ⟨w, _⟩ | ⟨w, _⟩
              · exact w
              · omega
              · omega
              · omega
            rw [hu]
            subst hkids
            rw [if_neg (show ¬ (RT.mk 2 s' []).set = W4.zero from hs')]
            constructor
            · rintro (q | ⟨q, _⟩)
              · have q2 : x = RT.mk 2 s' [] := by simpa [RT.set] using q
                rw [q2]
                exact hb
              · exact q
            · intro q
              by_cases c : x.kind = 2
              · rw [h1 x q c]
                exact .inl (by simp [RT.set])
              · refine .inr ⟨q, ?_⟩
                have := (hx x q).1
                simp [c, this]
          · have hno : ∀ t ∈ kids, t.kind ≠ 2 := fun t ht hk => hb ⟨t, ht, hk⟩
            rw [union_none hno, if_pos rfl]
            constructor
            · rintro (q | ⟨q, _⟩)
              · simp at q
              · exact q
            · intro q
              refine .inr ⟨q, ?_⟩
              have := (hx x q).1
              simp [hno x q, this]
        have pw : (byteM kids ++ othersM kids).Pairwise fun x y => txt x ≠ txt y := by
          have h1 : (othersM kids).Pairwise fun x y => txt x ≠ txt y := hne.sublist List.filter_sublist
          refine List.pairwise_append.2 ⟨?_, h1, fun x hx1 y hy1 => ?_⟩
          · unfold byteM
            split <;> simp
          · have hxm := (mem x).1 (List.mem_append_left _ hx1)
            have hym := (mem y).1 (List.mem_append_right _ hy1)
            have hxk : x.kind = 2 := by
              unfold byteM at hx1
              split at hx1
              · simp at hx1
              · simp at hx1
                rw [hx1]
                rfl
            have hyk : y.kind ≠ 2 := by
              have := (List.mem_filter.1 hy1).2
              simp at this
              exact this.2
            intro e
            obtain ⟨i, hi⟩ := List.getElem?_of_mem hxm
            obtain ⟨j, hj⟩ := List.getElem?_of_mem hym
            obtain ⟨hil, hie⟩ := List.getElem?_eq_some_iff.1 hi
            obtain ⟨hjl, hje⟩ := List.getElem?_eq_some_iff.1 hj
            rcases Nat.lt_trichotomy i j with q | q | q
            · have := List.pairwise_iff_getElem.1 hne i j hil hjl q
              rw [hie, hje] at this
              exact this e
            · subst q
              rw [hie] at hje
              rw [hje] at hxk
              exact hyk hxk
            · have := List.pairwise_iff_getElem.1 hne j i hjl hil q
              rw [hie, hje] at this
              exact this e.symm
        obtain ⟨r1, r2⟩ := puts_new (byteM kids ++ othersM kids) [] List.Pairwise.nil pw fun x _ y hy => by simp at hy
        exact asc_one tlt_trans _ _ r1 hA fun x => ⟨fun h => ((r2 x).1 h).elim (fun q => by simp at q) (mem x).1, fun h => (r2 x).2 (.inr ((mem x).2 h))⟩
      rw [same, some_two hl, hz.2 (by omega)]

end Go.Proofs.YtclnadjgbpihcaaGreatDoor

