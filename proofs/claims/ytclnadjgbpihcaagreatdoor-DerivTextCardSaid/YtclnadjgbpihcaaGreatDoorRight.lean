/- The program's Right. No condition but the library's table, depth and size. -/
import Derived.Test.YtclnadjgbpihcaaGreatDoorAsc
namespace Go.Proofs.YtclnadjgbpihcaaGreatDoor
open Go.RowKit Go.Lib
set_option linter.unusedVariables false
set_option linter.unusedSimpArgs false

/-! ### brackets of a text stand in pairs -/
theorem bal_plain : ∀ (x r : Tx) (d : Nat), plainT x → balF (x ++ r) d = balF r d
  | [], r, d, _ => rfl
  | c :: x, r, d, h => by
    obtain ⟨h1, h2, h3⟩ := h c (by simp)
    rw [List.cons_append, balF, if_neg h1, if_neg h2, if_neg h3, bal_plain x r d fun e he => h e (by simp [he])]
theorem bal_sepN (l : List RT) (ih : ∀ t ∈ l, ∀ (r : Tx) (d : Nat), balF (txt t ++ r) d = balF r d) : ∀ (r : Tx) (d : Nat), balF (sepB [] (l.map txt) ++ r) d = balF r d := by
  induction l with
  | nil => intro r d; rfl
  | cons t l ihl =>
    intro r d
    cases l with
    | nil => exact ih t (by simp) r d
    | cons u l =>
      have h := ihl (fun t ht => ih t (by simp [ht])) r d
      simp only [List.map_cons, sepB, List.append_nil, List.append_assoc] at h ⊢
      rw [ih t (by simp)]
      exact h
theorem bal_sepE (l : List RT) (ih : ∀ t ∈ l, ∀ (r : Tx) (d : Nat), balF (txt t ++ r) d = balF r d) : ∀ (r : Tx) (d : Nat), balF (sepB [124] (l.map txt) ++ r) (d + 1) = balF r (d + 1) := by
  induction l with
  | nil => intro r d; rfl
  | cons t l ihl =>
    intro r d
    cases l with
    | nil => exact ih t (by simp) r (d + 1)
    | cons u l =>
      have h := ihl (fun t ht => ih t (by simp [ht])) r d
      simp only [List.map_cons, sepB, List.append_assoc] at h ⊢
      rw [ih t (by simp), List.cons_append, List.nil_append, balF, if_neg (by decide), if_pos rfl]
      simp only [Nat.zero_lt_succ, decide_true, Bool.true_and]
      exact h
theorem bal_txt (t : RT) : ∀ (r : Tx) (d : Nat), balF (txt t ++ r) d = balF r d := by
  induction t using RT.ind with
  | h k s kids ih =>
    intro r d
    rw [txt_mk]
    by_cases h0 : k = 0
    · rw [if_pos h0]; exact bal_plain [48] r d (plain_cons (by decide) plain_nil)
    by_cases h1 : k = 1
    · rw [if_neg h0, if_pos h1]; exact bal_plain [49] r d (plain_cons (by decide) plain_nil)
    by_cases h2 : k = 2
    · rw [if_neg h0, if_neg h1, if_pos h2]
      exact bal_plain _ r d (plain_cons (by decide) (plain_app (plain_rng s) (plain_cons (by decide) plain_nil)))
    by_cases h3 : k = 3
    · rw [if_neg h0, if_neg h1, if_neg h2, if_pos h3, List.cons_append, List.append_assoc, balF, if_neg (by decide), if_neg (by decide), if_neg (by decide), bal_sepN kids ih]
      exact bal_plain [41] r d (plain_cons (by decide) plain_nil)
    by_cases h5 : k = 5
    · rw [if_neg h0, if_neg h1, if_neg h2, if_neg h3, if_pos h5, List.append_assoc, bal_sepN kids ih]
      exact bal_plain [42] r d (plain_cons (by decide) plain_nil)
    rw [if_neg h0, if_neg h1, if_neg h2, if_neg h3, if_neg h5, List.cons_append, List.append_assoc, balF, if_pos rfl, bal_sepE kids ih]
    show balF (125 :: r) (d + 1) = balF r d
    rw [balF, if_neg (by decide), if_neg (by decide), if_pos rfl]
    simp
theorem bal_all (t : RT) : balF (txt t) 0 = true := by
  have := bal_txt t [] 0
  rw [List.append_nil] at this
  rw [this]
  rfl

/-! ### what hasForm asks, of the tree -/
theorem kids_any {W : World} {P : Nat → Prop} {p : Option Addr} {n cap : Nat} {vs : List ReV} {l : List RT} (h : KidsR W P p n cap vs l) (q : Int → Bool) : (vs.any fun y => q y.kind) = l.any fun t => q t.kind := by
  have e : vs.map ReV.kind = l.map RT.kind := by
    refine List.ext_getElem? fun i => ?_
    rw [List.getElem?_map, List.getElem?_map]
    by_cases hi : i < l.length
    · obtain ⟨y, hy⟩ : ∃ y, vs[i]? = some y := ⟨_, List.getElem?_eq_getElem (by rw [h.len]; exact hi)⟩
      obtain ⟨t, ht⟩ : ∃ t, l[i]? = some t := ⟨_, List.getElem?_eq_getElem hi⟩
      rw [hy, ht]
      obtain ⟨_, e, _⟩ := (h.each i y t hy ht).kids
      show some y.kind = some t.kind
      rw [e]
      rfl
    · rw [List.getElem?_eq_none (by rw [h.len]; omega), List.getElem?_eq_none (by omega)]
      rfl
  have h1 := congrArg (fun m => m.any q) e
  simp only [List.any_map] at h1
  exact h1
theorem kids_pair {W : World} {P : Nat → Prop} {p : Option Addr} {n cap : Nat} {vs : List ReV} {l : List RT} (h : KidsR W P p n cap vs l) : vs.Pairwise Lone ↔ l.Pairwise fun x y => ¬ (x.kind = 2 ∧ y.kind = 2) := by
  have e : vs.map ReV.kind = l.map RT.kind := by
    refine List.ext_getElem? fun i => ?_
    rw [List.getElem?_map, List.getElem?_map]
    by_cases hi : i < l.length
    · obtain ⟨y, hy⟩ : ∃ y, vs[i]? = some y := ⟨_, List.getElem?_eq_getElem (by rw [h.len]; exact hi)⟩
      obtain ⟨t, ht⟩ : ∃ t, l[i]? = some t := ⟨_, List.getElem?_eq_getElem hi⟩
      rw [hy, ht]
      obtain ⟨_, e, _⟩ := (h.each i y t hy ht).kids
      show some y.kind = some t.kind
      rw [e]
      rfl
    · rw [List.getElem?_eq_none (by rw [h.len]; omega), List.getElem?_eq_none (by omega)]
      rfl
  have h1 : (vs.map ReV.kind).Pairwise (fun a b => ¬ (a = 2 ∧ b = 2)) ↔ vs.Pairwise Lone := List.pairwise_map
  have h2 : (l.map RT.kind).Pairwise (fun a b : Int => ¬ (a = 2 ∧ b = 2)) ↔ l.Pairwise fun x y => ¬ (x.kind = 2 ∧ y.kind = 2) := List.pairwise_map
  rw [← h1, ← h2, e]
theorem any_not (l : List RT) (ks : List Int) : (!(l.any fun t => ks.contains t.kind)) = true ↔ ∀ t ∈ l, t.kind ∉ ks := by
  rw [Bool.not_eq_true', List.any_eq_false]
  simp
theorem fB_form {W : World} {P : Nat → Prop} {x : ReV} {t : RT} {vs : List ReV} (et : t = .mk x.kind x.w4 t.kids) (h : KidsR W P x.p x.n x.cap vs t.kids) : fB x vs = true ↔ formP t := by
  have hn := h.num
  have e1 := kids_any h (fun k => [0, 1, 5].contains k)
  have e2 := kids_any h (fun k => [0, 1, 3].contains k)
  have e3 := kids_any h (fun k => [0, 4].contains k)
  have e4 := kids_pair h
  rw [et]
  generalize t.kids = l at hn e1 e2 e3 e4 h
  obtain ⟨k, a, b, c, d, p, n, cap⟩ := x
  simp only at hn
  have f1 : (decide ((⟨a, b, c, d⟩ : W4) = W4.zero) == !(k == 2)) = true ↔ ((⟨a, b, c, d⟩ : W4) = W4.zero ↔ k ≠ 2) := by
    by_cases hz : (⟨a, b, c, d⟩ : W4) = W4.zero <;> by_cases hk : k = 2 <;> simp [hz, hk]
  show ((decide ((⟨a, b, c, d⟩ : W4) = W4.zero) == !(k == 2)) && _) = true ↔ (_ ∧ _)
  rw [Bool.and_eq_true, f1]
  refine and_congr Iff.rfl ?_
  have hnil : (n == 0) = true ↔ l = [] := by rw [beq_iff_eq, hn]; exact List.length_eq_zero_iff
  by_cases h012 : k = 0 ∨ k = 1 ∨ k = 2
  · rw [if_pos h012, hnil]
    constructor
    · intro h; exact .inl ⟨h012, h⟩
    · rintro (⟨_, h⟩ | ⟨h, _⟩ | ⟨h, _⟩ | ⟨h, _⟩)
      · exact h
      · have h : k = 5 := h
        omega
      · have h : k = 3 := h
        omega
      · have h : k = 4 := h
        omega
  · rw [if_neg h012]
    by_cases h5 : k = 5
    · rw [if_pos h5, Bool.and_eq_true, e1, any_not, beq_iff_eq, hn]
      constructor
      · rintro ⟨h1, h2⟩
        exact .inr (.inl ⟨h5, h1, fun t ht => by have := h2 t ht; simp at this; exact this⟩)
      · rintro (⟨h, _⟩ | ⟨_, h1, h2⟩ | ⟨h, _⟩ | ⟨h, _⟩)
        · exact absurd h h012
        · exact ⟨h1, fun t ht => by have := h2 t ht; simp; exact this⟩
        · have h : k = 3 := h
          omega
        · have h : k = 4 := h
          omega
    · rw [if_neg h5]
      by_cases h3 : k = 3
      · rw [if_pos h3, Bool.and_eq_true, e2, any_not, decide_eq_true_iff, hn]
        constructor
        · rintro ⟨h1, h2⟩
          exact .inr (.inr (.inl ⟨h3, h1, fun t ht => by have := h2 t ht; simp at this; exact this⟩))
        · rintro (⟨h, _⟩ | ⟨h, _⟩ | ⟨_, h1, h2⟩ | ⟨h, _⟩)
          · exact absurd h h012
          · exact absurd h h5
          · exact ⟨h1, fun t ht => by have := h2 t ht; simp; exact this⟩
          · have h : k = 4 := h
            omega
      · rw [if_neg h3]
        by_cases h4 : k = 4
        · rw [if_pos h4, Bool.and_eq_true, Bool.and_eq_true, e3, any_not, decide_eq_true_iff, hn]
          have hs : (!(sevB vs)) = true ↔ l.Pairwise fun x y => ¬ (x.kind = 2 ∧ y.kind = 2) := by
            rw [← e4]
            unfold sevB
            by_cases hp : vs.Pairwise Lone <;> simp [hp]
          rw [hs]
          constructor
          · rintro ⟨⟨h1, h2⟩, h6⟩
            exact .inr (.inr (.inr ⟨h4, h1, fun t ht => by have := h2 t ht; simp at this; exact this, h6⟩))
          · rintro (⟨h, _⟩ | ⟨h, _⟩ | ⟨h, _⟩ | ⟨_, h1, h2, h6⟩)
            · exact absurd h h012
            · exact absurd h h5
            · exact absurd h h3
            · exact ⟨⟨h1, fun t ht => by have := h2 t ht; simp; exact this⟩, h6⟩
        · rw [if_neg h4]
          constructor
          · intro h; cases h
          · rintro (⟨h, _⟩ | ⟨h, _⟩ | ⟨h, _⟩ | ⟨h, _⟩)
            · exact absurd h h012
            · exact absurd h h5
            · exact absurd h h3
            · exact absurd h h4

open Classical in
noncomputable def formB (t : RT) : Bool := decide (formP t)
open Classical in
theorem formB_iff (t : RT) : formB t = true ↔ formP t := by unfold formB; exact decide_eq_true_iff
theorem ev_form (t : RT) : evB formB t = true ↔ formA t := by
  induction t using RT.ind with
  | h k s kids ih =>
    rw [evB_eq, Bool.and_eq_true, formB_iff, form_mk, List.all_eq_true]
    show formP (.mk k s kids) ∧ (∀ t ∈ (if k = 0 ∨ k = 1 ∨ k = 2 then [] else kids), _) ↔ _
    constructor
    · rintro ⟨h1, h2⟩
      refine ⟨h1, fun t ht => ?_⟩
      by_cases h : k = 0 ∨ k = 1 ∨ k = 2
      · rcases h1.2 with ⟨_, e⟩ | ⟨e, _⟩ | ⟨e, _⟩ | ⟨e, _⟩
        · subst e; simp at ht
        · omega
        · omega
        · omega
      · rw [if_neg h] at h2
        exact (ih t ht).1 (h2 t ht)
    · rintro ⟨h1, h2⟩
      refine ⟨h1, fun t ht => ?_⟩
      by_cases h : k = 0 ∨ k = 1 ∨ k = 2
      · rw [if_pos h] at ht; simp at ht
      · rw [if_neg h] at ht
        exact (ih t ht).2 (h2 t ht)

open Classical in
noncomputable def rightB (t : RT) : Bool := decide (rightM t)
open Classical in
theorem rightB_iff (t : RT) : rightB t = true ↔ rightM t := by unfold rightB; exact decide_eq_true_iff

end Go.Proofs.YtclnadjgbpihcaaGreatDoor

