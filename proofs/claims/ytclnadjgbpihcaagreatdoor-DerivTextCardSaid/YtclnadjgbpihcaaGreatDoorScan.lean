/- The texts of regular expressions, read from the left: where they ascend. No condition. -/
import Derived.Test.YtclnadjgbpihcaaGreatDoorReMath
namespace Go.Proofs.YtclnadjgbpihcaaGreatDoor
open Go.Lib
set_option linter.unusedVariables false
set_option linter.unusedSimpArgs false

/-- What the program's reading of a text answers: the open lists, each from where its next text begins, with the one ahead. -/
noncomputable def scanF (T : Tx) : Tx → Nat → List (Nat × Tx) → Bool
  | [], _, _ => true
  | c :: r, i, st => if c = 123 then scanF T r (i + 1) ((i + 1, []) :: st) else if c = 124 ∨ c = 125 then
      match st with
      | [] => true
      | (f, b) :: st' => if tlt b ((T.drop f).take (i - f)) then scanF T r (i + 1) (if c = 125 then st' else (i + 1, (T.drop f).take (i - f)) :: st') else false
    else scanF T r (i + 1) st
theorem scan_open (T r : Tx) (i : Nat) (st : List (Nat × Tx)) : scanF T (123 :: r) i st = scanF T r (i + 1) ((i + 1, []) :: st) := by
  rw [scanF.eq_def]
  simp
theorem scan_other (T r : Tx) (c : UInt8) (i : Nat) (st : List (Nat × Tx)) (h1 : c ≠ 123) (h2 : ¬ (c = 124 ∨ c = 125)) : scanF T (c :: r) i st = scanF T r (i + 1) st := by
  rw [scanF.eq_def]
  simp only [if_neg h1, if_neg h2]
/-- No brackets of lists, nor what parts them. -/
def plainT (x : Tx) : Prop := ∀ c ∈ x, c ≠ 123 ∧ c ≠ 124 ∧ c ≠ 125
theorem scan_plain (T : Tx) : ∀ (x r : Tx) (i : Nat) (st : List (Nat × Tx)), plainT x → scanF T (x ++ r) i st = scanF T r (i + x.length) st
  | [], r, i, st, _ => rfl
  | c :: x, r, i, st, h => by
    obtain ⟨h1, h2, h3⟩ := h c (by simp)
    rw [List.cons_append, scan_other _ _ _ _ _ h1 (by simp [h2, h3]), scan_plain T x r (i + 1) st fun d hd => h d (by simp [hd])]
    congr 1
    simp
    omega
theorem plain_app {x y : Tx} (hx : plainT x) (hy : plainT y) : plainT (x ++ y) := fun c hc => (List.mem_append.1 hc).elim (hx c) (hy c)
theorem plain_cons {c : UInt8} {y : Tx} (hc : c ≠ 123 ∧ c ≠ 124 ∧ c ≠ 125) (hy : plainT y) : plainT (c :: y) := fun d hd => (List.mem_cons.1 hd).elim (fun e => e ▸ hc) (hy d)
theorem plain_nil : plainT [] := fun c hc => by simp at hc
theorem plain_dig1 (n : Nat) : plainT [UInt8.ofNat (48 + n % 10)] := by
  have key : ∀ k : Fin 10, (UInt8.ofNat (48 + k.val)) ≠ 123 ∧ (UInt8.ofNat (48 + k.val)) ≠ 124 ∧ (UInt8.ofNat (48 + k.val)) ≠ 125 := by decide
  intro c hc
  rw [List.mem_singleton] at hc
  subst hc
  exact key ⟨n % 10, Nat.mod_lt _ (by decide)⟩
theorem plain_digF : ∀ f n, plainT (digF f n)
  | 0, n => plain_dig1 n
  | f + 1, n => by
    rw [digF]
    split
    · exact plain_dig1 n
    · exact plain_app (plain_digF f _) (plain_dig1 n)
theorem plain_sep {c : Tx} (hc : plainT c) : ∀ l : List Tx, (∀ x ∈ l, plainT x) → plainT (sepB c l)
  | [], _ => plain_nil
  | [x], h => h x (by simp)
  | x :: y :: l, h => by
    rw [sepB]
    exact plain_app (plain_app (h x (by simp)) hc) (plain_sep hc (y :: l) fun z hz => h z (by simp [hz]))
theorem plain_rng (s : W4) : plainT (rngT s) := by
  refine plain_sep (plain_cons (by decide) plain_nil) _ fun x hx => ?_
  obtain ⟨r, _, rfl⟩ := List.mem_map.1 hx
  exact plain_app (plain_digF _ _) (plain_cons (by decide) (plain_digF _ _))
theorem txt_ne (t : RT) : txt t ≠ [] := by
  obtain ⟨k, s, kids⟩ := t
  rw [txt_mk]
  split
  · simp
  · split
    · simp
    · split
      · simp
      · split
        · simp
        · split <;> simp
theorem tlt_nil {x : Tx} (h : x ≠ []) : tlt [] x := by
  cases x with
  | nil => exact absurd rfl h
  | cons a x => simp [tlt, compareBytes]

/-- What the texts of a list make of a text ahead: each ascends. -/
def ascFrom (b : Tx) : List RT → Prop
  | [] => True
  | x :: l => tlt b (txt x) ∧ ascFrom (txt x) l
theorem ascFrom_iff (b : Tx) (l : List RT) : ascFrom b l ↔ Asc txt l ∧ ∀ x ∈ l, tlt b (txt x) := by
  induction l generalizing b with
  | nil => simp [ascFrom, Asc]
  | cons x l ih =>
    unfold ascFrom
    rw [ih]
    unfold Asc
    rw [List.pairwise_cons]
    constructor
    · rintro ⟨h1, h2, h3⟩
      exact ⟨⟨h3, h2⟩, fun y hy => (List.mem_cons.1 hy).elim (fun e => e ▸ h1) fun hy => tlt_trans _ _ _ h1 (h3 y hy)⟩
    · rintro ⟨⟨h1, h2⟩, h3⟩
      exact ⟨h3 x (by simp), h2, h1⟩

theorem drop_at {T x r : Tx} {i : Nat} (h : T.drop i = x ++ r) : T.drop (i + x.length) = r := by
  rw [← List.drop_drop, h, List.drop_left]
theorem take_at {T x r : Tx} {i : Nat} (h : T.drop i = x ++ r) : (T.drop i).take x.length = x := by rw [h, List.take_left]

/-- The kids of one that has no list, one behind the other. -/
theorem scan_row (T : Tx) : ∀ (l : List RT), (∀ t ∈ l, ∀ i r st, T.drop i = txt t ++ r → (scanF T (txt t ++ r) i st = true ↔ ascM t ∧ scanF T r (i + (txt t).length) st = true)) →
    ∀ i r st, T.drop i = sepB [] (l.map txt) ++ r → (scanF T (sepB [] (l.map txt) ++ r) i st = true ↔ (∀ t ∈ l, ascM t) ∧ scanF T r (i + (sepB [] (l.map txt)).length) st = true)
  | [], _, i, r, st, _ => by simp [sepB]
  | [x], h, i, r, st, hd => by
    simp only [List.map_cons, List.map_nil, sepB] at hd ⊢
    rw [h x (by simp) i r st hd]
    simp
  | x :: y :: l, h, i, r, st, hd => by
    have e : sepB [] ((x :: y :: l).map txt) = txt x ++ sepB [] ((y :: l).map txt) := by simp [sepB]
    rw [e, List.append_assoc] at hd ⊢
    rw [h x (by simp) i _ st hd, scan_row T (y :: l) (fun t ht => h t (by simp [ht])) _ r st (drop_at hd), List.length_append, Nat.add_assoc]
    constructor
    · rintro ⟨a, b, c⟩
      exact ⟨fun t ht => (List.mem_cons.1 ht).elim (fun e => e ▸ a) (b t), c⟩
    · rintro ⟨a, b⟩
      exact ⟨a x (by simp), fun t ht => a t (by simp [ht]), b⟩
/-- The kids of a list, up to its end. -/
theorem scan_list (T : Tx) : ∀ (l : List RT), l ≠ [] → (∀ t ∈ l, ∀ i r st, T.drop i = txt t ++ r → (scanF T (txt t ++ r) i st = true ↔ ascM t ∧ scanF T r (i + (txt t).length) st = true)) →
    ∀ i r b st, T.drop i = sepB [124] (l.map txt) ++ 125 :: r → (scanF T (sepB [124] (l.map txt) ++ 125 :: r) i ((i, b) :: st) = true ↔ (∀ t ∈ l, ascM t) ∧ ascFrom b l ∧ scanF T r (i + (sepB [124] (l.map txt)).length + 1) st = true)
  | [], hn, _, _, _, _, _, _ => absurd rfl hn
  | [x], _, h, i, r, b, st, hd => by
    simp only [List.map_cons, List.map_nil, sepB] at hd ⊢
    rw [h x (by simp) i _ _ hd, scanF, if_neg (by decide), if_pos (by decide)]
    simp only [Nat.add_sub_cancel_left, take_at hd, if_true]
    unfold ascFrom ascFrom
    by_cases c : tlt b (txt x)
    · rw [if_pos c]
      simp [c]
    · rw [if_neg c]
      simp [c]
  | x :: y :: l, _, h, i, r, b, st, hd => by
    have e : sepB [124] ((x :: y :: l).map txt) = txt x ++ (124 :: sepB [124] ((y :: l).map txt)) := by simp [sepB]
    rw [e, List.append_assoc] at hd ⊢
    rw [h x (by simp) i _ _ hd, List.cons_append, scanF, if_neg (by decide), if_pos (by decide)]
    simp only [Nat.add_sub_cancel_left, take_at hd, if_neg (show ¬ (124 : UInt8) = 125 by decide)]
    unfold ascFrom
    by_cases c : tlt b (txt x)
    · rw [if_pos c]
      have hd2 : T.drop (i + (txt x).length + 1) = sepB [124] ((y :: l).map txt) ++ 125 :: r := by
        have h1 := drop_at hd
        rw [← List.drop_drop, h1]
        rfl
      rw [scan_list T (y :: l) (by simp) (fun t ht => h t (by simp [ht])) _ r _ st hd2]
      have el : i + (txt x).length + 1 + (sepB [124] ((y :: l).map txt)).length + 1 = i + (txt x ++ 124 :: sepB [124] ((y :: l).map txt)).length + 1 := by
        rw [List.length_append, List.length_cons]
        omega
      rw [el]
      constructor
      · rintro ⟨a, b, d, f⟩
        exact ⟨fun t ht => (List.mem_cons.1 ht).elim (fun e => e ▸ a) (b t), ⟨c, d⟩, f⟩
      · rintro ⟨a, ⟨_, d⟩, f⟩
        exact ⟨a x (by simp), fun t ht => a t (by simp [ht]), d, f⟩
    · rw [if_neg c]
      simp [c]
theorem scan_txt (T : Tx) (t : RT) : formA t → ∀ i r st, T.drop i = txt t ++ r → (scanF T (txt t ++ r) i st = true ↔ ascM t ∧ scanF T r (i + (txt t).length) st = true) := by
  induction t using RT.ind with
  | h k s kids ih =>
    intro hf i r st hd
    obtain ⟨⟨_, hp⟩, hf2⟩ := (form_mk k s kids).1 hf
    have ih2 := fun t ht => ih t ht (hf2 t ht)
    rw [asc_mk]
    rcases hp with ⟨hk, rfl⟩ | ⟨rfl, hl, hx⟩ | ⟨rfl, hl, hx⟩ | ⟨rfl, hl, hx, hp⟩
    · have hpl : plainT (txt (.mk k s [])) := by
        rw [txt_mk]
        rcases hk with rfl | rfl | rfl
        · rw [if_pos rfl]
          exact plain_cons (by decide) plain_nil
        · rw [if_neg (by decide), if_pos rfl]
          exact plain_cons (by decide) plain_nil
        · rw [if_neg (by decide), if_neg (by decide), if_pos rfl]
          exact plain_cons (by decide) (plain_app (plain_rng s) (plain_cons (by decide) plain_nil))
      rw [scan_plain T _ _ _ _ hpl]
      constructor
      · intro h
        exact ⟨⟨fun e => by omega, fun t ht => by simp at ht⟩, h⟩
      · exact fun h => h.2
    · have e : txt (.mk 5 s kids) = sepB [] (kids.map txt) ++ [42] := by rw [txt_mk]; rfl
      rw [e, List.append_assoc] at hd ⊢
      rw [scan_row T kids ih2 i _ st hd, scan_plain T [42] r _ st (plain_cons (by decide) plain_nil), List.length_append, Nat.add_assoc]
      constructor
      · rintro ⟨a, b⟩
        exact ⟨⟨fun e => by omega, a⟩, b⟩
      · rintro ⟨⟨_, a⟩, b⟩
        exact ⟨a, b⟩
    · have e : txt (.mk 3 s kids) = [40] ++ (sepB [] (kids.map txt) ++ [41]) := by rw [txt_mk]; rfl
      rw [e, List.append_assoc] at hd ⊢
      rw [scan_plain T [40] _ i st (plain_cons (by decide) plain_nil), List.append_assoc]
      have hd2 := drop_at hd
      rw [List.append_assoc] at hd2
      rw [scan_row T kids ih2 _ _ st hd2, scan_plain T [41] r _ st (plain_cons (by decide) plain_nil)]
      have el : i + ([40] : Tx).length + (sepB [] (kids.map txt)).length + ([41] : Tx).length = i + ([40] ++ (sepB [] (kids.map txt) ++ [41])).length := by
        simp only [List.length_append, List.length_cons, List.length_nil]
        omega
      rw [el]
      constructor
      · rintro ⟨a, b⟩
        exact ⟨⟨fun e => by omega, a⟩, b⟩
      · rintro ⟨⟨_, a⟩, b⟩
        exact ⟨a, b⟩
    · have e : txt (.mk 4 s kids) = 123 :: (sepB [124] (kids.map txt) ++ [125]) := by rw [txt_mk]; rfl
      rw [e, List.cons_append, List.append_assoc] at hd ⊢
      rw [scan_open]
      have hd2 : T.drop (i + 1) = sepB [124] (kids.map txt) ++ 125 :: r := by
        rw [← List.drop_drop, hd]
        rfl
      have hne : kids ≠ [] := fun e => by rw [e] at hl; simp at hl
      show scanF T (sepB [124] (kids.map txt) ++ 125 :: r) (i + 1) ((i + 1, []) :: st) = true ↔ _
      rw [scan_list T kids hne ih2 _ r [] st hd2]
      have el : i + 1 + (sepB [124] (kids.map txt)).length + 1 = i + (123 :: (sepB [124] (kids.map txt) ++ [125])).length := by
        simp only [List.length_append, List.length_cons, List.length_nil]
        omega
      rw [el, ascFrom_iff]
      constructor
      · rintro ⟨a, ⟨b, _⟩, c⟩
        exact ⟨⟨fun _ => b, a⟩, c⟩
      · rintro ⟨⟨a, b⟩, c⟩
        exact ⟨b, ⟨a rfl, fun x _ => tlt_nil (txt_ne x)⟩, c⟩
/-- The whole text. -/
theorem scan_all {t : RT} (hf : formA t) : scanF (txt t) (txt t) 0 [] = true ↔ ascM t := by
  have := scan_txt (txt t) t hf 0 [] [] (by simp)
  rw [List.append_nil] at this
  rw [this]
  simp [scanF]

end Go.Proofs.YtclnadjgbpihcaaGreatDoor

