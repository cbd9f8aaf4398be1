/- The law's rules are right; their text is short, and of bytes. No condition. -/
import Derived.Test.YtddbaacibdmnaaaGreatDoorTZB
import Derived.Test.YtddbaacibdmnaaaGreatDoorTBackB
import Derived.Test.YtddbaacibdmnaaaGreatDoorYSame
namespace Go.Proofs.YtddbaacibdmnaaaGreatDoor
open Go.RowKit
set_option linter.unusedVariables false
set_option linter.unusedSimpArgs false

theorem word_name {x : List Int} (h : x ∈ mkWords) : nameB x = true := by
  simp [mkWords] at h
  rcases h with rfl | rfl | rfl | rfl | rfl <;> decide
theorem fold_fo {x : List Int} (h : x ∈ mkFolds) : x.all foB = true := by
  simp [mkFolds] at h
  rcases h with rfl | rfl | rfl | rfl | rfl <;> decide
theorem right_of {k lo hi : Int} {x ns : List Int} {kids : List Tree} (hf : formB k x ns lo hi kids.length = true) : ∀ e, (kids = [] ∨ ∃ e', e = e' + 1 ∧ ∀ u ∈ kids, rightF e' u = true) → rightF e (.mk k x ns lo hi kids) = true
  | 0, h => by
    rcases h with rfl | ⟨e', he, _⟩
    · unfold rightF; rw [hf]; rfl
    · omega
  | e + 1, h => by
    unfold rightF
    rw [hf]
    rcases h with rfl | ⟨e', he, h⟩
    · rfl
    · obtain rfl : e = e' := by omega
      simpa [List.all_eq_true] using h
theorem mk_right {d : Nat} {t : Tree} (h : Mk d t) : ∀ e, d ≤ e → rightF e t = true := by
  induction h with
  | @ref d x hx =>
    intro e _
    refine right_of ?_ e (.inl rfl)
    simp [formB, word_name hx]
  | @fold d x hx =>
    intro e _
    refine right_of ?_ e (.inl rfl)
    have := fold_fo hx
    unfold formB
    simp only [show ¬((5 : Int) = 1 ∨ (5 : Int) = 2) by omega, show ¬ (5 : Int) = 3 by omega, show ¬ (5 : Int) = 4 by omega, if_false, if_true, this]
    simp
  | @nums d n l hn hl hm =>
    intro e _
    refine right_of ?_ e (.inl rfl)
    have h1 : numB n = true := by
      simp [mkNums] at hn
      rcases hn with rfl | rfl | rfl | rfl | rfl <;> decide
    have h2 : l.all numB = true := by
      rw [List.all_eq_true]
      intro m hm'
      have := hm m hm'
      unfold numB
      simp
      omega
    unfold formB
    simp only [show ¬((6 : Int) = 1 ∨ (6 : Int) = 2) by omega, show ¬ (6 : Int) = 3 by omega, show ¬ (6 : Int) = 4 by omega, show ¬ (6 : Int) = 5 by omega, if_false, if_true, List.all_cons, h1, h2]
    simp
    omega
  | @span d n m h0 h1 h2 =>
    intro e _
    refine right_of ?_ e (.inl rfl)
    have a1 : numB n = true := by unfold numB; simp; omega
    have a2 : numB m = true := by unfold numB; simp; omega
    unfold formB
    simp only [show ¬((7 : Int) = 1 ∨ (7 : Int) = 2) by omega, show ¬ (7 : Int) = 3 by omega, show ¬ (7 : Int) = 4 by omega, show ¬ (7 : Int) = 5 by omega, show ¬ (7 : Int) = 6 by omega, if_false, if_true, List.all_cons, List.all_nil, a1, a2]
    simp
    omega
  | @rep d lo hi t h0 h1 h2 h3 h4 _ ih =>
    intro e he
    obtain ⟨e', rfl⟩ : ∃ e', e = e' + 1 := ⟨e - 1, by omega⟩
    refine right_of ?_ _ (.inr ⟨e', rfl, fun u hu => by simp at hu; subst hu; exact ih e' (by omega)⟩)
    unfold formB cntB
    simp only [show ¬((3 : Int) = 1 ∨ (3 : Int) = 2) by omega, if_false, if_true]
    simp
    omega
  | @many d k l hk h2 h3 _ ih =>
    intro e he
    obtain ⟨e', rfl⟩ : ∃ e', e = e' + 1 := ⟨e - 1, by omega⟩
    refine right_of ?_ _ (.inr ⟨e', rfl, fun u hu => ih u hu e' (by omega)⟩)
    unfold formB
    rw [if_pos hk]
    simp
    omega
theorem made_right {l : List Rule} (h : MadeL l) : l.all rlB = true := by
  rw [List.all_eq_true]
  intro r hr
  obtain ⟨h1, h2⟩ := h r hr
  unfold rlB
  rw [word_name h1, mk_right h2 50 (by omega)]
  rfl
theorem made_len {l : List Rule} (h : MadeL l) (hl : l.length ≤ 5) : ((l.map lineT).flatten).length ≤ 49000 := by
  have key : ∀ m : List Rule, (∀ r ∈ m, r ∈ l) → ((m.map lineT).flatten).length ≤ m.length * 5000 := by
    intro m
    induction m with
    | nil => intro _; simp
    | cons r m ih =>
      intro hm
      obtain ⟨h1, h2⟩ := h r (hm r (by simp))
      have hr := (List.all_eq_true.1 (made_right h)) r (hm r (by simp))
      have e1 := line_len hr
      have e2 : r.expr.tw ≤ 200 := Nat.le_trans (mk_ok h2).2 (by decide)
      have e3 := (word_ok h1).2
      have e4 := ih (fun u hu => hm u (by simp [hu]))
      simp only [List.map_cons, List.flatten_cons, List.length_append, List.length_cons, Nat.add_mul]
      omega
  have := key l (fun r hr => hr)
  have h3 : l.length * 5000 ≤ 5 * 5000 := Nat.mul_le_mul_right _ hl
  omega

def InB (x : List Int) : Prop := ∀ c ∈ x, 0 ≤ c ∧ c ≤ 255
theorem InB.app {x y : List Int} (h : InB x) (g : InB y) : InB (x ++ y) := fun c hc => by
  rcases List.mem_append.1 hc with hc | hc
  · exact h c hc
  · exact g c hc
theorem inb_dec : ∀ f n, InB (decF f n)
  | 0, _ => by intro c hc; simp [decF] at hc
  | f + 1, n => by
    unfold decF
    refine InB.app ?_ ?_
    · split
      · intro c hc; simp at hc
      · exact inb_dec f _
    · intro c hc; simp at hc; omega
theorem hexC_range {n : Nat} (h : n < 16) : 0 ≤ hexC n ∧ hexC n ≤ 255 := by unfold hexC; split <;> omega
theorem inb_hexF : ∀ f n, InB (hexF f n)
  | 0, _ => by intro c hc; simp [hexF] at hc
  | f + 1, n => by
    unfold hexF
    refine InB.app ?_ ?_
    · split
      · intro c hc; simp at hc
      · exact inb_hexF f _
    · intro c hc
      simp at hc
      subst hc
      exact hexC_range (Nat.mod_lt _ (by omega))
theorem inb_hex (n : Nat) : InB (hexT n) := by
  unfold hexT
  split
  · next h =>
    intro c hc
    simp at hc
    rcases hc with rfl | rfl
    · omega
    · exact hexC_range h
  · exact inb_hexF 6 n
theorem inb_sep {s : List Int} (hs : InB s) : ∀ l : List (List Int), (∀ x ∈ l, InB x) → InB (sepT s l)
  | [], _ => by intro c hc; simp [sepT] at hc
  | [x], h => by simpa [sepT] using h x (by simp)
  | x :: y :: l, h => by
    have := inb_sep hs (y :: l) (fun u hu => h u (by simp at hu ⊢; exact .inr hu))
    simp only [sepT]
    exact ((h x (by simp)).app hs).app this
theorem inb_cnt (lo hi : Int) : InB (cntT lo hi) := by
  have hd : ∀ n, InB (decT n) := fun n => inb_dec 20 n
  have hn : InB [] := by intro c hc; simp at hc
  unfold cntT
  split
  · intro c hc; simp at hc; omega
  · refine InB.app ?_ ?_
    · split
      · exact hd _
      · exact hn
    · split
      · exact hn
      · refine InB.app ?_ ?_
        · intro c hc; simp at hc; omega
        · split
          · exact hd _
          · exact hn
theorem inb_br {b : Bool} {x : List Int} (h : InB x) : InB (brT b x) := by
  unfold brT
  split
  · exact ((show InB [40] by intro c hc; simp at hc; omega).app h).app (by intro c hc; simp at hc; omega)
  · exact h
theorem inb_flat {l : List (List Int)} (h : ∀ x ∈ l, InB x) : InB l.flatten := fun c hc => by
  obtain ⟨x, hx, hcx⟩ := List.mem_flatten.1 hc
  exact h x hx c hcx
theorem inb_step {f : Tree → List Int} {k lo hi : Int} {x ns : List Int} {kids : List Tree} (hx : InB x) (hk : ∀ u ∈ kids, InB (f u)) : InB (textS f (.mk k x ns lo hi kids)) := by
  have one : ∀ c : Int, 0 ≤ c → c ≤ 255 → InB [c] := fun c h0 h1 d hd => by simp at hd; omega
  have hm : ∀ (g : Tree → Bool) (l : List Int), l ∈ kids.map (fun t => brT (g t) (f t)) → InB l := fun g l hl => by
    obtain ⟨u, hu, rfl⟩ := List.mem_map.1 hl
    exact inb_br (hk u hu)
  rw [textS]
  split
  · exact inb_sep (by intro c hc; simp at hc; omega) _ (hm _)
  · split
    · exact inb_sep (one 32 (by omega) (by omega)) _ (hm _)
    · split
      · split
        · refine ((one 91 (by omega) (by omega)).app (inb_flat fun y hy => ?_)).app (one 93 (by omega) (by omega))
          obtain ⟨u, hu, rfl⟩ := List.mem_map.1 hy
          exact hk u hu
        · exact (inb_cnt lo hi).app (inb_flat (hm _))
      · split
        · exact hx
        · split
          · exact ((one 34 (by omega) (by omega)).app hx).app (one 34 (by omega) (by omega))
          · refine InB.app (by intro c hc; simp at hc; omega) (inb_sep (by split <;> exact one _ (by omega) (by omega)) _ fun y hy => ?_)
            obtain ⟨u, hu, rfl⟩ := List.mem_map.1 hy
            exact inb_hex _
theorem inb_text : ∀ (d : Nat) (t : Tree), TreeOk t → InB (textF d t)
  | 0, .mk k x ns lo hi kids, h => by
    cases h with
    | mk h1 h2 h3 => rw [textF]; exact inb_step h1 (fun u hu c hc => by simp at hc)
  | d + 1, .mk k x ns lo hi kids, h => by
    cases h with
    | mk h1 h2 h3 => rw [textF]; exact inb_step h1 (fun u hu => inb_text d u (h3 u hu))
theorem inb_lines {l : List Rule} (h : MadeL l) : InB ((l.map lineT).flatten) := inb_flat fun y hy => by
  obtain ⟨r, hr, rfl⟩ := List.mem_map.1 hy
  obtain ⟨h1, h2⟩ := h r hr
  unfold lineT
  refine InB.app (InB.app (InB.app (word_ok h1).1 ?_) (inb_text 50 _ (mk_ok h2).1)) (by intro c hc; simp at hc; omega)
  split <;> (intro c hc; simp at hc; omega)

end Go.Proofs.YtddbaacibdmnaaaGreatDoor

/- What is told of the law's rules is read to them. No condition. -/
namespace Go.Proofs.YtddbaacibdmnaaaGreatDoor
open Go.RowKit
set_option linter.unusedVariables false
set_option linter.unusedSimpArgs false

theorem rd_has {X : List Int} (hX : InB X) : Has (rd (strOf X)) 0 X := fun i c hc => by
  rw [Nat.zero_add]
  obtain ⟨hi, rfl⟩ := List.getElem?_eq_some_iff.1 hc
  rw [rd_in (by rw [strOf_size]; exact hi)]
  have := hX X[i] (List.getElem_mem hi)
  show (((X.map byt).toArray[i]'(by simpa using hi)).toNat : Int) = X[i]
  simp [byt]
  omega
theorem rd_end (X : List Int) : rd (strOf X) (0 + X.length) < 0 := by
  rw [rd_neg, strOf_size]
  omega
theorem made_rules {l : List Rule} (h : MadeL l) (hl : l.length ≤ 5) : ∃ q, Rules (rd (strOf ((l.map lineT).flatten))) [] 0 (.ok l q) := by
  have h1 : linesB l = true := made_right h
  have := lines_read l [] 0 h1 (by simp; omega) (rd_has (inb_lines h)) (rd_end _)
  exact ⟨_, by simpa using this⟩
theorem made_answer {l : List Rule} (h : MadeL l) (hl : l.length ≤ 5) {r : Got (List Rule)} (ha : Answer (strOf ((l.map lineT).flatten)) r) : ∃ q, r = .ok l q := by
  have hs : (strOf ((l.map lineT).flatten)).size ≤ 49000 := by rw [strOf_size]; exact made_len h hl
  unfold Answer at ha
  rw [if_neg (by omega)] at ha
  obtain ⟨q, hq⟩ := made_rules h hl
  exact ⟨q, (ha.one _ hq)⟩

end Go.Proofs.YtddbaacibdmnaaaGreatDoor
