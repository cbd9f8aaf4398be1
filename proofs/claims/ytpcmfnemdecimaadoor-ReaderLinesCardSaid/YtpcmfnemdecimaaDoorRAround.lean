/- Comments and empty lines around a text change nothing, and what stands behind a text of rules comes behind them. No condition. -/
import Derived.Test.YtpcmfnemdecimaaDoorRTwo
namespace Go.Proofs.YtpcmfnemdecimaaDoor
set_option linter.unusedVariables false
set_option linter.unusedSimpArgs false

def ahead : ByteArray := ⟨#[10, 59, 32, 120, 32, 34, 13, 10, 32, 9, 59, 32, 121, 10]⟩
def behind : ByteArray := ⟨#[10, 10, 59, 122]⟩

theorem app_assoc (a b c : ByteArray) : (a ++ b) ++ c = a ++ (b ++ c) := ByteArray.append_assoc

theorem answer_rules {s : ByteArray} {r : Got (List Rule)} (h : Answer s r) (hs : s.size ≤ 50000) : Rules (rd s) [] 0 r := by
  unfold Answer at h
  rwa [if_neg (by omega)] at h
theorem rules_answer {s : ByteArray} {r : Got (List Rule)} (h : Rules (rd s) [] 0 r) (hs : s.size ≤ 50000) : Answer s r := by
  unfold Answer
  rwa [if_neg (by omega)]

theorem tail_same {s : ByteArray} {A : List Rule} {q : Nat} (h : Rules (rd s) [] 0 (.ok A q)) : Rules (rd (s ++ behind)) [] 0 (.ok A (s.size + 4)) := by
  refine join_two h (by decide) (by decide) ?_
  have g : ∀ i, rd (s ++ behind) (i + s.size) = rd behind i := fun i => get_app_right
  have g1 : rd (s ++ behind) (s.size + 1) = 10 := by have := g 1; rw [Nat.add_comm] at this; rw [this]; decide
  have g2 : rd (s ++ behind) (s.size + 2) = 59 := by have := g 2; rw [Nat.add_comm] at this; rw [this]; decide
  have g3 : rd (s ++ behind) (s.size + 3) = 122 := by have := g 3; rw [Nat.add_comm] at this; rw [this]; decide
  have g4 : rd (s ++ behind) (s.size + 4) = -1 := by have := g 4; rw [Nat.add_comm] at this; rw [this]; decide
  obtain ⟨f, hf⟩ : ∃ f, f = rd (s ++ behind) := ⟨_, rfl⟩
  obtain ⟨n, hn⟩ : ∃ n, n = s.size := ⟨_, rfl⟩
  rw [← hf, ← hn] at g1 g2 g3 g4 ⊢
  have r1 : runEnd isBl f (n + 1) = n + 1 := IsRun.eq ⟨Nat.le_refl _, fun i a b => absurd a (by omega), by rw [g1]; decide⟩
  have l1 : lineEnd f (n + 1) = some (n + 2) := by
    have hc : comEnd f (n + 1) = n + 1 := by unfold comEnd; rw [g1, if_neg (by omega)]
    unfold lineEnd
    rw [hc, g1]; rfl
  have r2 : runEnd isBl f (n + 2) = n + 2 := IsRun.eq ⟨Nat.le_refl _, fun i a b => absurd a (by omega), by rw [g2]; decide⟩
  have l2 : lineEnd f (n + 2) = some (n + 4) := by
    have hc : comEnd f (n + 2) = n + 4 := by
      unfold comEnd
      rw [g2, if_pos rfl]
      exact IsRun.eq ⟨by omega, fun i a b => by obtain rfl : i = n + 3 := by omega
                                                rw [g3]; decide, by rw [g4]; decide⟩
    unfold lineEnd
    rw [hc, g4]; rfl
  exact .empty (by rw [g1]; omega) (by rw [g1]; decide) (by rw [r1]; exact l1) (.empty (by rw [g2]; omega) (by rw [g2]; decide) (by rw [r2]; exact l2) (.done (by rw [g4]; omega)))

theorem around_same {s : ByteArray} {A : List Rule} {q : Nat} (hs : s.size ≤ 300) (h : Answer s (.ok A q)) : ∃ q', Answer ((ahead ++ s) ++ behind) (.ok A q') := by
  have h1 := tail_same (answer_rules h (by omega))
  have hsz : (s ++ behind).size = s.size + 4 := by rw [ByteArray.size_append]; rfl
  have hA : A.length ≤ 500 := by
    have := (rules_count h1 (by omega) A _ rfl).1
    simp only [List.length_nil] at this
    omega
  rw [app_assoc]
  have E : Off (s ++ behind) (rd (ahead ++ (s ++ behind))) 14 := ⟨fun i => get_app_right (a := ahead)⟩
  have h2 := (E.rules h1 (by omega) A _ rfl [] (by simpa using hA)).1
  have g : ∀ i, i < 14 → rd (ahead ++ (s ++ behind)) i = rd ahead i := fun i hi => get_app_left (a := ahead) hi
  refine ⟨s.size + 4 + 14, rules_answer ?_ (by rw [ByteArray.size_append, hsz]; show 14 + (s.size + 4) ≤ 50000; omega)⟩
  obtain ⟨f, hf⟩ : ∃ f, f = rd (ahead ++ (s ++ behind)) := ⟨_, rfl⟩
  rw [← hf] at g h2 ⊢
  have v : ∀ j : Fin 14, f j.val = ([10, 59, 32, 120, 32, 34, 13, 10, 32, 9, 59, 32, 121, 10] : List Int).getD j.val (-1) := fun j => by
    rw [g j.val j.isLt]
    have : ∀ j : Fin 14, rd ahead j.val = ([10, 59, 32, 120, 32, 34, 13, 10, 32, 9, 59, 32, 121, 10] : List Int).getD j.val (-1) := by decide
    exact this j
  have f0 : f 0 = 10 := v 0
  have f1 : f 1 = 59 := v 1
  have f2 : f 2 = 32 := v 2
  have f3 : f 3 = 120 := v 3
  have f4 : f 4 = 32 := v 4
  have f5 : f 5 = 34 := v 5
  have f6 : f 6 = 13 := v 6
  have f7 : f 7 = 10 := v 7
  have f8 : f 8 = 32 := v 8
  have f9 : f 9 = 9 := v 9
  have f10 : f 10 = 59 := v 10
  have f11 : f 11 = 32 := v 11
  have f12 : f 12 = 121 := v 12
  have f13 : f 13 = 10 := v 13
  have r0 : runEnd isBl f 0 = 0 := IsRun.eq ⟨Nat.le_refl _, fun i a b => absurd a (by omega), by rw [f0]; decide⟩
  have l0 : lineEnd f 0 = some 1 := by
    have hc : comEnd f 0 = 0 := by unfold comEnd; rw [f0, if_neg (by omega)]
    unfold lineEnd
    rw [hc, f0]; rfl
  have r1 : runEnd isBl f 1 = 1 := IsRun.eq ⟨Nat.le_refl _, fun i a b => absurd a (by omega), by rw [f1]; decide⟩
  have l1 : lineEnd f 1 = some 8 := by
    have hc : comEnd f 1 = 6 := by
      unfold comEnd
      rw [f1, if_pos rfl]
      refine IsRun.eq ⟨by omega, fun i a b => ?_, by rw [f6]; decide⟩
      have hi : i = 2 ∨ i = 3 ∨ i = 4 ∨ i = 5 := by omega
      rcases hi with rfl | rfl | rfl | rfl
      · rw [f2]; decide
      · rw [f3]; decide
      · rw [f4]; decide
      · rw [f5]; decide
    unfold lineEnd
    rw [hc, f6, f7]; rfl
  have r8 : runEnd isBl f 8 = 10 := by
    refine IsRun.eq ⟨by omega, fun i a b => ?_, by rw [f10]; decide⟩
    have hi : i = 8 ∨ i = 9 := by omega
    rcases hi with rfl | rfl
    · rw [f8]; decide
    · rw [f9]; decide
  have l10 : lineEnd f 10 = some 14 := by
    have hc : comEnd f 10 = 13 := by
      unfold comEnd
      rw [f10, if_pos rfl]
      refine IsRun.eq ⟨by omega, fun i a b => ?_, by rw [f13]; decide⟩
      have hi : i = 11 ∨ i = 12 := by omega
      rcases hi with rfl | rfl
      · rw [f11]; decide
      · rw [f12]; decide
    unfold lineEnd
    rw [hc, f13]; rfl
  refine .empty (by rw [f0]; omega) (by rw [f0]; decide) (by rw [r0]; exact l0) (.empty (by rw [f1]; omega) (by rw [f1]; decide) (by rw [r1]; exact l1) (.empty (by rw [f8]; omega) (by rw [f8]; decide) (by rw [r8]; exact l10) ?_))
  simpa using h2

def newline : ByteArray := ⟨#[10]⟩
theorem two_same {s t : ByteArray} {A B : List Rule} {q q' : Nat} (hs : s.size ≤ 300) (ht : t.size ≤ 300) (ha : Answer s (.ok A q)) (hb : Answer t (.ok B q')) (h0 : isBl (rd t 0) = false) : ∃ q'', Answer ((s ++ newline) ++ t) (.ok (A ++ B) q'') := by
  have h1 := answer_rules ha (by omega)
  have h2 := answer_rules hb (by omega)
  have hA : A.length ≤ 150 := by
    have := (rules_count h1 (by omega) A _ rfl).1
    have := (rules_count h1 (by omega) A _ rfl).2
    simp only [List.length_nil] at *
    omega
  have hB : B.length ≤ 150 := by
    have := (rules_count h2 (by omega) B _ rfl).1
    have := (rules_count h2 (by omega) B _ rfl).2
    simp only [List.length_nil] at *
    omega
  have E : Off t (rd (s ++ (newline ++ t))) (s.size + 1) := by
    refine ⟨fun i => ?_⟩
    have e1 := get_app_right (a := s) (b := newline ++ t) (i := i + 1)
    have e2 := get_app_right (a := newline) (b := t) (i := i)
    rw [show i + (s.size + 1) = i + 1 + s.size by omega, e1]
    exact e2
  have h3 := (E.rules h2 (by omega) B _ rfl A (by omega)).1
  rw [List.append_nil, Nat.zero_add] at h3
  refine ⟨q' + (s.size + 1), ?_⟩
  rw [app_assoc]
  refine rules_answer (join_two h1 ?_ ?_ h3) ?_
  · have := get_app_left (a := newline) (b := t) (i := 0) (by decide)
    rw [this]; decide
  · have := get_app_right (a := newline) (b := t) (i := 0)
    rw [show (1 : Nat) = 0 + newline.size from rfl, this]
    exact h0
  · rw [ByteArray.size_append, ByteArray.size_append]
    show s.size + (1 + t.size) ≤ 50000
    omega

end Go.Proofs.YtpcmfnemdecimaaDoor
