/- How long the text of an expression is at most; how much there is in it. No condition. -/
import Derived.Test.YtfoohffeccgkeaaDoorTNum
namespace Go.Proofs.YtfoohffeccgkeaaDoor
set_option linter.unusedVariables false
set_option linter.unusedSimpArgs false

/-- How much there is in an expression. -/
def Tree.tw : Tree → Nat
  | .mk _ x ns _ _ kids => 1 + x.length + ns.length + (kids.map Tree.tw).sum

theorem decT_len {n : Int} (h0 : 0 ≤ n) (h : n ≤ 200) : (decT n.toNat).length ≤ 3 := by
  have : decT n.toNat = decF 3 n.toNat := (decF_more2 3 20 n.toNat (by rw [show (10 : Nat) ^ 3 = 1000 by decide]; omega) (by omega) (by omega)).symm
  rw [this]
  exact decF_len 3 _
theorem hexF_len : ∀ f n, (hexF f n).length ≤ f
  | 0, _ => by simp [hexF]
  | f + 1, n => by
    unfold hexF
    split
    · simp
    · have := hexF_len f (n / 16)
      simp
      omega
theorem hexT_len (n : Nat) : (hexT n).length ≤ 6 := by
  unfold hexT
  split
  · simp
  · exact hexF_len 6 n
theorem cntT_len {lo hi : Int} (h : cntB lo hi = true) : (cntT lo hi).length ≤ 7 := by
  unfold cntB at h
  simp at h
  have d1 : (if 0 < lo then decT lo.toNat else []).length ≤ 3 := by
    split
    · exact decT_len (by omega) (by omega)
    · simp
  have d2 : (if 0 ≤ hi then decT hi.toNat else []).length ≤ 3 := by
    split
    · exact decT_len (by omega) (by omega)
    · simp
  unfold cntT
  by_cases g0 : hi = 0
  · rw [if_pos g0]; simp
  rw [if_neg g0]
  by_cases g1 : hi = lo
  · rw [if_pos g1, List.append_nil]; omega
  rw [if_neg g1, List.length_append, List.length_append]
  show _ + (1 + _) ≤ _
  omega
theorem brT_len (b : Bool) (x : List Int) : (brT b x).length ≤ x.length + 2 := by
  unfold brT
  split <;> simp
theorem sep_len (s : List Int) : ∀ (l : List (List Int)), (sepT s l).length ≤ (l.map fun x => x.length + s.length).sum
  | [] => by simp [sepT]
  | [x] => by simp [sepT]
  | x :: y :: l => by
    have := sep_len s (y :: l)
    simp only [sepT, List.length_append, List.map_cons, List.sum_cons] at this ⊢
    omega
theorem sum_le {α : Type} {f g : α → Nat} : ∀ (l : List α), (∀ x ∈ l, f x ≤ g x) → (l.map f).sum ≤ (l.map g).sum
  | [], _ => by simp
  | x :: l, h => by
    have h1 := h x (by simp)
    have h2 := sum_le l (fun y hy => h y (by simp [hy]))
    simp
    omega
theorem sum_mul {α : Type} (k : Nat) (f : α → Nat) : ∀ (l : List α), (l.map fun x => k * f x).sum = k * (l.map f).sum
  | [] => by simp
  | x :: l => by simp [sum_mul k f l, Nat.mul_add]
theorem sum_const {α : Type} (k : Nat) : ∀ (l : List α), (l.map fun _ => k).sum = k * l.length
  | [] => by simp
  | x :: l => by simp [sum_const k l, Nat.mul_add]; omega
theorem flat_le {α : Type} (f : α → List Int) : ∀ (l : List α), ((l.map f).flatten).length = (l.map fun x => (f x).length).sum
  | [] => rfl
  | x :: l => by simp [flat_le f l]

theorem text_step {f : Tree → List Int} {t : Tree} (h : ∀ k x ns lo hi kids, t = .mk k x ns lo hi kids → formB k x ns lo hi kids.length = true ∧ ∀ u ∈ kids, (f u).length + 5 ≤ 20 * u.tw) : (textS f t).length + 5 ≤ 20 * t.tw := by
  obtain ⟨k, x, ns, lo, hi, kids⟩ := t
  obtain ⟨h1, h2⟩ := h k x ns lo hi kids rfl
  have e : (Tree.mk k x ns lo hi kids).tw = 1 + x.length + ns.length + (kids.map Tree.tw).sum := by rw [Tree.tw]
  have hs : (kids.map fun u => (f u).length + 5).sum ≤ 20 * (kids.map Tree.tw).sum := by
    rw [← sum_mul]
    exact sum_le kids h2
  rw [e, textS]
  by_cases k1 : k = 1
  · rw [if_pos k1]
    have a := sep_len [32, 47, 32] (kids.map fun t => brT (t.kind == 1) (f t))
    rw [List.map_map] at a
    have b : (kids.map ((fun x : List Int => x.length + ([32, 47, 32] : List Int).length) ∘ fun t => brT (t.kind == 1) (f t))).sum ≤ (kids.map fun u => (f u).length + 5).sum := sum_le kids fun u hu => by
      have := brT_len (u.kind == 1) (f u)
      simp
      omega
    omega
  rw [if_neg k1]
  by_cases k2 : k = 2
  · rw [if_pos k2]
    have a := sep_len [32] (kids.map fun t => brT (t.kind == 1 || t.kind == 2) (f t))
    rw [List.map_map] at a
    have b : (kids.map ((fun x : List Int => x.length + ([32] : List Int).length) ∘ fun t => brT (t.kind == 1 || t.kind == 2) (f t))).sum ≤ (kids.map fun u => (f u).length + 5).sum := sum_le kids fun u hu => by
      have := brT_len (u.kind == 1 || u.kind == 2) (f u)
      simp
      omega
    omega
  rw [if_neg k2]
  by_cases k3 : k = 3
  · rw [if_pos k3]
    unfold formB at h1
    rw [if_neg (by omega), if_pos k3] at h1
    simp only [Bool.and_eq_true, decide_eq_true_eq] at h1
    have hc := cntT_len h1.2
    split
    · have a := flat_le f kids
      have b : (kids.map fun x => (f x).length).sum ≤ (kids.map fun u => (f u).length + 5).sum := sum_le kids fun u hu => by omega
      simp only [List.length_append, List.length_cons, List.length_nil]
      omega
    · have a := flat_le (fun t => brT (t.kind == 1 || t.kind == 2 || t.kind == 3) (f t)) kids
      have b : (kids.map fun x => (brT (x.kind == 1 || x.kind == 2 || x.kind == 3) (f x)).length).sum ≤ (kids.map fun u => (f u).length + 5).sum := sum_le kids fun u hu => by
        have := brT_len (u.kind == 1 || u.kind == 2 || u.kind == 3) (f u)
        omega
      simp only [List.length_append]
      omega
  rw [if_neg k3]
  by_cases k4 : k = 4
  · rw [if_pos k4]; omega
  rw [if_neg k4]
  by_cases k5 : k = 5
  · rw [if_pos k5]
    simp only [List.length_append, List.length_cons, List.length_nil]
    omega
  rw [if_neg k5]
  have key : ∀ s : List Int, s.length = 1 → (sepT s (ns.map fun n => hexT n.toNat)).length ≤ 7 * ns.length := fun s hs => by
    have a := sep_len s (ns.map fun n => hexT n.toNat)
    rw [List.map_map] at a
    have b : (ns.map ((fun x : List Int => x.length + s.length) ∘ fun n : Int => hexT n.toNat)).sum ≤ (ns.map fun _ => 7).sum := sum_le ns fun u hu => by
      have := hexT_len u.toNat
      simp
      omega
    rw [sum_const] at b
    omega
  have := key (if k = 6 then [46] else [45]) (by split <;> rfl)
  simp only [List.length_append, List.length_cons, List.length_nil]
  omega
theorem text_len : ∀ (d : Nat) (t : Tree), rightF d t = true → (textF d t).length + 5 ≤ 20 * t.tw
  | 0, .mk k x ns lo hi kids, h => by
    unfold rightF at h
    simp only [Bool.and_eq_true, List.isEmpty_iff] at h
    rw [textF]
    refine text_step fun k' x' ns' lo' hi' kids' e => ?_
    cases e
    exact ⟨h.1, fun u hu => by rw [h.2] at hu; simp at hu⟩
  | d + 1, .mk k x ns lo hi kids, h => by
    unfold rightF at h
    simp only [Bool.and_eq_true, List.all_eq_true] at h
    rw [textF]
    refine text_step fun k' x' ns' lo' hi' kids' e => ?_
    cases e
    exact ⟨h.1, fun u hu => text_len d u (h.2 u hu)⟩

/-- With more room it is as right, and its text is the same. -/
theorem textS_congr {f g : Tree → List Int} {k lo hi : Int} {x ns : List Int} {kids : List Tree} (h : ∀ u ∈ kids, f u = g u) : textS f (.mk k x ns lo hi kids) = textS g (.mk k x ns lo hi kids) := by
  have e1 : (kids.map fun t => brT (t.kind == 1) (f t)) = kids.map fun t => brT (t.kind == 1) (g t) := List.map_congr_left fun u hu => by rw [h u hu]
  have e2 : (kids.map fun t => brT (t.kind == 1 || t.kind == 2) (f t)) = kids.map fun t => brT (t.kind == 1 || t.kind == 2) (g t) := List.map_congr_left fun u hu => by rw [h u hu]
  have e3 : (kids.map fun t => brT (t.kind == 1 || t.kind == 2 || t.kind == 3) (f t)) = kids.map fun t => brT (t.kind == 1 || t.kind == 2 || t.kind == 3) (g t) := List.map_congr_left fun u hu => by rw [h u hu]
  have e4 : kids.map f = kids.map g := List.map_congr_left h
  rw [textS, textS, e1, e2, e3, e4]
theorem right_more : ∀ (d : Nat) (t : Tree), rightF d t = true → ∀ e, d ≤ e → rightF e t = true ∧ textF e t = textF d t
  | 0, .mk k x ns lo hi kids, h, e, _ => by
    unfold rightF at h
    simp only [Bool.and_eq_true, List.isEmpty_iff] at h
    obtain ⟨h1, rfl⟩ := h
    cases e with
    | zero => exact ⟨by unfold rightF; rw [h1]; rfl, rfl⟩
    | succ e => exact ⟨by unfold rightF; rw [h1]; rfl, by rw [textF, textF]; exact textS_congr (fun u hu => by simp at hu)⟩
  | d + 1, .mk k x ns lo hi kids, h, 0, he => absurd he (by omega)
  | d + 1, .mk k x ns lo hi kids, h, e + 1, he => by
    unfold rightF at h
    simp only [Bool.and_eq_true, List.all_eq_true] at h
    refine ⟨?_, ?_⟩
    · unfold rightF
      simp only [Bool.and_eq_true, List.all_eq_true]
      exact ⟨h.1, fun u hu => (right_more d u (h.2 u hu) e (by omega)).1⟩
    · rw [textF, textF]
      exact textS_congr fun u hu => (right_more d u (h.2 u hu) e (by omega)).2

end Go.Proofs.YtfoohffeccgkeaaDoor
