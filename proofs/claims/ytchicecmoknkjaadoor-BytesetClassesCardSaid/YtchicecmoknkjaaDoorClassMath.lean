/- Plain facts on classes: each byte's class is the number of classes ahead of the first byte that the same sets have; and on the map that finds them. No condition. -/
import Derived.Maps.OwnSet
import Derived.Test.YtchicecmoknkjaaDoorKeyMath
namespace Go.Proofs.YtchicecmoknkjaaDoor
open Go.RowKit

/-- Do the same of the n sets have b and c? -/
def sm (n : Nat) (fs : Nat → Nat → Bool) (b c : Nat) : Bool := (List.range n).all fun i => fs i b == fs i c

theorem sm_iff (n : Nat) (fs : Nat → Nat → Bool) (b c : Nat) : sm n fs b c = true ↔ ∀ i, i < n → fs i b = fs i c := by simp [sm]
theorem sm_refl (n : Nat) (fs : Nat → Nat → Bool) (b : Nat) : sm n fs b b = true := by rw [sm_iff]; intros; rfl
theorem sm_trans {n : Nat} {fs : Nat → Nat → Bool} {b c d : Nat} (h1 : sm n fs b c = true) (h2 : sm n fs c d = true) : sm n fs b d = true := by
  rw [sm_iff] at *; intro i hi; rw [h1 i hi, h2 i hi]
theorem sm_symm {n : Nat} {fs : Nat → Nat → Bool} {b c : Nat} (h : sm n fs b c = true) : sm n fs c b = true := by
  rw [sm_iff] at *; intro i hi; rw [h i hi]

/-- Is there one ahead of k? -/
def anyS (n : Nat) (fs : Nat → Nat → Bool) (k b : Nat) : Bool := (List.range k).any fun j => sm n fs b j
theorem anyS_iff (n : Nat) (fs : Nat → Nat → Bool) (k b : Nat) : anyS n fs k b = true ↔ ∃ j, j < k ∧ sm n fs b j = true := by simp [anyS]
theorem anyS_succ (n : Nat) (fs : Nat → Nat → Bool) (k b : Nat) : anyS n fs (k + 1) b = (anyS n fs k b || sm n fs b k) := by simp [anyS, List.range_succ]

/-- The first byte with the same sets. -/
def rep (n : Nat) (fs : Nat → Nat → Bool) (b : Nat) : Nat := ((List.range b).find? fun j => sm n fs b j).getD b

theorem find_range (p : Nat → Bool) : ∀ k, match (List.range k).find? p with
    | some j => j < k ∧ p j = true ∧ ∀ i, i < j → p i = false
    | none => ∀ i, i < k → p i = false
  | 0 => by simp
  | k + 1 => by
    have ih := find_range p k
    rw [List.range_succ, List.find?_append]
    cases h : (List.range k).find? p with
    | some j =>
      rw [h] at ih
      simp only [Option.some_or]
      exact ⟨by omega, ih.2.1, ih.2.2⟩
    | none =>
      rw [h] at ih
      simp only [Option.none_or]
      cases hp : p k with
      | true => simp only [List.find?_cons, hp]; exact ⟨by omega, trivial, ih⟩
      | false =>
        simp only [List.find?_cons, hp, List.find?_nil]
        intro i hi
        rcases Nat.lt_succ_iff_lt_or_eq.1 hi with h1 | h1
        · exact ih i h1
        · subst h1; exact hp

theorem rep_spec (n : Nat) (fs : Nat → Nat → Bool) (b : Nat) : sm n fs b (rep n fs b) = true ∧ rep n fs b ≤ b ∧ ∀ i, i < rep n fs b → sm n fs b i = false := by
  have h := find_range (fun j => sm n fs b j) b
  unfold rep
  cases hf : (List.range b).find? (fun j => sm n fs b j) with
  | some j => rw [hf] at h; exact ⟨h.2.1, by simp only [Option.getD_some]; omega, h.2.2⟩
  | none => rw [hf] at h; exact ⟨sm_refl n fs b, Nat.le_refl _, h⟩

theorem rep_eq {n : Nat} {fs : Nat → Nat → Bool} {b c : Nat} (h : sm n fs b c = true) : rep n fs b = rep n fs c := by
  obtain ⟨p1, _, p3⟩ := rep_spec n fs b
  obtain ⟨q1, _, q3⟩ := rep_spec n fs c
  rcases Nat.lt_trichotomy (rep n fs b) (rep n fs c) with hl | hl | hl
  · have := q3 _ hl; rw [sm_trans (sm_symm h) p1] at this; cases this
  · exact hl
  · have := p3 _ hl; rw [sm_trans h q1] at this; cases this

/-- How many classes the bytes ahead of k have. -/
def numC (n : Nat) (fs : Nat → Nat → Bool) : Nat → Nat
  | 0 => 0
  | k + 1 => numC n fs k + (if anyS n fs k k then 0 else 1)

theorem numC_le (n : Nat) (fs : Nat → Nat → Bool) : ∀ k, numC n fs k ≤ k
  | 0 => Nat.le_refl _
  | k + 1 => by have := numC_le n fs k; unfold numC; split <;> omega

/-- A byte's class. -/
def clOf (n : Nat) (fs : Nat → Nat → Bool) (b : Nat) : Nat := numC n fs (rep n fs b)

theorem clOf_eq {n : Nat} {fs : Nat → Nat → Bool} {b c : Nat} (h : sm n fs b c = true) : clOf n fs b = clOf n fs c := by unfold clOf; rw [rep_eq h]

theorem clOf_new {n : Nat} {fs : Nat → Nat → Bool} {k : Nat} (h : anyS n fs k k = false) : clOf n fs k = numC n fs k := by
  obtain ⟨p1, p2, _⟩ := rep_spec n fs k
  unfold clOf
  congr 1
  rcases Nat.lt_or_eq_of_le p2 with hl | hl
  · have : anyS n fs k k = true := (anyS_iff n fs k k).2 ⟨_, hl, p1⟩
    rw [h] at this; cases this
  · exact hl

theorem clOf_le (n : Nat) (fs : Nat → Nat → Bool) (b : Nat) : clOf n fs b ≤ b := by
  have h1 := numC_le n fs (rep n fs b)
  have h2 := (rep_spec n fs b).2.1
  unfold clOf; omega

/-- The key of a byte, as the map's datum has it. -/
def keyOfB (n : Nat) (fs : Nat → Nat → Bool) (b : Nat) : Lit := .string (keyL n (fun i => fs i b))

theorem keyOfB_eq (n : Nat) (fs : Nat → Nat → Bool) (b c : Nat) : keyOfB n fs b = keyOfB n fs c ↔ sm n fs b c = true := by
  rw [sm_iff]
  constructor
  · intro h
    exact keyL_inj n _ _ (by simpa [keyOfB] using h)
  · intro h
    unfold keyOfB
    rw [keyL_eq n _ _ h]

/-- What the map knows when k bytes are done. -/
def MapOK (n : Nat) (fs : Nat → Nat → Bool) (k : Nat) (D : DataW Unit) : Prop :=
  Maps.size D = numC n fs k ∧ ∀ b, Maps.has D (keyOfB n fs b) = anyS n fs k b ∧ (anyS n fs k b = true → D.atKey (keyOfB n fs b) (.lit (.int .i64 0)) = .lit (.int .i64 (clOf n fs b : Int)))

theorem MapOK.old {n : Nat} {fs : Nat → Nat → Bool} {k : Nat} {D : DataW Unit} (h : MapOK n fs k D) (hk : anyS n fs k k = true) : MapOK n fs (k + 1) D := by
  have key : ∀ b, anyS n fs (k + 1) b = anyS n fs k b := by
    intro b
    rw [anyS_succ]
    cases hs : sm n fs b k with
    | false => simp
    | true =>
      obtain ⟨j, hj, hjs⟩ := (anyS_iff n fs k k).1 hk
      rw [(anyS_iff n fs k b).2 ⟨j, hj, sm_trans hs hjs⟩]; rfl
  refine ⟨by rw [h.1]; simp [numC, hk], fun b => ?_⟩
  rw [key b]
  exact h.2 b

theorem MapOK.new {n : Nat} {fs : Nat → Nat → Bool} {k : Nat} {D : DataW Unit} (h : MapOK n fs k D) (ht : Maps.Tidy D) (hk : anyS n fs k k = false) :
    MapOK n fs (k + 1) (D.put (keyOfB n fs k) (.lit (.int .i64 (numC n fs k : Int)))) := by
  have hkl : WideAt.IsKeyLit (keyOfB n fs k) := by unfold keyOfB; trivial
  have hno : Maps.has D (keyOfB n fs k) = false := by rw [(h.2 k).1, hk]
  refine ⟨?_, fun b => ?_⟩
  · rw [Maps.size_put ht, hno, h.1]; simp [numC, hk]
  · rw [anyS_succ]
    by_cases hs : sm n fs b k = true
    · have e := (keyOfB_eq n fs b k).2 hs
      rw [e, hs]
      refine ⟨by rw [Maps.has_put_same ht.isMap hkl]; simp, fun _ => ?_⟩
      rw [Maps.atKey_put_same ht.isMap hkl, clOf_eq hs, clOf_new hk]
    · have e : keyOfB n fs b ≠ keyOfB n fs k := fun e => hs ((keyOfB_eq n fs b k).1 e)
      have hs' : sm n fs b k = false := by simpa using hs
      rw [hs', Bool.or_false, Maps.has_put_other e, Maps.atKey_put_other e]
      exact h.2 b

theorem MapOK.start (n : Nat) (fs : Nat → Nat → Bool) : MapOK n fs 0 (.map []) := by
  refine ⟨rfl, fun b => ⟨rfl, fun h => ?_⟩⟩
  simp [anyS] at h

/-- The cells of the classes when k bytes are done. -/
def ccells (n : Nat) (fs : Nat → Nat → Bool) (k : Nat) : Array Value := ((List.range 256).map fun b => Value.int .i64 (if b < k then (clOf n fs b : Int) else 0)).toArray

theorem ccells_size (n : Nat) (fs : Nat → Nat → Bool) (k : Nat) : (ccells n fs k).size = 256 := by simp [ccells]
theorem ccells_at (n : Nat) (fs : Nat → Nat → Bool) (k b : Nat) (hb : b < 256) : (ccells n fs k)[b]? = some (.int .i64 (if b < k then (clOf n fs b : Int) else 0)) := by simp [ccells, hb]
theorem ccells_zero (n : Nat) (fs : Nat → Nat → Bool) : ccells n fs 0 = Array.replicate 256 (.int .i64 0) := by
  apply Array.ext
  · simp [ccells]
  · intro i h1 h2; simp [ccells]
theorem ccells_set (n : Nat) (fs : Nat → Nat → Bool) (k : Nat) : (ccells n fs k).setIfInBounds k (.int .i64 (clOf n fs k : Int)) = ccells n fs (k + 1) := by
  apply Array.ext
  · simp [ccells]
  · intro i h1 h2
    rw [Array.getElem_setIfInBounds (by simpa [ccells_size] using h2)]
    by_cases h : k = i
    · subst h; simp [ccells]
    · simp only [h, if_false, ccells, List.getElem_toArray, List.getElem_map, List.getElem_range]
      have : (i < k) = (i < k + 1) := by apply propext; omega
      simp only [this]

theorem sm_zero (fs : Nat → Nat → Bool) (b c : Nat) : sm 0 fs b c = true := rfl
theorem sm_succ (n : Nat) (fs : Nat → Nat → Bool) (b c : Nat) : sm (n + 1) fs b c = (sm n fs b c && (fs n b == fs n c)) := by simp [sm, List.range_succ]
theorem anyS_none {n : Nat} {fs : Nat → Nat → Bool} {k : Nat} (h : ∀ j, j < k → sm n fs k j = false) : anyS n fs k k = false := by
  cases ha : anyS n fs k k with
  | false => rfl
  | true =>
    obtain ⟨j, hj, hs⟩ := (anyS_iff n fs k k).1 ha
    rw [h j hj] at hs; cases hs
theorem numC_old {n : Nat} {fs : Nat → Nat → Bool} {k : Nat} (h : anyS n fs k k = true) : numC n fs (k + 1) = numC n fs k := by simp [numC, h]
theorem numC_new {n : Nat} {fs : Nat → Nat → Bool} {k : Nat} (h : anyS n fs k k = false) : numC n fs (k + 1) = numC n fs k + 1 := by simp [numC, h]
theorem numC_mono (n : Nat) (fs : Nat → Nat → Bool) (a : Nat) : ∀ d, numC n fs a ≤ numC n fs (a + d)
  | 0 => Nat.le_refl _
  | d + 1 => by
    have ih := numC_mono n fs a d
    have e : numC n fs (a + d + 1) = numC n fs (a + d) + (if anyS n fs (a + d) (a + d) then 0 else 1) := rfl
    show numC n fs a ≤ numC n fs (a + d + 1)
    omega
theorem rep_new (n : Nat) (fs : Nat → Nat → Bool) (b : Nat) : anyS n fs (rep n fs b) (rep n fs b) = false := by
  obtain ⟨p1, _, p3⟩ := rep_spec n fs b
  refine anyS_none (fun j hj => ?_)
  cases hs : sm n fs (rep n fs b) j with
  | false => rfl
  | true => rw [← p3 j hj]; exact (sm_trans p1 hs).symm
theorem clOf_lt {n : Nat} {fs : Nat → Nat → Bool} {b k : Nat} (h : b < k) : clOf n fs b < numC n fs k := by
  have h2 := (rep_spec n fs b).2.1
  have h3 := numC_new (rep_new n fs b)
  have h4 := numC_mono n fs (rep n fs b + 1) (k - (rep n fs b + 1))
  rw [show rep n fs b + 1 + (k - (rep n fs b + 1)) = k by omega] at h4
  unfold clOf; omega

/-- The cells with a number at k. -/
def ccx (n : Nat) (fs : Nat → Nat → Bool) (k : Nat) (x : Int) : Array Value := (ccells n fs k).setIfInBounds k (.int .i64 x)
theorem ccx_at (n : Nat) (fs : Nat → Nat → Bool) (k : Nat) (x : Int) (hk : k < 256) : (ccx n fs k x)[k]? = some (.int .i64 x) := by
  unfold ccx; rw [Array.getElem?_setIfInBounds]; simp [ccells_size, hk]
theorem ccx_old (n : Nat) (fs : Nat → Nat → Bool) (k : Nat) (x : Int) (j : Nat) (hj : j < k) (hk : k < 256) : (ccx n fs k x)[j]? = some (.int .i64 (clOf n fs j : Int)) := by
  unfold ccx
  rw [Array.getElem?_setIfInBounds, if_neg (by omega), ccells_at n fs k j (by omega)]
  simp [hj]
theorem ccx_set (n : Nat) (fs : Nat → Nat → Bool) (k : Nat) (x y : Int) : (ccx n fs k x).setIfInBounds k (.int .i64 y) = ccx n fs k y := by
  unfold ccx; simp
theorem ccx_done (n : Nat) (fs : Nat → Nat → Bool) (k : Nat) : ccx n fs k (clOf n fs k : Int) = ccells n fs (k + 1) := ccells_set n fs k

end Go.Proofs.YtchicecmoknkjaaDoor
