/- The stable sort's plain side: exchanges, runs, insertion, rotation, merging. No condition. -/
import Derived.Sort.LotA
namespace Go.Proofs.YtclnadjgbpihcaaGreatDoor
open Go.Sort
set_option linter.unusedVariables false
set_option linter.unusedSectionVars false
variable {α : Type} [Inhabited α] {cf : α → α → Int} {ix : α → Nat}

/-- What is asked of the comparison. -/
structure CmpOk (cf : α → α → Int) : Prop where
  asym : ∀ x y, cf x y < 0 → ¬ cf y x < 0
  tr : ∀ x y z, ¬ cf y x < 0 → ¬ cf z y < 0 → ¬ cf z x < 0
/-- Before, by the comparison, and then by the place. -/
def Lx (cf : α → α → Int) (ix : α → Nat) (x y : α) : Prop := cf x y < 0 ∨ (¬ cf y x < 0 ∧ ix x < ix y)
theorem Lx.le (hc : CmpOk cf) {x y : α} (h : Lx cf ix x y) : ¬ cf y x < 0 := by
  rcases h with h | h
  · exact hc.asym _ _ h
  · exact h.1
theorem lt_le (hc : CmpOk cf) {x y z : α} (h : cf x y < 0) (k : ¬ cf z y < 0) : cf x z < 0 :=
  Classical.byContradiction fun n => hc.tr y z x k n h
theorem le_lt (hc : CmpOk cf) {x y z : α} (h : ¬ cf y x < 0) (k : cf y z < 0) : cf x z < 0 :=
  Classical.byContradiction fun n => hc.tr z x y n h k
theorem Lx.trans (hc : CmpOk cf) {x y z : α} (h : Lx cf ix x y) (k : Lx cf ix y z) : Lx cf ix x z := by
  have k0 := k.le hc
  rcases h with h | ⟨h, hi⟩
  · exact .inl (lt_le hc h k0)
  · rcases k with k | ⟨k, ki⟩
    · exact .inl (le_lt hc h k)
    · exact .inr ⟨hc.tr _ _ _ h k, by omega⟩

/-- In this order on a ≤ i < b. -/
def Srt (cf : α → α → Int) (ix : α → Nat) (a b : Nat) (d : Array α) : Prop := ∀ i j, a ≤ i → i < j → j < b → Lx cf ix d[i]! d[j]!
theorem Srt.congr {a b : Nat} {d d' : Array α} (h : Srt cf ix a b d) (he : ∀ p, a ≤ p → p < b → d'[p]! = d[p]!) : Srt cf ix a b d' := fun i j hi hij hj => by
  rw [he i hi (by omega), he j (by omega) hj]
  exact h i j hi hij hj
theorem Srt.sub {a b a' b' : Nat} {d : Array α} (h : Srt cf ix a b d) (ha : a ≤ a') (hb : b' ≤ b) : Srt cf ix a' b' d := fun i j hi hij hj => h i j (by omega) hij (by omega)
theorem at_eq {d : Array α} {i j : Nat} (h : i = j) : d[i]! = d[j]! := by rw [h]

/-! ### insertion -/
structure InsI (cf : α → α → Int) (ix : α → Nat) (a j i : Nat) (d : Array α) : Prop where
  one : ∀ s t, a ≤ s → s < t → t ≤ i → s ≠ j → t ≠ j → Lx cf ix d[s]! d[t]!
  two : ∀ t, j < t → t ≤ i → Lx cf ix d[j]! d[t]!
  tri : ∀ s, a ≤ s → s ≤ i → s ≠ j → ix d[s]! < ix d[j]!
theorem InsI.start {a i : Nat} {d : Array α} (h : Srt cf ix a i d) (hi : ∀ s, a ≤ s → s < i → ix d[s]! < ix d[i]!) : InsI cf ix a i i d :=
  ⟨fun s t h1 h2 h3 h4 h5 => h s t h1 h2 (by omega), fun t h1 h2 => by omega, fun s h1 h2 h3 => hi s h1 (by omega)⟩
theorem InsI.step {a j i : Nat} {d : Array α} (h : InsI cf ix a (j + 1) i d) (hl : cf d[j + 1]! d[j]! < 0) (haj : a ≤ j) (hji : j + 1 ≤ i) (hsz : i < d.size) : InsI cf ix a j i (swp d (j + 1) j) := by
  have g1 := swp_right d (j + 1) j (by omega)
  have g2 := swp_left d (j + 1) j (by omega) (by omega)
  have g3 := fun k h1 h2 => swp_other d (j + 1) j k h1 h2
  refine ⟨fun s t h1 h2 h3 h4 h5 => ?_, fun t h1 h2 => ?_, fun s h1 h2 h3 => ?_⟩
  · by_cases ht : t = j + 1
    · subst ht
      rw [g2, g3 s (by omega) h4]
      exact h.one s j h1 (by omega) (by omega) (by omega) (by omega)
    · rw [g3 t ht h5]
      by_cases hs : s = j + 1
      · subst hs
        rw [g2]
        exact h.one j t haj (by omega) h3 (by omega) ht
      · rw [g3 s hs h4]
        exact h.one s t h1 h2 h3 hs ht
  · rw [g1]
    by_cases ht : t = j + 1
    · subst ht
      rw [g2]
      exact .inl hl
    · rw [g3 t ht (by omega)]
      exact h.two t (by omega) h2
  · rw [g1]
    by_cases hs : s = j + 1
    · subst hs
      rw [g2]
      exact h.tri j haj (by omega) (by omega)
    · rw [g3 s hs h3]
      exact h.tri s h1 h2 hs
theorem InsI.stop (hc : CmpOk cf) {a j i : Nat} {d : Array α} (h : InsI cf ix a j i d) (hj : a ≤ j) (hji : j ≤ i) (hs : j = a ∨ ¬ cf d[j]! d[j - 1]! < 0) : Srt cf ix a (i + 1) d := by
  intro s t h1 h2 h3
  by_cases e1 : s = j
  · subst e1
    exact h.two t h2 (by omega)
  · by_cases e2 : t = j
    · subst e2
      rcases hs with hs | hs
      · omega
      · have hx : Lx cf ix d[t - 1]! d[t]! := .inr ⟨hs, h.tri (t - 1) (by omega) (by omega) (by omega)⟩
        by_cases e3 : s = t - 1
        · subst e3; exact hx
        · exact (h.one s (t - 1) h1 (by omega) (by omega) (by omega) (by omega)).trans hc hx
    · exact h.one s t h1 h2 (by omega) e1 e2

/-- A run: in order, and holding what stood there at first. -/
def Run (cf : α → α → Int) (ix : α → Nat) (a b : Nat) (d : Array α) : Prop := Srt cf ix a b d ∧ ∀ t, a ≤ t → t < b → a ≤ ix d[t]! ∧ ix d[t]! < b
theorem Run.congr {a b : Nat} {d d' : Array α} (h : Run cf ix a b d) (he : ∀ p, a ≤ p → p < b → d'[p]! = d[p]!) : Run cf ix a b d' :=
  ⟨h.1.congr he, fun t h1 h2 => by rw [he t h1 h2]; exact h.2 t h1 h2⟩
theorem Run.perm {a b : Nat} {d d' : Array α} (hb : b ≤ d.size) (h : ∀ t, a ≤ t → t < b → a ≤ ix d[t]! ∧ ix d[t]! < b) (hp : PermIn a b d d') : ∀ t, a ≤ t → t < b → a ≤ ix d'[t]! ∧ ix d'[t]! < b :=
  permIn_all d d' a b (fun x => a ≤ ix x ∧ ix x < b) hb hp h

/-! ### one into many, many into one -/
/-- The first one has gone to place k. -/
def ShR (a k : Nat) (d d' : Array α) : Prop := d'.size = d.size ∧ d'[k]! = d[a]! ∧ (∀ t, a ≤ t → t < k → d'[t]! = d[t + 1]!) ∧ ∀ t, t < a ∨ k < t → d'[t]! = d[t]!
theorem ShR.start (a : Nat) (d : Array α) : ShR a a d d := ⟨rfl, rfl, fun t h1 h2 => by omega, fun t _ => rfl⟩
theorem ShR.step {a k : Nat} {d d' : Array α} (h : ShR a k d d') (hk : a ≤ k) (hs : k + 1 < d.size) : ShR a (k + 1) d (swp d' k (k + 1)) := by
  obtain ⟨h0, h1, h2, h3⟩ := h
  have g1 := swp_right d' k (k + 1) (by omega)
  have g2 := swp_left d' k (k + 1) (by omega) (by omega)
  refine ⟨by rw [size_swp, h0], by rw [g1, h1], fun t a1 a2 => ?_, fun t ht => ?_⟩
  · by_cases e : t = k
    · subst e
      rw [g2, h3 (t + 1) (by omega)]
    · rw [swp_other d' k (k + 1) t e (by omega)]
      exact h2 t a1 (by omega)
  · rw [swp_other d' k (k + 1) t (by omega) (by omega)]
    exact h3 t (by omega)
theorem ShR.done (hc : CmpOk cf) {a i b : Nat} {d d' : Array α} (hi : a + 1 ≤ i) (hib : i ≤ b) (hs : Srt cf ix (a + 1) b d) (hx : ∀ t, a + 1 ≤ t → t < b → ix d[a]! < ix d[t]!)
    (b1 : i = a + 1 ∨ cf d[i - 1]! d[a]! < 0) (b2 : i = b ∨ ¬ cf d[i]! d[a]! < 0) (h : ShR a (i - 1) d d') : Srt cf ix a b d' := by
  obtain ⟨_, h1, h2, h3⟩ := h
  have lo : ∀ p, a + 1 ≤ p → p < i → cf d[p]! d[a]! < 0 := fun p p1 p2 => by
    rcases b1 with b1 | b1
    · omega
    · by_cases e : p = i - 1
      · subst e; exact b1
      · exact le_lt hc ((hs p (i - 1) p1 (by omega) (by omega)).le hc) b1
  have up : ∀ p, i ≤ p → p < b → Lx cf ix d[a]! d[p]! := fun p p1 p2 => by
    rcases b2 with b2 | b2
    · omega
    · refine .inr ⟨?_, hx p (by omega) p2⟩
      by_cases e : p = i
      · subst e; exact b2
      · exact hc.tr _ _ _ b2 ((hs i p (by omega) (by omega) p2).le hc)
  intro s t hs1 hst htb
  by_cases c1 : s < i - 1
  · rw [h2 s hs1 c1]
    by_cases c2 : t < i - 1
    · rw [h2 t (by omega) c2]
      exact hs _ _ (by omega) (by omega) (by omega)
    · by_cases c3 : t = i - 1
      · subst c3
        rw [h1]
        exact .inl (lo _ (by omega) (by omega))
      · rw [h3 t (by omega)]
        exact hs _ _ (by omega) (by omega) htb
  · by_cases c3 : s = i - 1
    · subst c3
      rw [h1, h3 t (by omega)]
      exact up t (by omega) htb
    · rw [h3 s (by omega), h3 t (by omega)]
      exact hs _ _ (by omega) hst htb
/-- The last one (at m) has gone to place k. -/
def ShL (k m : Nat) (d d' : Array α) : Prop := d'.size = d.size ∧ d'[k]! = d[m]! ∧ (∀ t, k < t → t ≤ m → d'[t]! = d[t - 1]!) ∧ ∀ t, t < k ∨ m < t → d'[t]! = d[t]!
theorem ShL.start (m : Nat) (d : Array α) : ShL m m d d := ⟨rfl, rfl, fun t h1 h2 => by omega, fun t _ => rfl⟩
theorem ShL.step {k m : Nat} {d d' : Array α} (h : ShL (k + 1) m d d') (hk : k + 1 ≤ m) (hs : m < d.size) : ShL k m d (swp d' (k + 1) k) := by
  obtain ⟨h0, h1, h2, h3⟩ := h
  have g1 := swp_right d' (k + 1) k (by omega)
  have g2 := swp_left d' (k + 1) k (by omega) (by omega)
  refine ⟨by rw [size_swp, h0], by rw [g1, h1], fun t a1 a2 => ?_, fun t ht => ?_⟩
  · by_cases e : t = k + 1
    · subst e
      rw [g2, h3 k (by omega)]
      rfl
    · rw [swp_other d' (k + 1) k t e (by omega)]
      exact h2 t (by omega) a2
  · rw [swp_other d' (k + 1) k t (by omega) (by omega)]
    exact h3 t (by omega)
theorem ShL.done (hc : CmpOk cf) {a i m : Nat} {d d' : Array α} (hi : a ≤ i) (him : i ≤ m) (hs : Srt cf ix a m d) (hx : ∀ t, a ≤ t → t < m → ix d[t]! < ix d[m]!)
    (b1 : i = a ∨ ¬ cf d[m]! d[i - 1]! < 0) (b2 : i = m ∨ cf d[m]! d[i]! < 0) (h : ShL i m d d') : Srt cf ix a (m + 1) d' := by
  obtain ⟨_, h1, h2, h3⟩ := h
  have lo : ∀ p, a ≤ p → p < i → Lx cf ix d[p]! d[m]! := fun p p1 p2 => by
    rcases b1 with b1 | b1
    · omega
    · refine .inr ⟨?_, hx p p1 (by omega)⟩
      by_cases e : p = i - 1
      · subst e; exact b1
      · exact hc.tr _ _ _ ((hs p (i - 1) p1 (by omega) (by omega)).le hc) b1
  have up : ∀ p, i ≤ p → p < m → cf d[m]! d[p]! < 0 := fun p p1 p2 => by
    rcases b2 with b2 | b2
    · omega
    · by_cases e : p = i
      · subst e; exact b2
      · exact lt_le hc b2 ((hs i p (by omega) (by omega) p2).le hc)
  intro s t hs1 hst htb
  by_cases c1 : s < i
  · rw [h3 s (by omega)]
    by_cases c2 : t < i
    · rw [h3 t (by omega)]
      exact hs _ _ hs1 hst (by omega)
    · by_cases c3 : t = i
      · subst c3
        rw [h1]
        exact lo s hs1 c1
      · rw [h2 t (by omega) (by omega)]
        exact hs _ _ hs1 (by omega) (by omega)
  · by_cases c3 : s = i
    · subst c3
      rw [h1, h2 t (by omega) (by omega)]
      exact .inl (up _ (by omega) (by omega))
    · rw [h2 s (by omega) (by omega), h2 t (by omega) (by omega)]
      exact hs _ _ (by omega) (by omega) (by omega)

/-! ### exchange of ranges, rotation -/
def IsSwp (a b n : Nat) (d d' : Array α) : Prop := d'.size = d.size ∧ (∀ t, a ≤ t → t < a + n → d'[t]! = d[t + (b - a)]!) ∧ (∀ t, b ≤ t → t < b + n → d'[t]! = d[t - (b - a)]!) ∧ ∀ t, (t < a ∨ a + n ≤ t) → (t < b ∨ b + n ≤ t) → d'[t]! = d[t]!
theorem IsSwp.start (a b : Nat) (d : Array α) : IsSwp a b 0 d d := ⟨rfl, fun t h1 h2 => by omega, fun t h1 h2 => by omega, fun t _ _ => rfl⟩
theorem IsSwp.step {a b n : Nat} {d d' : Array α} (h : IsSwp a b n d d') (hab : a + n < b) (hs : b + n < d.size) : IsSwp a b (n + 1) d (swp d' (a + n) (b + n)) := by
  obtain ⟨h0, h1, h2, h3⟩ := h
  have g1 := swp_right d' (a + n) (b + n) (by omega)
  have g2 := swp_left d' (a + n) (b + n) (by omega) (by omega)
  refine ⟨by rw [size_swp, h0], fun t a1 a2 => ?_, fun t a1 a2 => ?_, fun t a1 a2 => ?_⟩
  · by_cases e : t = a + n
    · subst e
      rw [g2, h3 (b + n) (by omega) (by omega)]
      exact at_eq (by omega)
    · rw [swp_other d' _ _ t e (by omega)]
      exact h1 t a1 (by omega)
  · by_cases e : t = b + n
    · subst e
      rw [g1, h3 (a + n) (by omega) (by omega)]
      exact at_eq (by omega)
    · rw [swp_other d' _ _ t (by omega) e]
      exact h2 t a1 (by omega)
  · rw [swp_other d' _ _ t (by omega) (by omega)]
    exact h3 t (by omega) (by omega)

def IsRot (a m b : Nat) (d d' : Array α) : Prop := d'.size = d.size ∧ (∀ t, a ≤ t → t < a + (b - m) → d'[t]! = d[t + (m - a)]!) ∧ (∀ t, a + (b - m) ≤ t → t < b → d'[t]! = d[t - (b - m)]!) ∧ ∀ t, t < a ∨ b ≤ t → d'[t]! = d[t]!
/-- What is still to be turned. -/
def RotTo (a m b i j : Nat) (d e : Array α) : Prop := e.size = d.size ∧ ∀ f, IsRot (m - i) m (m + j) e f → IsRot a m b d f
theorem RotTo.start {a m b : Nat} (ham : a ≤ m) (hmb : m ≤ b) (d : Array α) : RotTo a m b (m - a) (b - m) d d := ⟨rfl, fun f h => by
  rw [show m - (m - a) = a by omega, show m + (b - m) = b by omega] at h
  exact h⟩
theorem RotTo.left {a m b i j : Nat} {d e e' : Array α} (h : RotTo a m b i j d e) (hi : i ≤ m) (hij : j < i) (hs : IsSwp (m - i) m j e e') : RotTo a m b (i - j) j d e' := by
  obtain ⟨s0, s1, s2, s3⟩ := hs
  refine ⟨by rw [s0, h.1], fun f hf => h.2 f ?_⟩
  obtain ⟨f0, f1, f2, f3⟩ := hf
  refine ⟨by rw [f0, s0], fun t a1 a2 => ?_, fun t a1 a2 => ?_, fun t a1 => ?_⟩
  · by_cases c : t < m - (i - j)
    · rw [f3 t (by omega), s1 t (by omega) (by omega)]
    · omega
  · by_cases c : t < m - (i - j)
    · omega
    · by_cases c2 : t < m - (i - j) + (m + j - m)
      · rw [f1 t (by omega) c2]
        by_cases c3 : t + (m - (m - (i - j))) < m
        · omega
        · rw [s2 _ (by omega) (by omega)]
          exact at_eq (by omega)
      · rw [f2 t (by omega) (by omega), s3 _ (by omega) (by omega)]
  · rw [f3 t (by omega), s3 t (by omega) (by omega)]
theorem RotTo.right {a m b i j : Nat} {d e e' : Array α} (h : RotTo a m b i j d e) (hi : i ≤ m) (hij : i < j) (hs : IsSwp (m - i) (m + j - i) i e e') : RotTo a m b i (j - i) d e' := by
  obtain ⟨s0, s1, s2, s3⟩ := hs
  refine ⟨by rw [s0, h.1], fun f hf => h.2 f ?_⟩
  obtain ⟨f0, f1, f2, f3⟩ := hf
  refine ⟨by rw [f0, s0], fun t a1 a2 => ?_, fun t a1 a2 => ?_, fun t a1 => ?_⟩
  · by_cases c : t < m - i + (m + (j - i) - m)
    · rw [f1 t (by omega) c, s3 _ (by omega) (by omega)]
    · rw [f2 t (by omega) (by omega), s1 _ (by omega) (by omega)]
      exact at_eq (by omega)
  · rw [f3 t (by omega), s2 t (by omega) (by omega)]
    exact at_eq (by omega)
  · rw [f3 t (by omega), s3 t (by omega) (by omega)]
theorem RotTo.done {a m b i : Nat} {d e e' : Array α} (h : RotTo a m b i i d e) (hi : i ≤ m) (hs : IsSwp (m - i) m i e e') : IsRot a m b d e' := by
  refine h.2 e' ?_
  obtain ⟨s0, s1, s2, s3⟩ := hs
  refine ⟨s0, fun t a1 a2 => ?_, fun t a1 a2 => ?_, fun t a1 => ?_⟩
  · rw [s1 t a1 (by omega)]
  · rw [s2 t (by omega) (by omega)]
    exact at_eq (by omega)
  · exact s3 t (by omega) (by omega)

/-! ### merging -/
structure Parted (cf : α → α → Int) (ix : α → Nat) (a s mid e b : Nat) (f : Array α) : Prop where
  s1 : Srt cf ix a s f
  s2 : Srt cf ix s mid f
  s3 : Srt cf ix mid e f
  s4 : Srt cf ix e b f
  x1 : ∀ p q, a ≤ p → p < s → s ≤ q → q < mid → ix f[p]! < ix f[q]!
  x2 : ∀ p q, mid ≤ p → p < e → e ≤ q → q < b → ix f[p]! < ix f[q]!
  cross : ∀ p q, a ≤ p → p < mid → mid ≤ q → q < b → Lx cf ix f[p]! f[q]!
theorem parted (hc : CmpOk cf) {a s m e b : Nat} {d f : Array α} (h1 : a ≤ s) (h2 : s ≤ m) (h3 : m ≤ e) (h4 : e ≤ b) (hr : IsRot s m e d f) (l : Srt cf ix a m d) (r : Srt cf ix m b d)
    (hx : ∀ p q, a ≤ p → p < m → m ≤ q → q < b → ix d[p]! < ix d[q]!) (b1 : s = a ∨ e = b ∨ ¬ cf d[e]! d[s - 1]! < 0) (b2 : s = m ∨ e = m ∨ cf d[e - 1]! d[s]! < 0) :
    Parted cf ix a s (s + (e - m)) e b f := by
  obtain ⟨_, r1, r2, r3⟩ := hr
  have A : ∀ p, p < s → f[p]! = d[p]! := fun p hp => r3 p (.inl hp)
  have B : ∀ p, s ≤ p → p < s + (e - m) → f[p]! = d[p + (m - s)]! := fun p hp hq => r1 p hp hq
  have C : ∀ p, s + (e - m) ≤ p → p < e → f[p]! = d[p - (e - m)]! := fun p hp hq => r2 p hp hq
  have D : ∀ p, e ≤ p → f[p]! = d[p]! := fun p hp => r3 p (.inr hp)
  -- left ahead of s against right from e on
  have c1 : ∀ p q, a ≤ p → p < s → e ≤ q → q < b → Lx cf ix d[p]! d[q]! := fun p q p1 p2 q1 q2 => by
    refine .inr ⟨?_, hx p q p1 (by omega) (by omega) q2⟩
    rcases b1 with b1 | b1 | b1
    · omega
    · omega
    · have u : ¬ cf d[e]! d[p]! < 0 := by
        by_cases c : p = s - 1
        · subst c; exact b1
        · exact hc.tr _ _ _ ((l p (s - 1) p1 (by omega) (by omega)).le hc) b1
      by_cases c : q = e
      · subst c; exact u
      · exact hc.tr _ _ _ u ((r e q (by omega) (by omega) q2).le hc)
  -- right ahead of e against left from s on
  have c2 : ∀ p q, m ≤ p → p < e → s ≤ q → q < m → Lx cf ix d[p]! d[q]! := fun p q p1 p2 q1 q2 => by
    rcases b2 with b2 | b2 | b2
    · omega
    · omega
    · have u : cf d[p]! d[s]! < 0 := by
        by_cases c : p = e - 1
        · subst c; exact b2
        · exact le_lt hc ((r p (e - 1) p1 (by omega) (by omega)).le hc) b2
      by_cases c : q = s
      · subst c; exact .inl u
      · exact .inl (lt_le hc u ((l s q (by omega) (by omega) q2).le hc))
  refine ⟨fun i j a1 a2 a3 => ?_, fun i j a1 a2 a3 => ?_, fun i j a1 a2 a3 => ?_, fun i j a1 a2 a3 => ?_, fun p q a1 a2 a3 a4 => ?_, fun p q a1 a2 a3 a4 => ?_, fun p q a1 a2 a3 a4 => ?_⟩
  · rw [A i (by omega), A j (by omega)]
    exact l i j a1 a2 (by omega)
  · rw [B i a1 (by omega), B j (by omega) a3]
    exact r _ _ (by omega) (by omega) (by omega)
  · rw [C i a1 (by omega), C j (by omega) a3]
    exact l _ _ (by omega) (by omega) (by omega)
  · rw [D i a1, D j (by omega)]
    exact r i j (by omega) a2 a3
  · rw [A p a2, B q a3 a4]
    exact hx _ _ a1 (by omega) (by omega) (by omega)
  · rw [C p a1 a2, D q a3]
    exact hx _ _ (by omega) (by omega) (by omega) a4
  · by_cases cp : p < s
    · rw [A p cp]
      by_cases cq : q < e
      · rw [C q a3 cq]
        exact l _ _ a1 (by omega) (by omega)
      · rw [D q (by omega)]
        exact c1 p q a1 cp (by omega) a4
    · rw [B p (by omega) a2]
      by_cases cq : q < e
      · rw [C q a3 cq]
        exact c2 _ _ (by omega) (by omega) (by omega) (by omega)
      · rw [D q (by omega)]
        exact r _ _ (by omega) (by omega) a4
/-- Both halves in order, and the first ahead of the second: all in order. -/
theorem joined2 {a mid b : Nat} {f f1 f2 : Array α} (hm : mid ≤ b) (hb : b ≤ f.size) (ha : a ≤ mid) (cross : ∀ p q, a ≤ p → p < mid → mid ≤ q → q < b → Lx cf ix f[p]! f[q]!)
    (p1 : PermIn a mid f f1) (s1 : Srt cf ix a mid f1) (p2 : PermIn mid b f1 f2) (s2 : Srt cf ix mid b f2) : Srt cf ix a b f2 := by
  have e1 : ∀ p, a ≤ p → p < mid → f2[p]! = f1[p]! := fun p _ h => p2.2.1 p (.inl h)
  have e2 : ∀ q, mid ≤ q → f1[q]! = f[q]! := fun q h => p1.2.1 q (.inr h)
  have k1 := permIn_all f f1 a mid (fun x => ∀ q, mid ≤ q → q < b → Lx cf ix x f[q]!) (by omega) p1 (fun p h1 h2 q h3 h4 => cross p q h1 h2 h3 h4)
  have k2 := permIn_all f1 f2 mid b (fun y => ∀ p, a ≤ p → p < mid → Lx cf ix f1[p]! y) (by rw [p1.1]; exact hb) p2 (fun q h1 h2 p h3 h4 => by rw [e2 q h1]; exact k1 p h3 h4 q h1 h2)
  intro i j h1 h2 h3
  by_cases c : j < mid
  · rw [e1 i h1 (by omega), e1 j (by omega) c]
    exact s1 i j h1 h2 c
  · by_cases c2 : i < mid
    · rw [e1 i h1 c2]
      exact k2 j (by omega) h3 i h1 c2
    · exact s2 i j (by omega) h2 h3

end Go.Proofs.YtclnadjgbpihcaaGreatDoor

