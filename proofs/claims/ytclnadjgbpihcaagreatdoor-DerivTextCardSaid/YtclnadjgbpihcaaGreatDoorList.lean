/- Plain facts on lists of ranges, and on the rows of memory that hold them; no condition. -/
import Derived.RangeFuncBox
import Derived.RangeFuncNested
import Derived.WalkSmall
import Derived.Lib.Hide
import Derived.Test.YtclnadjgbpihcaaGreatDoorWords
namespace Go.Proofs.YtclnadjgbpihcaaGreatDoor
open Go.RowKit

/-- A list of ranges with one byte more: the last one grows, or a new one begins. -/
def ext (l : List (Nat × Nat)) (b : Nat) : List (Nat × Nat) :=
  match l.getLast? with
  | some r => if r.2 + 1 = b then l.dropLast ++ [(r.1, b)] else l ++ [(b, b)]
  | none => [(b, b)]

theorem ext_nil (b : Nat) : ext [] b = [(b, b)] := rfl
theorem ext_yes (l : List (Nat × Nat)) (r : Nat × Nat) (b : Nat) (h : r.2 + 1 = b) : ext (l ++ [r]) b = l ++ [(r.1, b)] := by simp [ext, h]
theorem ext_no (l : List (Nat × Nat)) (r : Nat × Nat) (b : Nat) (h : ¬ r.2 + 1 = b) : ext (l ++ [r]) b = l ++ [r] ++ [(b, b)] := by simp [ext, h]

theorem ext_len (l : List (Nat × Nat)) (b : Nat) : (ext l b).length ≤ l.length + 1 := by
  rcases List.eq_nil_or_concat l with rfl | ⟨l', r, rfl⟩
  · simp [ext_nil]
  · rw [List.concat_eq_append]
    by_cases h : r.2 + 1 = b
    · rw [ext_yes _ _ _ h]; simp
    · rw [ext_no _ _ _ h]; simp

/-- The ranges of the bytes of f ahead of k. -/
def rgs (f : Nat → Bool) : Nat → List (Nat × Nat)
  | 0 => []
  | k + 1 => if f k then ext (rgs f k) k else rgs f k

theorem rgs_len (f : Nat → Bool) : ∀ k, (rgs f k).length ≤ k
  | 0 => by simp [rgs]
  | k + 1 => by
    have h := rgs_len f k
    have h2 := ext_len (rgs f k) k
    unfold rgs
    split <;> omega

theorem rgs_congr {f g : Nat → Bool} : ∀ {n}, (∀ j, j < n → f j = g j) → rgs f n = rgs g n
  | 0, _ => rfl
  | n + 1, h => by unfold rgs; rw [rgs_congr (n := n) (fun j hj => h j (by omega)), h n (by omega)]

/-- The cells of a list of ranges. -/
def rcells (l : List (Nat × Nat)) : List Value := l.flatMap fun r => [.int .i64 (r.1 : Int), .int .i64 (r.2 : Int)]

theorem rcells_len (l : List (Nat × Nat)) : (rcells l).length = l.length * 2 := by
  induction l with
  | nil => rfl
  | cons r l ih => simp [rcells] at ih ⊢; omega

theorem rcells_snoc (l : List (Nat × Nat)) (r : Nat × Nat) : rcells (l ++ [r]) = rcells l ++ [.int .i64 (r.1 : Int), .int .i64 (r.2 : Int)] := by simp [rcells]

theorem rcells_lo (l : List (Nat × Nat)) (i : Nat) (h : i < l.length) : (rcells l)[i * 2]? = some (.int .i64 ((l[i]).1 : Int)) := by
  induction l generalizing i with
  | nil => simp at h
  | cons r l ih =>
    cases i with
    | zero => simp [rcells]
    | succ i =>
      have := ih i (by simpa using h)
      simp only [rcells, List.flatMap_cons] at this ⊢
      rw [show (i + 1) * 2 = i * 2 + 2 by omega]
      simpa using this

theorem rcells_hi (l : List (Nat × Nat)) (i : Nat) (h : i < l.length) : (rcells l)[i * 2 + 1]? = some (.int .i64 ((l[i]).2 : Int)) := by
  induction l generalizing i with
  | nil => simp at h
  | cons r l ih =>
    cases i with
    | zero => simp [rcells]
    | succ i =>
      have := ih i (by simpa using h)
      simp only [rcells, List.flatMap_cons] at this ⊢
      rw [show (i + 1) * 2 + 1 = i * 2 + 1 + 2 by omega]
      simpa using this

theorem rcells_last (l : List (Nat × Nat)) (r : Nat × Nat) : (rcells (l ++ [r]))[l.length * 2 + 1]? = some (.int .i64 (r.2 : Int)) := by
  have := rcells_hi (l ++ [r]) l.length (by simp)
  simpa using this

theorem rcells_set (l : List (Nat × Nat)) (r : Nat × Nat) (b : Nat) : (rcells (l ++ [r])).set (l.length * 2 + 1) (.int .i64 (b : Int)) = rcells (l ++ [(r.1, b)]) := by
  rw [rcells_snoc, rcells_snoc, List.set_append_right _ _ (by rw [rcells_len]; omega), rcells_len, show l.length * 2 + 1 - l.length * 2 = 1 by omega]
  rfl

/-- What a slice that owns its row reads. -/
theorem own_cell {W : World} {base size n g cap : Nat} {e : TypeId} {xs : List Value} (h : W.ownsRow base e size (.slice (some ⟨g, 0, none⟩) n cap) n xs) {j : Nat} {u : Value} (hj : xs[j]? = some u) : W.cell? ⟨g, j, none⟩ = some u := by
  obtain ⟨hl, h2⟩ := h
  rcases h2 with ⟨h2, _⟩ | ⟨g', cap', cur, hv, _, hh, _, _, hsz, ht⟩
  · cases h2
  · obtain rfl : g = g' := by simp at hv; omega
    have hjl : j < xs.length := (List.getElem?_eq_some_iff.1 hj).1
    rw [← ht, List.getElem?_take_of_lt (by omega)] at hj
    simp only [World.cell?, hh]
    simpa using hj

theorem own_frozen {W : World} {base size n g cap : Nat} {e : TypeId} {xs : List Value} (h : W.ownsRow base e size (.slice (some ⟨g, 0, none⟩) n cap) n xs) (j : Nat) : W.frozen? ⟨g, j, none⟩ = false := by
  obtain ⟨hl, h2⟩ := h
  rcases h2 with ⟨h2, _⟩ | ⟨g', cap', cur, hv, _, hh, _, _, hsz, ht⟩
  · cases h2
  · obtain rfl : g = g' := by simp at hv; omega
    simp [World.frozen?, hh]

theorem own_base {W : World} {base size n g cap : Nat} {e : TypeId} {xs : List Value} (h : W.ownsRow base e size (.slice (some ⟨g, 0, none⟩) n cap) n xs) : base ≤ g ∧ n ≤ cap ∧ g < W.heap.size := by
  obtain ⟨hl, h2⟩ := h
  rcases h2 with ⟨h2, _⟩ | ⟨g', cap', cur, hv, hb, hh, hc, _, hsz, ht⟩
  · cases h2
  · obtain ⟨rfl, rfl⟩ : g = g' ∧ cap = cap' := by simp at hv; omega
    exact ⟨hb, hc, (Array.getElem?_eq_some_iff.1 hh).1⟩

/-- A store into the row. -/
theorem own_set {W : World} {base size n g cap : Nat} {e : TypeId} {xs : List Value} (h : W.ownsRow base e size (.slice (some ⟨g, 0, none⟩) n cap) n xs) (j : Nat) (u : Value) :
    (W.setCell ⟨g, j, none⟩ u).ownsRow base e size (.slice (some ⟨g, 0, none⟩) n cap) n (xs.set j u) := by
  obtain ⟨hl, h2⟩ := h
  refine ⟨by simpa using hl, ?_⟩
  rcases h2 with ⟨h2, _⟩ | ⟨g', cap', cur, hv, hb, hh, hc, hm, hsz, ht⟩
  · cases h2
  · obtain ⟨rfl, rfl⟩ : g = g' ∧ cap = cap' := by simp at hv; omega
    refine .inr ⟨g, cap, cur.setIfInBounds j u, rfl, hb, ?_, hc, hm, by simpa using hsz, ?_⟩
    · obtain ⟨hlt, hk⟩ := Array.getElem?_eq_some_iff.1 hh
      show (W.heap.modify g _)[g]? = _
      rw [Array.getElem?_eq_getElem (by rw [Array.size_modify]; exact hlt), Array.getElem_modify_self, hk]
      rfl
    · rw [Array.toList_setIfInBounds, List.take_set, ht]

theorem own_forms {W : World} {base size n : Nat} {e : TypeId} {v : Value} {xs : List Value} (h : W.ownsRow base e size v n xs) : (v = .slice none 0 0 ∧ n = 0) ∨ ∃ g cap, v = .slice (some ⟨g, 0, none⟩) n cap := by
  rcases h.2 with h0 | ⟨g, cap, _, hv, _⟩
  · exact .inl h0
  · exact .inr ⟨g, cap, hv⟩

theorem own_mono {W : World} {base base' size n : Nat} {e : TypeId} {v : Value} {xs : List Value} (h : W.ownsRow base e size v n xs) (hb : base' ≤ base) : W.ownsRow base' e size v n xs := by
  refine ⟨h.1, ?_⟩
  rcases h.2 with h0 | ⟨g, cap, cur, hv, hg, r⟩
  · exact .inl h0
  · exact .inr ⟨g, cap, cur, hv, Nat.le_trans hb hg, r⟩

theorem own_below {W W' : World} {base size n : Nat} {e : TypeId} {v : Value} {xs : List Value} (h : W.ownsRow base e size v n xs) (hb : Below W.heap.size W W') : W'.ownsRow base e size v n xs := by
  refine ⟨h.1, ?_⟩
  rcases h.2 with h0 | ⟨g, cap, cur, hv, hg, hh, r⟩
  · exact .inl h0
  · exact .inr ⟨g, cap, cur, hv, hg, (hb.block g (Array.getElem?_eq_some_iff.1 hh).1).trans hh, r⟩

end Go.Proofs.YtclnadjgbpihcaaGreatDoor

