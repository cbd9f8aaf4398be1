/- The program's ascends: one way through the text of a whole. Of texts whose brackets stand in pairs. -/
import Derived.Test.YtclnadjgbpihcaaGreatDoorHasForm
import Derived.Test.YtclnadjgbpihcaaGreatDoorScan
namespace Go.Proofs.YtclnadjgbpihcaaGreatDoor
open Go.RowKit Go.Lib
set_option linter.unusedVariables false
set_option linter.unusedSimpArgs false

/-- Brackets stand in pairs, and what parts stands in them. -/
def balF : Tx → Nat → Bool
  | [], _ => true
  | c :: r, d => if c = 123 then balF r (d + 1) else if c = 124 then decide (0 < d) && balF r d else if c = 125 then decide (0 < d) && balF r (d - 1) else balF r d
def cellsS (st : List (Nat × Tx)) : List Value := st.reverse.flatMap fun e => [.int .i64 (e.1 : Int), .string ⟨e.2.toArray⟩]
theorem flatS_len : ∀ l : List (Nat × Tx), (l.flatMap fun e => ([.int .i64 (e.1 : Int), .string ⟨e.2.toArray⟩] : List Value)).length = l.length * 2
  | [] => rfl
  | e :: l => by rw [List.flatMap_cons, List.length_append, flatS_len l]; simp; omega
theorem cellsS_len (st : List (Nat × Tx)) : (cellsS st).length = st.length * 2 := by
  unfold cellsS
  rw [flatS_len, List.length_reverse]
theorem new2S (W : World) (a b : Value) (t : TypeId) : ∀ (j : Nat) (u : Value), ([a, b] : List Value)[j]? = some u → (W.alloc (.cells #[a, b] t)).cell? ((⟨W.heap.size, 0, none⟩ : Addr).add j) = some u := new3 W #[a, b] t [a, b] rfl
theorem own_frozenR {W : World} {base size n g cap : Nat} {e : TypeId} {xs : List Value} (h : W.ownsRow base e size (.slice (some ⟨g, 0, none⟩) n cap) n xs) (j : Nat) : W.frozen? ⟨g, j, none⟩ = false := by
  obtain ⟨hl, h2⟩ := h
  rcases h2 with ⟨h2, _⟩ | ⟨g', cap', cur, hv, hb, hh, hc, hm, hsz, ht⟩
  · cases h2
  · obtain rfl : g = g' := by simp at hv; omega
    simp [World.frozen?, hh]
theorem own_set5r {W : World} {base size n g cap : Nat} {e : TypeId} {xs : List Value} (h : W.ownsRow base e size (.slice (some ⟨g, 0, none⟩) n cap) n xs) (j : Nat) (u : Value) :
    (W.setCell ⟨g, j, none⟩ u).ownsRow base e size (.slice (some ⟨g, 0, none⟩) n cap) n (xs.set j u) := by
  obtain ⟨hl, h2⟩ := h
  refine ⟨by simpa using hl, ?_⟩
  rcases h2 with ⟨h2, _⟩ | ⟨g', cap', cur, hv, hb, hh, hc, hm, hsz, ht⟩
  · cases h2
  · obtain ⟨rfl, rfl⟩ : g = g' ∧ cap = cap' := by simp at hv; omega
    refine .inr ⟨g, cap, cur.setIfInBounds j u, rfl, hb, ?_, hc, hm, by simpa using hsz, ?_⟩
    · obtain ⟨hlt, hk⟩ := Array.getElem?_eq_some_iff.1 hh
      show (W.heap.modify g _)[g]? = _
      rw [Array.getElem?_eq_getElem (by rw [Array.size_modify]; exact hlt), Array.getElem_modify_self, hk]
      rfl
    · rw [Array.toList_setIfInBounds, List.take_set, ht]
theorem set2_end (xs : List Value) (a b u v : Value) {m : Nat} (h : xs.length = m) : ((xs ++ [a, b]).set m u).set (m + 1) v = xs ++ [u, v] := by
  subst h
  rw [List.set_append_right _ _ (Nat.le_refl _), Nat.sub_self, List.set_append_right _ _ (by omega), show xs.length + 1 - xs.length = 1 by omega]
  rfl
theorem scan_lt (T r : Tx) (c : UInt8) (i f : Nat) (b : Tx) (st : List (Nat × Tx)) (h1 : c ≠ 123) (hx : c = 124 ∨ c = 125) (h : tlt b ((T.drop f).take (i - f))) :
    scanF T (c :: r) i ((f, b) :: st) = scanF T r (i + 1) (if c = 125 then st else (i + 1, (T.drop f).take (i - f)) :: st) := by
  rw [scanF.eq_def]
  simp only [if_neg h1, if_pos hx, if_pos h]
theorem scan_nlt (T r : Tx) (c : UInt8) (i f : Nat) (b : Tx) (st : List (Nat × Tx)) (h1 : c ≠ 123) (hx : c = 124 ∨ c = 125) (h : ¬ tlt b ((T.drop f).take (i - f))) :
    scanF T (c :: r) i ((f, b) :: st) = false := by
  rw [scanF.eq_def]
  simp only [if_neg h1, if_pos hx, if_neg h]
theorem cellsS_cons (e : Nat × Tx) (st : List (Nat × Tx)) : cellsS (e :: st) = cellsS st ++ [.int .i64 (e.1 : Int), .string ⟨e.2.toArray⟩] := by
  unfold cellsS
  rw [List.reverse_cons, List.flatMap_append]
  rfl

end Go.Proofs.YtclnadjgbpihcaaGreatDoor

