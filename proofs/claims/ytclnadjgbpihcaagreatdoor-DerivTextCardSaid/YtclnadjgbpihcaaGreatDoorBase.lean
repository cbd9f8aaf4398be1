/- Rows of memory that a call has made, and what a call returns, in words that no program is named in. No condition. -/
import Derived.WalkKit
import Derived.Handy
import Derived.WalkLawsBesides
import Derived.Outline
import Derived.LoopN
import Derived.RegionTactic
import Derived.BigRegion
import Derived.Lib.Hide
namespace Go.Proofs.YtclnadjgbpihcaaGreatDoor
open Go.RowKit

/-- The call returns this bool; what was there is as it was. -/
def GivesBool (b : Bool) (w : World) (e : Ending) (w' : World) : Prop := e = .returned (.bool b) ∧ Below w.heap.size w w'
/-- The call returns this int; what was there is as it was. -/
def GivesNum (n : Int) (w : World) (e : Ending) (w' : World) : Prop := e = .returned (.int .i64 n) ∧ Below w.heap.size w w'
/-- The call returns a slice of its own that holds these cells; what was there is as it was. -/
def GivesRow (t : TypeId) (size n : Nat) (xs : List Value) (w : World) (e : Ending) (w' : World) : Prop :=
  ∃ v, e = .returned v ∧ w'.ownsRow w.heap.size t size v n xs ∧ Below w.heap.size w w'

theorem below_then {w W W' : World} (h : Below w.heap.size w W) (hb : Below W.heap.size W W') : Below w.heap.size w W' := h.trans (hb.mono h.size)
theorem below_new {w W : World} (h : Below w.heap.size w W) (o : Obj) : Below w.heap.size w (W.alloc o) := h.alloc h.size o

/-- What a slice that owns its row reads. -/
theorem row_cell {W : World} {base size n g cap : Nat} {e : TypeId} {xs : List Value} (h : W.ownsRow base e size (.slice (some ⟨g, 0, none⟩) n cap) n xs) {j : Nat} {u : Value} (hj : xs[j]? = some u) : W.cell? ⟨g, j, none⟩ = some u := by
  obtain ⟨hl, h2⟩ := h
  rcases h2 with ⟨h2, _⟩ | ⟨g', cap', cur, hv, _, hh, _, _, hsz, ht⟩
  · cases h2
  · obtain rfl : g = g' := by simp at hv; omega
    have hjl : j < xs.length := (List.getElem?_eq_some_iff.1 hj).1
    rw [← ht, List.getElem?_take_of_lt (by omega)] at hj
    simp only [World.cell?, hh]
    simpa using hj

theorem row_frozen {W : World} {base size n g cap : Nat} {e : TypeId} {xs : List Value} (h : W.ownsRow base e size (.slice (some ⟨g, 0, none⟩) n cap) n xs) (j : Nat) : W.frozen? ⟨g, j, none⟩ = false := by
  obtain ⟨hl, h2⟩ := h
  rcases h2 with ⟨h2, _⟩ | ⟨g', cap', cur, hv, _, hh, _, _, hsz, ht⟩
  · cases h2
  · obtain rfl : g = g' := by simp at hv; omega
    simp [World.frozen?, hh]

theorem row_base {W : World} {base size n g cap : Nat} {e : TypeId} {xs : List Value} (h : W.ownsRow base e size (.slice (some ⟨g, 0, none⟩) n cap) n xs) : base ≤ g ∧ n ≤ cap ∧ cap ≤ maxLen ∧ g < W.heap.size := by
  obtain ⟨hl, h2⟩ := h
  rcases h2 with ⟨h2, _⟩ | ⟨g', cap', cur, hv, hb, hh, hc, hm, hsz, ht⟩
  · cases h2
  · obtain ⟨rfl, rfl⟩ : g = g' ∧ cap = cap' := by simp at hv; omega
    exact ⟨hb, hc, hm, (Array.getElem?_eq_some_iff.1 hh).1⟩

theorem row_forms {W : World} {base size n : Nat} {e : TypeId} {v : Value} {xs : List Value} (h : W.ownsRow base e size v n xs) : (v = .slice none 0 0 ∧ n = 0) ∨ ∃ g cap, v = .slice (some ⟨g, 0, none⟩) n cap := by
  rcases h.2 with h0 | ⟨g, cap, _, hv, _⟩
  · exact .inl h0
  · exact .inr ⟨g, cap, hv⟩

theorem row_mono {W : World} {base base' size n : Nat} {e : TypeId} {v : Value} {xs : List Value} (h : W.ownsRow base e size v n xs) (hb : base' ≤ base) : W.ownsRow base' e size v n xs := by
  refine ⟨h.1, ?_⟩
  rcases h.2 with h0 | ⟨g, cap, cur, hv, hg, r⟩
  · exact .inl h0
  · exact .inr ⟨g, cap, cur, hv, Nat.le_trans hb hg, r⟩

theorem row_below {W W' : World} {base size n : Nat} {e : TypeId} {v : Value} {xs : List Value} (h : W.ownsRow base e size v n xs) (hb : Below W.heap.size W W') : W'.ownsRow base e size v n xs := by
  refine ⟨h.1, ?_⟩
  rcases h.2 with h0 | ⟨g, cap, cur, hv, hg, hh, r⟩
  · exact .inl h0
  · exact .inr ⟨g, cap, cur, hv, hg, (hb.block g (Array.getElem?_eq_some_iff.1 hh).1).trans hh, r⟩

/-- A block that is a whole row of the call's own. -/
theorem row_of_block {W : World} {base size n g : Nat} {e : TypeId} {cs : Array Value} (hg : base ≤ g) (hh : W.heap[g]? = some (.cells cs e (0, 0))) (hm : n ≤ maxLen) (hs : cs.size = n * size) :
    W.ownsRow base e size (.slice (some ⟨g, 0, none⟩) n n) n cs.toList :=
  ⟨by simpa using hs, .inr ⟨g, n, cs, rfl, hg, hh, Nat.le_refl _, hm, hs, List.take_of_length_le (by simp [hs])⟩⟩

/-- A row in the block that was made last. -/
theorem gives_new {w : World} {t : TypeId} {size n : Nat} {cs : Array Value} {xs : List Value} {v : Value} (hm : n ≤ 1000000) (hs : cs.size = n * size) (hx : cs.toList = xs) (hv : v = .slice (some ⟨w.heap.size, 0, none⟩) n n) :
    GivesRow t size n xs w (.returned v) (w.alloc (.cells cs t)) := by
  subst hv hx
  refine ⟨_, rfl, row_of_block (Nat.le_refl _) ?_ (by unfold maxLen; omega) hs, (Below.refl _ _).alloc (Nat.le_refl _) _⟩
  show (w.heap.push _)[w.heap.size]? = _
  simp

/-- A row in a block that was made in a later world, and filled. -/
theorem gives_in {w w2 W : World} {t : TypeId} {size n : Nat} {cs : Array Value} {xs : List Value} {v : Value} (hm : n ≤ 1000000) (hs : cs.size = n * size) (hx : cs.toList = xs) (hv : v = .slice (some ⟨w2.heap.size, 0, none⟩) n n)
    (h2 : w.heap.size ≤ w2.heap.size) (hh : W.heap[w2.heap.size]? = some (.cells cs t (0, 0))) (hb : Below w.heap.size w W) : GivesRow t size n xs w (.returned v) W := by
  subst hv hx
  exact ⟨_, rfl, row_of_block h2 hh (by unfold maxLen; omega) hs, hb⟩

theorem wrap_byte (x : UInt8) : wrap64 (x.toNat : Int) = x.toNat := by
  have := x.toNat_lt
  exact IntWalk.wrap64_in _ ⟨by omega, by omega⟩

/-- The cells of a list of ints. -/
def icells (xs : List Int) : List Value := xs.map (Value.int .i64)
theorem icells_len (xs : List Int) : (icells xs).length = xs.length := by simp [icells]
theorem icells_at (xs : List Int) (i : Nat) (h : i < xs.length) : (icells xs)[i]? = some (.int .i64 xs[i]) := by simp [icells, h]

/-- A slice that reads as these ints: empty, or from a block's head on. -/
def IntsAt (W : World) (v : Value) (xs : List Int) : Prop :=
  (xs = [] ∧ ∃ a cap, v = .slice a 0 cap) ∨ ∃ g cap, v = .slice (some ⟨g, 0, none⟩) xs.length cap ∧ xs.length ≤ cap ∧ g < W.heap.size ∧ ∀ (i : Nat) (h : i < xs.length), W.cell? ⟨g, i, none⟩ = some (.int .i64 xs[i])

theorem IntsAt.below {W W' : World} {v : Value} {xs : List Int} (h : IntsAt W v xs) (hb : Below W.heap.size W W') : IntsAt W' v xs := by
  rcases h with h | ⟨g, cap, hv, hc, hg, h⟩
  · exact .inl h
  · exact .inr ⟨g, cap, hv, hc, Nat.lt_of_lt_of_le hg hb.size, fun i hi => (hb.cell (p := ⟨g, i, none⟩) hg).trans (h i hi)⟩

theorem IntsAt.of_row {W : World} {base : Nat} {t : TypeId} {v : Value} {xs : List Int} (h : W.ownsRow base t 1 v xs.length (icells xs)) : IntsAt W v xs := by
  rcases row_forms h with ⟨rfl, h0⟩ | ⟨g, cap, rfl⟩
  · exact .inl ⟨List.length_eq_zero_iff.1 h0, _, _, rfl⟩
  · obtain ⟨_, hc, _, hg⟩ := row_base h
    exact .inr ⟨g, cap, rfl, hc, hg, fun i hi => row_cell h (icells_at xs i hi)⟩

theorem below_drawn {B : Nat} {a W : World} (h : Below B a W) (n : Nat) : Below B a (W.drewN n) := ⟨h.os, h.tape, h.output, h.size, h.block⟩
theorem row_drawn {W : World} {base size n : Nat} {e : TypeId} {v : Value} {xs : List Value} (h : W.ownsRow base e size v n xs) (k : Nat) : (W.drewN k).ownsRow base e size v n xs := h

end Go.Proofs.YtclnadjgbpihcaaGreatDoor

