/- How far the document's own reader has read, as it lies in memory: text, place, first error; what its small calls answer; for every text of at most 50000 bytes. -/
import Derived.Test.YtddbaacibdmnaaaGreatDoorBGen
namespace Go.Proofs.YtddbaacibdmnaaaGreatDoor
open Go.RowKit
set_option linter.unusedVariables false
set_option linter.unusedSimpArgs false

/-- The text s, read up to p, with the error c, lies in block R. -/
def AtY (w : World) (R : Nat) (s : ByteArray) (p : Nat) (c : Int) : Prop := w.heap[R]? = some (.cells #[.string s, .int .i64 p, .int .i64 c] 53 (0, 0))

theorem AtY.lt {w : World} {R : Nat} {s : ByteArray} {p : Nat} {c : Int} (h : AtY w R s p c) : R < w.heap.size := (Array.getElem?_eq_some_iff.1 h).1
theorem AtY.cells {w : World} {R : Nat} {s : ByteArray} {p : Nat} {c : Int} (h : AtY w R s p c) : w.cell? ⟨R, 0, none⟩ = some (.string s) ∧ w.cell? ⟨R, 1, none⟩ = some (.int .i64 p) ∧ w.cell? ⟨R, 2, none⟩ = some (.int .i64 c) ∧
    w.frozen? ⟨R, 0, none⟩ = false ∧ w.frozen? ⟨R, 1, none⟩ = false ∧ w.frozen? ⟨R, 2, none⟩ = false := by
  unfold AtY at h
  simp [World.cell?, World.frozen?, h]
theorem AtY.drew {w : World} {R : Nat} {s : ByteArray} {p : Nat} {c : Int} (h : AtY w R s p c) (n : Nat) : AtY (w.drewN n) R s p c := h
theorem AtY.kept {w w' : World} {R : Nat} {row : Option Nat} {s : ByteArray} {p : Nat} {c : Int} (h : AtY w R s p c) (hg : w.grownBy w' row) (hr : some R ≠ row) : AtY w' R s p c := (hg.block R h.lt hr).trans h
theorem AtY.below {w w' : World} {R : Nat} {s : ByteArray} {p : Nat} {c : Int} (h : AtY w R s p c) (hb : Below w.heap.size w w') : AtY w' R s p c := (hb.block R h.lt).trans h
theorem AtY.alloc {w : World} {R : Nat} {s : ByteArray} {p : Nat} {c : Int} (h : AtY w R s p c) (o : Obj) : AtY (w.alloc o) R s p c := h.kept (World.grownBy_alloc w o none) (by simp)
theorem AtY.put {w : World} {R : Nat} {s : ByteArray} {p : Nat} {c : Int} (h : AtY w R s p c) {x : Int} {q : Nat} (hx : x = q) : AtY (w.setCell ⟨R, 1, none⟩ (.int .i64 x)) R s q c := by
  subst hx
  unfold AtY at h ⊢
  unfold World.setCell
  simp only [Array.getElem?_modify, h]
  simp
theorem AtY.step {w : World} {R : Nat} {s : ByteArray} {p : Nat} {c : Int} (h : AtY w R s p c) : AtY (w.setCell ⟨R, 1, none⟩ (.int .i64 ((p : Int) + 1))) R s (p + 1) c := h.put (by omega)
theorem AtY.sete {w : World} {R : Nat} {s : ByteArray} {p : Nat} {c : Int} (h : AtY w R s p c) (x : Int) : AtY (w.setCell ⟨R, 2, none⟩ (.int .i64 x)) R s p x := by
  unfold AtY at h ⊢
  unfold World.setCell
  simp only [Array.getElem?_modify, h]
  simp
theorem AtY.pos {w : World} {R : Nat} {s : ByteArray} {p : Nat} {c : Int} (h : AtY w R s p c) : posOf R w = p := by
  unfold posOf
  rw [h.cells.2.1]
  simp

/-- The call returns this; the text is read up to q, with the error c. -/
def GivesY (R : Nat) (s : ByteArray) (v : Value) (q : Nat) (c : Int) (w : World) (e : Ending) (w' : World) : Prop := e = .returned v ∧ AtY w' R s q c ∧ w.grownBy w' (some R)

theorem yblank_any (c : Int) (w : World) : Calls Tryz.prog 17 #[.int .i64 c] w (SaysB (isBl c) w) := by
  by_cases h1 : c = 32
  · subst h1
    go_enter Tryz.func17, Tryz.ntmps17
    go_wp2
    go_ret
    exact ⟨rfl, rfl⟩
  · have e1 : (c == 32) = false := by simpa using h1
    by_cases h2 : c = 9
    · subst h2
      go_enter Tryz.func17, Tryz.ntmps17
      go_wp2
      go_ret
      exact ⟨rfl, rfl⟩
    · have e2 : (c == 9) = false := by simpa using h2
      have hb : isBl c = false := by unfold isBl; rw [e1, e2]; rfl
      rw [hb]
      clear hb
      go_enter Tryz.func17, Tryz.ntmps17
      go_wp2
      go_ret
      exact ⟨rfl, rfl⟩

theorem yalpha_any (c : Int) (w : World) : Calls Tryz.prog 49 #[.int .i64 c] w (SaysB (isAl c) w) := by
  have hu : isAl c = ((decide (97 ≤ c) && decide (c ≤ 122)) || (decide (65 ≤ c) && decide (c ≤ 90))) := rfl
  by_cases h1 : 97 ≤ c <;> by_cases h2 : c ≤ 122 <;> by_cases h3 : 65 ≤ c <;> by_cases h4 : c ≤ 90
  all_goals try (exfalso; omega)
  all_goals
    simp only [h1, h2, h3, h4, decide_true, decide_false, Bool.and_true, Bool.and_false, Bool.or_true, Bool.or_false, Bool.and_self, Bool.or_self] at hu
    rw [hu]
    clear hu
    go_enter Tryz.func49, Tryz.ntmps49
    go_wp2
    go_ret
    exact ⟨rfl, rfl⟩

theorem ydigit_any (c : Int) (w : World) : Calls Tryz.prog 50 #[.int .i64 c] w (SaysB (isDc c) w) := by
  have hu : isDc c = (decide (48 ≤ c) && decide (c ≤ 57)) := rfl
  by_cases h1 : 48 ≤ c <;> by_cases h2 : c ≤ 57
  all_goals try (exfalso; omega)
  all_goals
    simp only [h1, h2, decide_true, decide_false, Bool.and_true, Bool.and_false, Bool.and_self] at hu
    rw [hu]
    clear hu
    go_enter Tryz.func50, Tryz.ntmps50
    go_wp2
    go_ret
    exact ⟨rfl, rfl⟩

theorem ylower_any (c : Int) (h0 : 0 ≤ c) (h1 : c ≤ 255) (w : World) : Calls Tryz.prog 51 #[.int .u8 c] w fun e w' => e = .returned (.int .u8 (low c)) ∧ w = w' := by
  by_cases a : 65 ≤ c <;> by_cases b : c ≤ 90
  · rw [show low c = c + 32 by unfold low; rw [if_pos ⟨a, b⟩]]
    go_enter Tryz.func51, Tryz.ntmps51
    go_wp2
    go_ret
    exact ⟨rfl, rfl⟩
  all_goals
    rw [show low c = c by unfold low; rw [if_neg (by omega)]]
    go_enter Tryz.func51, Tryz.ntmps51
    go_wp2
    go_ret
    exact ⟨rfl, rfl⟩

set_option maxRecDepth 100000 in
theorem yat_any {R p : Nat} {c : Int} {s : ByteArray} {w : World} (h : AtY w R s p c) (hs : s.size ≤ 50000) (hp : p ≤ 60000) (k : Nat) (hk : k ≤ 60000) (x : Int) (hx : x = k) :
    Calls Tryz.prog 18 #[.pointer (some ⟨R, 0, none⟩), .int .i64 x] w (GivesNum (rd s (p + k)) w) := by
  subst hx
  obtain ⟨c0, c1, c2, z0, z1, z2⟩ := h.cells
  clear h
  obtain ⟨m, hm⟩ : ∃ m, p + k = m := ⟨_, rfl⟩
  have hmi : (p : Int) + (k : Int) = (m : Int) := by omega
  rw [hm]
  by_cases hlt : m < s.size
  · rw [rd_in hlt]
    have q1 : decide (s.size ≤ m) = false := by simp; omega
    clear hm
    go_enter Tryz.func18, Tryz.ntmps18
    go_wp2_with fail
    go_quiet (fail)
    go_wp2_with fail
    go_quiet (fail)
    go_wp2_with fail
    go_ret
    exact ⟨ret_num (wrap_byte _), below_drawn (below_drawn (Below.refl _ _) _) _⟩
  · rw [rd_out hlt]
    have q1 : decide (s.size ≤ m) = true := by simp; omega
    clear hm
    go_enter Tryz.func18, Tryz.ntmps18
    go_wp2_with fail
    go_quiet (fail)
    go_wp2_with fail
    go_ret
    exact ⟨rfl, below_drawn (Below.refl _ _) _⟩

set_option maxRecDepth 100000 in
theorem yfail_first {R p : Nat} {s : ByteArray} {w : World} (h : AtY w R s p 0) (c : Int) :
    Calls Tryz.prog 21 #[.pointer (some ⟨R, 0, none⟩), .int .i64 c] w (GivesY R s (.tuple #[]) p c w) := by
  obtain ⟨c0, c1, c2, z0, z1, z2⟩ := h.cells
  have H := Lib.hid h
  clear h
  go_enter Tryz.func21, Tryz.ntmps21
  go_wp2
  go_end0
  exact ⟨rfl, H.out.sete c, grown_set (grown_refl _ _) _ _⟩

set_option maxRecDepth 100000 in
theorem yfail_later {R p : Nat} {e : Int} {s : ByteArray} {w : World} (h : AtY w R s p e) (he : e ≠ 0) (c : Int) :
    Calls Tryz.prog 21 #[.pointer (some ⟨R, 0, none⟩), .int .i64 c] w (GivesY R s (.tuple #[]) p e w) := by
  obtain ⟨c0, c1, c2, z0, z1, z2⟩ := h.cells
  have H := Lib.hid h
  have q1 : (e == 0) = false := by simpa using he
  clear h
  go_enter Tryz.func21, Tryz.ntmps21
  go_wp2
  go_end0
  exact ⟨rfl, H.out, grown_refl _ _⟩

end Go.Proofs.YtddbaacibdmnaaaGreatDoor
