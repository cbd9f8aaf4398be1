/- How far a text is read, as it lies in memory: a struct in a block of its own; and what a call does to it. No condition. -/
import Derived.Test.YtlaglkbcladfbaaDoorRows
import Derived.Test.YtlaglkbcladfbaaDoorBase
import Derived.Test.YtlaglkbcladfbaaDoorRMath
import Derived.Maps.AppendAt
import Derived.BigQuiet
import Derived.Deep.QuietTactic
namespace Go.Proofs.YtlaglkbcladfbaaDoor
open Go.RowKit
set_option linter.unusedVariables false

/-- A text's bytes; -1 behind its end. -/
def rd (s : ByteArray) (i : Nat) : Int := if h : i < s.size then (s[i].toNat : Int) else -1
/-- The byte that is read: 0 at the end. -/
def nx (f : Nat → Int) (p : Nat) : Int := if f p < 0 then 0 else f p

theorem rd_in {s : ByteArray} {i : Nat} (h : i < s.size) : rd s i = (s[i].toNat : Int) := by unfold rd; rw [dif_pos h]
theorem rd_out {s : ByteArray} {i : Nat} (h : ¬ i < s.size) : rd s i = -1 := by unfold rd; rw [dif_neg h]
theorem rd_range (s : ByteArray) (i : Nat) : -1 ≤ rd s i ∧ rd s i ≤ 255 := by
  by_cases h : i < s.size
  · rw [rd_in h]
    have := s[i].toNat_lt
    omega
  · rw [rd_out h]
    omega
theorem rd_neg {s : ByteArray} {i : Nat} : rd s i < 0 ↔ ¬ i < s.size := by
  by_cases h : i < s.size
  · rw [rd_in h]; omega
  · rw [rd_out h]; omega
theorem nx_range (s : ByteArray) (i : Nat) : 0 ≤ nx (rd s) i ∧ nx (rd s) i ≤ 255 := by
  have := rd_range s i
  unfold nx
  split <;> omega

/-- The text s, read up to p, in d brackets, lies in block R. -/
def At (w : World) (R : Nat) (s : ByteArray) (p d : Nat) : Prop := w.heap[R]? = some (.cells #[.string s, .int .i64 p, .int .i64 d] 69 (0, 0))

theorem At.lt {w : World} {R : Nat} {s : ByteArray} {p d : Nat} (h : At w R s p d) : R < w.heap.size := (Array.getElem?_eq_some_iff.1 h).1
theorem At.cells {w : World} {R : Nat} {s : ByteArray} {p d : Nat} (h : At w R s p d) : w.cell? ⟨R, 0, none⟩ = some (.string s) ∧ w.cell? ⟨R, 1, none⟩ = some (.int .i64 p) ∧ w.cell? ⟨R, 2, none⟩ = some (.int .i64 d) ∧
    w.frozen? ⟨R, 0, none⟩ = false ∧ w.frozen? ⟨R, 1, none⟩ = false ∧ w.frozen? ⟨R, 2, none⟩ = false := by
  unfold At at h
  simp [World.cell?, World.frozen?, h]
theorem At.drew {w : World} {R : Nat} {s : ByteArray} {p d : Nat} (h : At w R s p d) (n : Nat) : At (w.drewN n) R s p d := h
theorem At.kept {w w' : World} {R : Nat} {row : Option Nat} {s : ByteArray} {p d : Nat} (h : At w R s p d) (hg : w.grownBy w' row) (hr : some R ≠ row) : At w' R s p d := (hg.block R h.lt hr).trans h
theorem At.alloc {w : World} {R : Nat} {s : ByteArray} {p d : Nat} (h : At w R s p d) (o : Obj) : At (w.alloc o) R s p d := h.kept (World.grownBy_alloc w o none) (by simp)
theorem At.set {w : World} {R : Nat} {s : ByteArray} {p d : Nat} (h : At w R s p d) (q : Nat) : At (w.setCell ⟨R, 1, none⟩ (.int .i64 q)) R s q d := by
  unfold At at h ⊢
  unfold World.setCell
  simp only [Array.getElem?_modify, h]
  simp
theorem At.setd {w : World} {R : Nat} {s : ByteArray} {p d : Nat} (h : At w R s p d) (q : Nat) : At (w.setCell ⟨R, 2, none⟩ (.int .i64 q)) R s p q := by
  unfold At at h ⊢
  unfold World.setCell
  simp only [Array.getElem?_modify, h]
  simp

theorem grown_refl (w : World) (row : Option Nat) : w.grownBy w row := ⟨rfl, rfl, rfl, Nat.le_refl _, fun _ _ _ => rfl⟩
theorem grown_drew {w w' : World} {row : Option Nat} (h : w.grownBy w' row) (n : Nat) : w.grownBy (w'.drewN n) row := ⟨h.os, h.tape, h.output, h.size, h.block⟩
theorem grown_alloc {w w' : World} {row : Option Nat} (h : w.grownBy w' row) (o : Obj) : w.grownBy (w'.alloc o) row := h.trans (World.grownBy_alloc w' o row)
theorem grown_set {w w' : World} {R : Nat} (h : w.grownBy w' (some R)) (k : Nat) (v : Value) : w.grownBy (w'.setCell ⟨R, k, none⟩ v) (some R) :=
  h.trans ⟨rfl, rfl, rfl, by simp [World.setCell], fun i _ hi => Below.heap_setCell _ _ _ _ (fun e => hi (by rw [e]))⟩

/-- The call returns this, and has read up to q. -/
def Gives (R : Nat) (s : ByteArray) (d : Nat) (v : Value) (q : Nat) (w : World) (e : Ending) (w' : World) : Prop := e = .returned v ∧ At w' R s q d ∧ w.grownBy w' (some R)
/-- The call panics with this error. -/
def Fails (R : Nat) (c : Int) (w : World) (e : Ending) (w' : World) : Prop := e = .panicked [{ v := .iface 66 (.agg #[.int .i64 c]), recovered := false }] ∧ w.grownBy w' (some R)

end Go.Proofs.YtlaglkbcladfbaaDoor
