/- The document's teller: numbers to the base 16. -/
import Derived.Test.YtddbaacibdmnaaaGreatDoorTRef
namespace Go.Proofs.YtddbaacibdmnaaaGreatDoor
open Go.RowKit
set_option linter.unusedVariables false
set_option linter.unusedSimpArgs false

theorem hex_cut (a : Nat) (h : a < 16) : (⟨#[48, 49, 50, 51, 52, 53, 54, 55, 56, 57, 65, 66, 67, 68, 69, 70]⟩ : ByteArray).extract a (a + 1) = strOf [hexC a] := by
  have key : ∀ i : Fin 16, (⟨#[48, 49, 50, 51, 52, 53, 54, 55, 56, 57, 65, 66, 67, 68, 69, 70]⟩ : ByteArray).extract i.val (i.val + 1) = strOf [hexC i.val] := by decide +kernel
  exact key ⟨a, h⟩

theorem run_cut (S : ByteArray) (a a1 : Nat) (h : a ≤ a1) (h2 : a1 ≤ S.size) (hs : S.size ≤ 1000) (W : World) :
    (Instr.slice 9 (.string S) (some (.int .i64 (a : Int))) (some (.int .i64 (a1 : Int))) none).run Tryz.prog W = .ok (.string (S.extract a a1)) W := by
  have q1 : decide ((a : Int) ≤ (a1 : Int)) = true := decide_eq_true (by omega)
  have q2 : decide ((a1 : Int) ≤ (S.size : Int)) = true := decide_eq_true (by omega)
  have hu := Tryz.underlying9
  have k1 : ¬ ((a1 : Int) < 0) := by omega
  have k2 : ¬ ((a : Int) < 0) := by omega
  simp [Instr.slice, go_sem, h, h2, q1, q2, k1, k2]

/-- As the document has it: two digits at least. -/
def hexD : Nat → Nat → List Int
  | 0, n => [hexC (n / 16 % 16), hexC (n % 16)]
  | f + 1, n => if n < 256 then [hexC (n / 16 % 16), hexC (n % 16)] else if n < 4096 then [hexC (n / 256)] ++ [hexC (n / 16 % 16), hexC (n % 16)] else hexD f (n / 256) ++ [hexC (n / 16 % 16), hexC (n % 16)]

theorem hexD_len : ∀ f n, (hexD f n).length ≤ 2 * f + 3
  | 0, _ => by simp [hexD]
  | f + 1, n => by
    rw [hexD]
    split
    · simp
    · split
      · simp
      · have := hexD_len f (n / 256)
        simp
        omega




end Go.Proofs.YtddbaacibdmnaaaGreatDoor
