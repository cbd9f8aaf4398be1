/- The document's teller: lists of numbers, digits of both bases. -/
import Derived.Test.YtddbaacibdmnaaaGreatDoorTName
namespace Go.Proofs.YtddbaacibdmnaaaGreatDoor
open Go.RowKit
set_option linter.unusedVariables false
set_option linter.unusedSimpArgs false



theorem conv_byte (W : World) (c : Int) (h0 : 0 ≤ c) (h1 : c ≤ 255) :
    (convert 22 9 (.slice (some ⟨W.heap.size, 0, none⟩) 1 1)).run Tryz.prog (W.alloc (.cells #[.int .u8 c] 5)) = .ok (.string (strOf [c])) (W.alloc (.cells #[.int .u8 c] 5)) := by
  have h := run_convert_bytes_back (P := Tryz.prog) (W.alloc (.cells #[.int .u8 c] 5)) 22 9 5 ⟨W.heap.size, 0, none⟩ 1 [byt c] Tryz.underlying22 Tryz.underlying5 Tryz.underlying9 (fun j hj => by
    have hj0 : j = 0 := by simp at hj; exact hj
    subst hj0
    have e : ((byt c).toNat : Int) = c := by unfold byt; simp; omega
    show World.cell? _ ⟨W.heap.size, 0, none⟩ = some (.int .u8 ((byt c).toNat : Int))
    rw [e]
    unfold World.cell?
    show (match (W.alloc _).heap[W.heap.size]? with | some (.cells c elem frozen) => c[0]? | x => none) = _
    rw [heap_alloc_new]
    rfl)
  exact h
theorem str_app4 (x y : List Int) : strOf x ++ strOf y = strOf (x ++ y) := by
  apply ByteArray.ext
  unfold strOf
  simp
theorem wrap_u8_small {n : Int} (h0 : 0 ≤ n) (h1 : n ≤ 255) : IntKind.u8.wrap n = n := by rw [IntKind.wrap_u8]; omega

theorem decF_len : ∀ f n, (decF f n).length ≤ f
  | 0, _ => by simp [decF]
  | f + 1, n => by
    unfold decF
    split
    · simp
    · have := decF_len f (n / 10)
      simp
      omega
theorem decF_last {f n : Nat} (h : n < 10) : decF (f + 1) n = [48 + (n : Int)] := by
  unfold decF
  rw [if_pos h, Nat.mod_eq_of_lt h]
  rfl
theorem decF_more {f n : Nat} (h : ¬ n < 10) : decF (f + 1) n = decF f (n / 10) ++ [48 + ((n % 10 : Nat) : Int)] := by
  rw [decF, if_neg h]



end Go.Proofs.YtddbaacibdmnaaaGreatDoor
