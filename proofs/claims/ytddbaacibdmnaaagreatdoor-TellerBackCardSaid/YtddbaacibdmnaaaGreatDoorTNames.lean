/- Names and texts of bytes, by the document's teller; for every text of at most maxLen bytes. -/
import Derived.Test.YtddbaacibdmnaaaGreatDoorTBase
import Derived.Lib.Strings
namespace Go.Proofs.YtddbaacibdmnaaaGreatDoor
open Go.RowKit
set_option linter.unusedVariables false
set_option linter.unusedSimpArgs false

theorem strOf_get8 {x : List Int} (hx : ∀ c ∈ x, 0 ≤ c ∧ c ≤ 255) (i : Nat) (h : i < (strOf x).size) : x[i]? = some ((strOf x)[i].toNat : Int) := by
  have h' : i < x.length := by rwa [strOf_size] at h
  have h1 : (strOf x)[i] = byt x[i] := by
    have e : (strOf x).data.toList[i]? = some (byt x[i]) := by rw [strOf_data, List.getElem?_map, List.getElem?_eq_getElem h']; rfl
    have e2 : (strOf x).data.toList[i]? = some (strOf x)[i] := List.getElem?_eq_getElem (by simpa using h)
    exact Option.some.inj (e2.symm.trans e)
  rw [h1, List.getElem?_eq_getElem h']
  have hm := hx x[i] (List.getElem_mem h')
  unfold byt
  congr 1
  simp
  omega
theorem str_some4 {s : ByteArray} (h : 0 < s.size) : s.toList.isEmpty = false := by
  rw [Lib.toList_data]
  cases g : s.data.toList with
  | nil =>
    have : s.size = 0 := by
      show s.data.size = 0
      rw [← Array.length_toList, g]; rfl
    omega
  | cons a l => rfl
theorem all_upto {P : Int → Bool} {x : List Int} {n : Nat} (hn : x.length ≤ n) (h : ∀ (i : Nat) (c : Int), i < n → x[i]? = some c → P c = true) : x.all P = true := by
  rw [List.all_eq_true]
  intro c hc
  obtain ⟨i, hi⟩ := List.getElem?_of_mem hc
  exact h i c (Nat.lt_of_lt_of_le (List.getElem?_eq_some_iff.1 hi).1 hn) hi
theorem all_not {P : Int → Bool} {x : List Int} {i : Nat} {c : Int} (h : x[i]? = some c) (hc : P c = false) : x.all P = false := by
  rw [List.all_eq_false]
  exact ⟨c, List.mem_of_getElem? h, by simp [hc]⟩



theorem nlB_no {c : Int} (h : nlB c = false) : smB c = false ∧ isDc c = false ∧ c ≠ 45 := by
  unfold nlB at h
  simp at h
  exact ⟨h.1.1, h.1.2, h.2⟩



end Go.Proofs.YtddbaacibdmnaaaGreatDoor
