/- The program's teller: whether an expression is of one of some kinds. -/
import Derived.Test.YtfoohffeccgkeaaDoorTCount
namespace Go.Proofs.YtfoohffeccgkeaaDoor
open Go.RowKit
set_option linter.unusedVariables false
set_option linter.unusedSimpArgs false

/-- Whether a number is in a list. -/
def inB (x : List Int) (k : Int) : Bool := x.any (· == k)
theorem any_yes {x : List Int} {i : Nat} {k : Int} (h : x[i]? = some k) : inB x k = true := by
  unfold inB
  rw [List.any_eq_true]
  exact ⟨k, List.mem_of_getElem? h, by simp⟩
theorem any_no {x : List Int} {n : Nat} {k : Int} (hn : x.length ≤ n) (h : ∀ (i : Nat) (c : Int), i < n → x[i]? = some c → c ≠ k) : inB x k = false := by
  unfold inB
  rw [List.any_eq_false]
  intro c hc
  obtain ⟨i, hi⟩ := List.getElem?_of_mem hc
  have := h i c (Nat.lt_of_lt_of_le (List.getElem?_eq_some_iff.1 hi).1 hn) hi
  simpa using this

set_option maxRecDepth 100000 in
set_option maxHeartbeats 1000000 in
theorem index_of {x : List Int} {v : Value} (k : Int) (w : World) (hv : RowAny w v x.length (icells x)) :
    Calls Tryd.prog 75 #[v, .int .i64 k] w fun e w' => ∃ i : Int, e = .returned (.int .i64 i) ∧ w = w' ∧ -1 ≤ i ∧ decide (0 ≤ i) = inB x k := by
  obtain ⟨n, hn⟩ : ∃ n, n = x.length := ⟨_, rfl⟩
  rw [← hn] at hv
  have HN := Lib.hid hn
  rcases hv with ⟨h0, a, cap, rfl⟩ | ⟨g, off, cap, rfl, h1, h2, h3, h4⟩
  · have hx0 : x = [] := List.length_eq_zero_iff.1 (by omega)
    subst hx0
    clear hn h0
    go_enter Tryd.func75, Tryd.ntmps75
    go_wp2_with fail
    go_loop [8] (fun v => v = .int .i64 0) (fun v => 0)
    case atStart => rfl
    case round =>
      subst hrel
      go_wp2_with fail
      go_ret
      exact ⟨-1, rfl, rfl, by omega, by unfold inB; rfl⟩
  · have H4 := Lib.hid h4
    unfold maxLen at h2
    clear hn h4
    go_enter Tryd.func75, Tryd.ntmps75
    go_wp2_with fail
    go_loop [8] (fun v => ∃ i : Nat, v = .int .i64 i ∧ i ≤ n ∧ ∀ (j : Nat) (c : Int), j < i → x[j]? = some c → c ≠ k) (fun v => n - (intOf v).toNat)
    case atStart => exact ⟨0, rfl, by omega, fun j c h => by omega⟩
    case round =>
      obtain ⟨i, rfl, hi, hall⟩ := hrel
      have HALL := Lib.hid hall
      clear hall
      by_cases hlt : i < n
      · obtain ⟨Z, hZ⟩ : ∃ z, x[i]? = some z := ⟨_, List.getElem?_eq_getElem (by rw [← HN.out]; exact hlt)⟩
        have HXI := Lib.hid hZ
        have c0 := H4.out i _ (icells_at4 hZ)
        clear hZ
        by_cases hf : k = Z
        · have q : (k == Z) = true := by simpa using hf
          have HYES : Hid (inB x k = true) := any_yes (by rw [HXI.out, hf])
          clear hf
          go_wp2_with fail
          go_ret
          exact ⟨(i : Int), rfl, rfl, by omega, by rw [HYES.out]; simp⟩
        · have q : (k == Z) = false := by simpa using hf
          have HNX : Hid (∀ (j : Nat) (c : Int), j < i + 1 → x[j]? = some c → c ≠ k) := fun j c hj hc => by
            by_cases g : j = i
            · subst g
              rw [HXI.out] at hc
              rw [← Option.some.inj hc]
              exact fun e => hf e.symm
            · exact HALL.out j c (by omega) hc
          clear hf
          go_wp2_with fail
          go_round
          case rel => exact ⟨i + 1, by go_num, by omega, HNX.out⟩
          case measure => simp [intOf]; omega
      · have hno : inB x k = false := any_no (n := n) (by rw [HN.out]; exact Nat.le_refl _) (fun j c h hc => HALL.out j c (by omega) hc)
        have HNO := Lib.hid hno
        clear hno
        go_wp2_with fail
        go_ret
        exact ⟨-1, rfl, rfl, by omega, by rw [HNO.out]; decide⟩

theorem contains_of {x : List Int} {v : Value} (k : Int) (w : World) (hv : RowAny w v x.length (icells x)) :
    Calls Tryd.prog 65 #[v, .int .i64 k] w (SaysB (inB x k) w) := by
  have HI := Lib.hid (index_of k w hv)
  clear hv
  go_enter Tryd.func65, Tryd.ntmps65
  go_wp2_with fail
  refine HI.out.mono ?_
  rintro e w' ⟨i, rfl, rfl, hi, hd⟩
  have HD := Lib.hid hd
  clear hd
  go_wp2_with fail
  go_ret
  exact ⟨by rw [← HD.out]; exact rfl, rfl⟩

end Go.Proofs.YtfoohffeccgkeaaDoor
