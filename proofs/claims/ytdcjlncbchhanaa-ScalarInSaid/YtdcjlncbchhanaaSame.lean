/- What the statements' own helpers return, second part: shaped, same, Of; what any right program answers is answered. Memory that was there stays as it was. -/
import Derived.Test.YtdcjlncbchhanaaIn
namespace Go.Proofs.Ytdcjlncbchhanaa
open Go.RowKit
set_option linter.unusedVariables false

theorem shaped_none (w : World) : Calls Try.prog 14 #[.slice none 0 0] w (GivesBool true w) := by
  go_enter Try.func14, Try.ntmps14
  go_wp2
  go_loopw [3] (fun i wr => i = .int .i64 0 ∧ Below w.heap.size w wr) (fun _ _ => 0)
  case atStart => exact ⟨rfl, Below.refl _ _⟩
  case round =>
    obtain ⟨rfl, hbel⟩ := hrel
    go_wp2
    go_ret
    exact ⟨rfl, hbel⟩

theorem shaped_any (u : Value) (S : List (List (Int × Int))) (base : Nat) (w : World) (hS : SeqsAt w base u S) (hn : ∀ s ∈ S, s.length ≠ 0 ∧ s.length ≤ 4)
    (hr2 : ∀ s ∈ S, ∀ (i : Nat) (h : i < s.length), 0 ≤ (s[i]).1 ∧ (s[i]).1 ≤ (s[i]).2 ∧ (s[i]).2 ≤ 255) (hm : S.length ≤ 25) : Calls Try.prog 14 #[u] w (GivesBool true w) := by
  obtain ⟨us, hl, hr, hs⟩ := hS
  rcases row_forms hr with ⟨rfl, h0⟩ | ⟨g, c, rfl⟩
  · exact shaped_none w
  · exact shaped_some S us g c base w hl hr hs hn hr2 hm

theorem same_lens (a : Option Addr) (n c1 m c : Nat) (u : Option Addr) (w : World) (h : n ≠ m) :
    Calls Try.prog 10 #[.slice a n c1, .slice u m c] w (GivesBool false w) := by
  have h1 : ((n : Int) == (m : Int)) = false := by simp; omega
  have h2 : ((n : Int) != (m : Int)) = true := by simp; omega
  go_enter Try.func10, Try.ntmps10
  go_wp2
  go_ret
  exact ⟨rfl, Below.refl _ _⟩

theorem same_none (a b : Option Addr) (c1 c2 : Nat) (w : World) : Calls Try.prog 10 #[.slice a 0 c1, .slice b 0 c2] w (GivesBool true w) := by
  go_enter Try.func10, Try.ntmps10
  go_wp2
  go_loopw [5] (fun i wr => i = .int .i64 0 ∧ Below w.heap.size w wr) (fun _ _ => 0)
  case atStart => exact ⟨rfl, Below.refl _ _⟩
  case round =>
    obtain ⟨rfl, hbel⟩ := hrel
    go_wp2
    go_ret
    exact ⟨rfl, hbel⟩

set_option maxRecDepth 100000 in
set_option maxHeartbeats 4000000 in
theorem same_loop (n g1 c1 g c : Nat) (X Y : Nat → Int) (B : Bool) (w : World) (hm : n ≤ 1000000) (hg1 : g1 < w.heap.size) (hg : g < w.heap.size)
    (hX : ∀ i, i < n → w.cell? ⟨g1, i, none⟩ = some (.int .i64 (X i))) (hY : ∀ i, i < n → w.cell? ⟨g, i, none⟩ = some (.int .i64 (Y i)))
    (hno : ∀ i, i < n → X i ≠ Y i → B = false) (hyes : (∀ i, i < n → X i = Y i) → B = true) :
    Calls Try.prog 10 #[.slice (some ⟨g1, 0, none⟩) n c1, .slice (some ⟨g, 0, none⟩) n c] w (GivesBool B w) := by
  have HX := Lib.hid hX
  have HY := Lib.hid hY
  have HN := Lib.hid hno
  have HS := Lib.hid hyes
  clear hX hY hno hyes
  go_enter Try.func10, Try.ntmps10
  go_wp2
  go_loopw [5] (fun i wr => ∃ k : Nat, i = .int .i64 k ∧ k ≤ n ∧ (∀ i, i < k → X i = Y i) ∧ Below w.heap.size w wr) (fun i _ => n - (intOf i).toNat)
  case atStart => exact ⟨0, rfl, by omega, fun i h => absurd h (Nat.not_lt_zero i), Below.refl _ _⟩
  case round =>
    obtain ⟨k, rfl, hk, hin, hbel⟩ := hrel
    have HI := Lib.hid hin
    clear hin
    by_cases ht : k < n
    · have e0 := (hbel.cell (p := ⟨g1, k, none⟩) hg1).trans (HX.out k ht)
      have d0 := (hbel.cell (p := ⟨g, k, none⟩) hg).trans (HY.out k ht)
      have HC := Lib.hid (HN.out k ht)
      obtain ⟨x, hx⟩ : ∃ x, x = X k := ⟨_, rfl⟩
      obtain ⟨y, hy⟩ : ∃ x, x = Y k := ⟨_, rfl⟩
      rw [← hx] at e0 HC
      rw [← hy] at d0 HC
      have Hx := Lib.hid hx
      have Hy := Lib.hid hy
      clear hx hy
      by_cases hc : x = y
      · have hc' := hc
        subst hc
        go_wp2
        go_quiet (fail)
        go_wp2
        go_roundw
        case rel =>
          refine ⟨k + 1, by go_num, by omega, fun i h => ?_, below_drawn hbel _⟩
          by_cases hik : i < k
          · exact HI.out i hik
          · obtain rfl : i = k := by omega
            rw [← Hx.out, ← Hy.out]
        case measure => simp [intOf]; omega
      · have q0 : (x == y) = false := by simp; exact hc
        have q1 : (x != y) = true := by simp; exact hc
        have HH := Lib.hid hc
        clear hc
        go_wp2
        go_quiet (fail)
        go_wp2
        go_ret
        exact ⟨by rw [HC.out HH.out]; rfl, below_drawn hbel _⟩
    · obtain rfl : k = n := by omega
      go_wp2
      go_ret
      exact ⟨by rw [HS.out HI.out]; rfl, hbel⟩

theorem same_any (v u : Value) (xs ys : List Int) (w : World) (hx : IntsAt w v xs) (hy : IntsAt w u ys) (hm : xs.length ≤ 1000000) :
    Calls Try.prog 10 #[v, u] w (GivesBool (decide (xs = ys)) w) := by
  by_cases hl : xs.length = ys.length
  · rcases hx with ⟨rfl, a, cap, rfl⟩ | ⟨g1, c1, rfl, hc1, hg1, hx⟩
    · obtain rfl : ys = [] := List.length_eq_zero_iff.1 hl.symm
      rcases hy with ⟨_, a', cap', rfl⟩ | ⟨g2, c2, rfl, _⟩
      · exact same_none a a' cap cap' w
      · exact same_none a _ cap c2 w
    · rcases hy with ⟨rfl, a', cap', rfl⟩ | ⟨g2, c2, rfl, hc2, hg2, hy⟩
      · obtain rfl : xs = [] := List.length_eq_zero_iff.1 hl
        exact same_none _ a' c1 cap' w
      · rw [← hl]
        refine same_loop xs.length g1 c1 g2 c2 (fun i => xs.getD i 0) (fun i => ys.getD i 0) _ w hm hg1 hg2 ?_ ?_ ?_ ?_
        · intro i hi
          rw [hx i hi]; simp [hi]
        · intro i hi
          rw [hy i (by omega)]
          have : i < ys.length := by omega
          simp [this]
        · intro i hi h
          simp only [decide_eq_false_iff_not]
          rintro rfl
          exact h rfl
        · intro h
          simp only [decide_eq_true_eq]
          refine List.ext_getElem hl fun i h1 h2 => ?_
          simpa [h1, h2] using h i h1
  · have : decide (xs = ys) = false := by
      simp only [decide_eq_false_iff_not]
      rintro rfl
      exact hl rfl
    rw [this]
    rcases hx with ⟨rfl, a, cap, rfl⟩ | ⟨g1, c1, rfl, hc1, hg1, hx⟩ <;> rcases hy with ⟨rfl, a', cap', rfl⟩ | ⟨g2, c2, rfl, hc2, hg2, hy⟩
    · exact absurd rfl hl
    · exact same_lens _ _ _ _ _ _ w (by simpa using hl)
    · exact same_lens _ _ _ _ _ _ w (by simpa using hl)
    · exact same_lens _ _ _ _ _ _ w hl

theorem encS_le (c : Int) : (encS c).length ≤ 1000000 := by
  unfold encS enc
  (repeat' split) <;> simp

end Go.Proofs.Ytdcjlncbchhanaa
