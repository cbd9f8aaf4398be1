/- What the statements' own helpers return: same, In, Count, shaped: for all lists of ints and of sequences; memory that was there stays as it was. -/
import Derived.Deep.QuietTactic
import Derived.BigQuiet
import Derived.Test.YtdcjlncbchhanaaDivide
namespace Go.Proofs.Ytdcjlncbchhanaa
open Go.RowKit
set_option linter.unusedVariables false

theorem pcells_len (l : List (Int × Int)) : (pcells l).length = l.length * 2 := by
  induction l with
  | nil => rfl
  | cons r l ih => simp [pcells] at ih ⊢; omega

theorem pcells_lo (l : List (Int × Int)) (i : Nat) (h : i < l.length) : (pcells l)[i * 2]? = some (.int .i64 (l[i]).1) := by
  induction l generalizing i with
  | nil => simp at h
  | cons r l ih =>
    cases i with
    | zero => simp [pcells]
    | succ i =>
      have := ih i (by simpa using h)
      simp only [pcells, List.flatMap_cons] at this ⊢
      rw [show (i + 1) * 2 = i * 2 + 2 by omega]
      simpa using this

theorem pcells_hi (l : List (Int × Int)) (i : Nat) (h : i < l.length) : (pcells l)[i * 2 + 1]? = some (.int .i64 (l[i]).2) := by
  induction l generalizing i with
  | nil => simp at h
  | cons r l ih =>
    cases i with
    | zero => simp [pcells]
    | succ i =>
      have := ih i (by simpa using h)
      simp only [pcells, List.flatMap_cons] at this ⊢
      rw [show (i + 1) * 2 + 1 = i * 2 + 1 + 2 by omega]
      simpa using this

theorem inB_len : ∀ {xs : List Int} {s : List (Int × Int)}, inB xs s = true → xs.length = s.length
  | [], [], _ => rfl
  | x :: xs, r :: s, h => by
    simp only [inB, Bool.and_eq_true] at h
    simp [inB_len h.2]
  | [], _ :: _, h => by simp [inB] at h
  | _ :: _, [], h => by simp [inB] at h

theorem inB_at : ∀ {xs : List Int} {s : List (Int × Int)}, inB xs s = true → ∀ (i : Nat) (h : i < xs.length) (h' : i < s.length), (s[i]).1 ≤ xs[i] ∧ xs[i] ≤ (s[i]).2
  | x :: xs, r :: s, h, 0, _, _ => by
    simp only [inB, Bool.and_eq_true, decide_eq_true_eq] at h
    exact h.1
  | x :: xs, r :: s, h, i + 1, h1, h2 => by
    simp only [inB, Bool.and_eq_true] at h
    exact inB_at h.2 i (by simpa using h1) (by simpa using h2)

theorem inB_of : ∀ {xs : List Int} {s : List (Int × Int)}, xs.length = s.length → (∀ (i : Nat) (h : i < xs.length) (h' : i < s.length), (s[i]).1 ≤ xs[i] ∧ xs[i] ≤ (s[i]).2) → inB xs s = true
  | [], [], _, _ => rfl
  | x :: xs, r :: s, hl, h => by
    simp only [inB, Bool.and_eq_true, decide_eq_true_eq]
    exact ⟨h 0 (by simp) (by simp), inB_of (by simpa using hl) fun i h1 h2 => h (i + 1) (by simpa using h1) (by simpa using h2)⟩
  | [], _ :: _, hl, _ => by simp at hl
  | _ :: _, [], hl, _ => by simp at hl

theorem inB_len_no {xs : List Int} {s : List (Int × Int)} (h : xs.length ≠ s.length) : inB xs s = false := by
  cases hb : inB xs s with
  | false => rfl
  | true => exact absurd (inB_len hb) h

theorem inB_no {xs : List Int} {s : List (Int × Int)} (i : Nat) (h : i < xs.length) (h' : i < s.length) (hx : xs[i] < (s[i]).1 ∨ (s[i]).2 < xs[i]) : inB xs s = false := by
  cases hb : inB xs s with
  | false => rfl
  | true => have := inB_at hb i h h'; omega

set_option maxRecDepth 100000 in
set_option maxHeartbeats 4000000 in
theorem in_loop (n g1 c1 g c : Nat) (X Lo Hi : Nat → Int) (B : Bool) (w : World) (hm : n ≤ 1000000) (hg1 : g1 < w.heap.size) (hg : g < w.heap.size)
    (hX : ∀ i, i < n → w.cell? ⟨g1, i, none⟩ = some (.int .i64 (X i))) (hLo : ∀ i, i < n → w.cell? ⟨g, i * 2, none⟩ = some (.int .i64 (Lo i))) (hHi : ∀ i, i < n → w.cell? ⟨g, i * 2 + 1, none⟩ = some (.int .i64 (Hi i)))
    (hno : ∀ i, i < n → X i < Lo i ∨ Hi i < X i → B = false) (hyes : (∀ i, i < n → Lo i ≤ X i ∧ X i ≤ Hi i) → B = true) :
    Calls Try.prog 18 #[.slice (some ⟨g1, 0, none⟩) n c1, .slice (some ⟨g, 0, none⟩) n c] w (GivesBool B w) := by
  have HX := Lib.hid hX
  have HLo := Lib.hid hLo
  have HHi := Lib.hid hHi
  have HN := Lib.hid hno
  have HY := Lib.hid hyes
  clear hX hLo hHi hno hyes
  go_enter Try.func18, Try.ntmps18
  go_wp2
  go_loopw [5] (fun i wr => ∃ k : Nat, i = .int .i64 k ∧ k ≤ n ∧ (∀ i, i < k → Lo i ≤ X i ∧ X i ≤ Hi i) ∧ Below w.heap.size w wr) (fun i _ => n - (intOf i).toNat)
  case atStart => exact ⟨0, rfl, by omega, fun i h => absurd h (Nat.not_lt_zero i), Below.refl _ _⟩
  case round =>
    obtain ⟨k, rfl, hk, hin, hbel⟩ := hrel
    have HI := Lib.hid hin
    clear hin
    by_cases ht : k < n
    · have e0 := (hbel.cell (p := ⟨g1, k, none⟩) hg1).trans (HX.out k ht)
      have d0 := (hbel.cell (p := ⟨g, k * 2, none⟩) hg).trans (HLo.out k ht)
      have d1 := (hbel.cell (p := ⟨g, k * 2 + 1, none⟩) hg).trans (HHi.out k ht)
      have HC := Lib.hid (HN.out k ht)
      obtain ⟨x, hx⟩ : ∃ x, x = X k := ⟨_, rfl⟩
      obtain ⟨lo, hlo⟩ : ∃ x, x = Lo k := ⟨_, rfl⟩
      obtain ⟨hi, hhi⟩ : ∃ x, x = Hi k := ⟨_, rfl⟩
      rw [← hx] at e0 HC
      rw [← hlo] at d0 HC
      rw [← hhi] at d1 HC
      have Hx := Lib.hid hx
      have Hlo := Lib.hid hlo
      have Hhi := Lib.hid hhi
      clear hx hlo hhi
      have hc : x < lo ∨ (lo ≤ x ∧ hi < x) ∨ (lo ≤ x ∧ x ≤ hi) := by omega
      rcases hc with hc | ⟨hc, hd⟩ | ⟨hc, hd⟩
      · have q0 : decide (x < lo) = true := by simp; omega
        go_wp2
        go_quiet (fail)
        go_wp2
        go_ret
        exact ⟨by rw [HC.out (.inl hc)]; rfl, below_drawn hbel _⟩
      · have q0 : decide (x < lo) = false := by simp; omega
        have q1 : decide (hi < x) = true := by simp; omega
        go_wp2
        go_quiet (fail)
        go_wp2
        go_ret
        exact ⟨by rw [HC.out (.inr hd)]; rfl, below_drawn hbel _⟩
      · have q0 : decide (x < lo) = false := by simp; omega
        have q1 : decide (hi < x) = false := by simp; omega
        go_wp2
        go_quiet (fail)
        go_wp2
        go_roundw
        case rel =>
          refine ⟨k + 1, by go_num, by omega, fun i h => ?_, below_drawn hbel _⟩
          by_cases hik : i < k
          · exact HI.out i hik
          · obtain rfl : i = k := by omega
            rw [← Hx.out, ← Hlo.out, ← Hhi.out]
            exact ⟨hc, hd⟩
        case measure => simp [intOf]; omega
    · obtain rfl : k = n := by omega
      go_wp2
      go_ret
      exact ⟨by rw [HY.out HI.out]; rfl, hbel⟩

theorem in_lens (a : Option Addr) (n c1 m c : Nat) (u : Option Addr) (w : World) (h : n ≠ m) :
    Calls Try.prog 18 #[.slice a n c1, .slice u m c] w (GivesBool false w) := by
  have h1 : ((n : Int) == (m : Int)) = false := by simp; omega
  have h2 : ((n : Int) != (m : Int)) = true := by simp; omega
  go_enter Try.func18, Try.ntmps18
  go_wp2
  go_ret
  exact ⟨rfl, Below.refl _ _⟩

theorem in_any (v : Value) (xs : List Int) (s : List (Int × Int)) (g c base : Nat) (w : World) (hx : IntsAt w v xs) (hu : w.ownsRow base 40 2 (.slice (some ⟨g, 0, none⟩) s.length c) s.length (pcells s)) (h0 : s.length ≠ 0) (hm : s.length ≤ 1000000) :
    Calls Try.prog 18 #[v, .slice (some ⟨g, 0, none⟩) s.length c] w (GivesBool (inB xs s) w) := by
  obtain ⟨_, _, _, hg⟩ := row_base hu
  rcases hx with ⟨rfl, a, cap, rfl⟩ | ⟨g1, c1, rfl, hc1, hg1, hx⟩
  · rw [inB_len_no (by simp; omega)]
    exact in_lens a 0 cap s.length c _ w (by omega)
  · by_cases hl : xs.length = s.length
    · have hl' := hl
      rw [← hl] at hm ⊢
      refine in_loop xs.length g1 c1 g c (fun i => xs.getD i 0) (fun i => (s.getD i (0, 0)).1) (fun i => (s.getD i (0, 0)).2) _ w hm hg1 hg ?_ ?_ ?_ ?_ ?_
      · intro i hi
        rw [hx i hi]; simp [hi]
      · intro i hi
        rw [row_cell hu (pcells_lo s i (by omega))]
        have : i < s.length := by omega
        simp [this]
      · intro i hi
        rw [row_cell hu (pcells_hi s i (by omega))]
        have : i < s.length := by omega
        simp [this]
      · intro i hi h
        have : i < s.length := by omega
        exact inB_no i hi this (by simpa [hi, this] using h)
      · intro h
        refine inB_of hl' fun i h1 h2 => ?_
        simpa [h1, h2] using h i h1
    · rw [inB_len_no hl]
      exact in_lens _ _ _ _ _ _ w hl

/-- In how many of these sequences the bytes are. -/
def cntB (xs : List Int) (S : List (List (Int × Int))) : Nat := S.countP (inB xs)

theorem cntB_snoc (xs : List Int) (S : List (List (Int × Int))) (k : Nat) (h : k < S.length) : cntB xs (S.take (k + 1)) = cntB xs (S.take k) + if inB xs S[k] then 1 else 0 := by
  unfold cntB
  rw [List.take_succ_eq_append_getElem h, List.countP_append]
  simp [List.countP_cons]

set_option maxRecDepth 100000 in
set_option maxHeartbeats 4000000 in
theorem count_some (v : Value) (xs : List Int) (S : List (List (Int × Int))) (us : List Value) (g c base : Nat) (w : World) (hx : IntsAt w v xs) (hl : us.length = S.length)
    (hr : w.ownsRow base 37 1 (.slice (some ⟨g, 0, none⟩) S.length c) S.length us)
    (hs : ∀ (i : Nat) (s : List (Int × Int)), S[i]? = some s → ∃ g cap, us[i]? = some (.slice (some ⟨g, 0, none⟩) s.length cap) ∧ w.ownsRow base 40 2 (.slice (some ⟨g, 0, none⟩) s.length cap) s.length (pcells s))
    (hn : ∀ s ∈ S, s.length ≠ 0 ∧ s.length ≤ 4) (hm : S.length ≤ 1000000) :
    Calls Try.prog 16 #[v, .slice (some ⟨g, 0, none⟩) S.length c] w (GivesNum (cntB xs S) w) := by
  obtain ⟨_, _, _, hg⟩ := row_base hr
  obtain ⟨n, hn'⟩ : ∃ n, n = S.length := ⟨_, rfl⟩
  have HX := Lib.hid hx
  have HR := Lib.hid hr
  have HS := Lib.hid hs
  have HN := Lib.hid hn
  have HL := Lib.hid hl
  rw [← hn'] at hm ⊢
  obtain ⟨N, hN⟩ : ∃ N, N = cntB xs S := ⟨_, rfl⟩
  rw [← hN]
  have HC := Lib.hid hN
  have HM := Lib.hid hn'
  clear hx hr hs hn hl hN hn'
  go_enter Try.func16, Try.ntmps16
  go_wp2
  go_loopw [5, 6] (fun m i wr => ∃ k : Nat, i = .int .i64 k ∧ k ≤ n ∧ ∃ q : Nat, m = .int .i64 q ∧ q ≤ k ∧ Hid (q = cntB xs (S.take k)) ∧ Below w.heap.size w wr) (fun _ i _ => n - (intOf i).toNat)
  case atStart => exact ⟨0, rfl, by omega, 0, rfl, by omega, Lib.hid rfl, Below.refl _ _⟩
  case round =>
    obtain ⟨k, rfl, hk, q, rfl, hq, HQ, hbel⟩ := hrel
    by_cases ht : k < n
    · have k2 : k < S.length := by rw [← HM.out]; exact ht
      obtain ⟨g2, c2, hu1, hu2⟩ := HS.out k S[k] (List.getElem?_eq_getElem k2)
      have e0 := (hbel.cell (p := ⟨g, k, none⟩) hg).trans (row_cell HR.out hu1)
      have hin := in_any v xs S[k] g2 c2 base wr (HX.out.below hbel) (row_below hu2 hbel) (HN.out _ (List.getElem_mem k2)).1 (by have := (HN.out _ (List.getElem_mem k2)).2; omega)
      have hsn := cntB_snoc xs S k k2
      rw [← HQ.out] at hsn
      generalize S[k].length = m at e0 hin
      generalize inB xs S[k] = b at hin hsn
      have HSN := Lib.hid hsn
      have HIN := Lib.hid hin
      clear hsn hin hu1 hu2 k2
      cases b with
      | true =>
        go_wp2_with (go_at_call 18; refine HIN.out.mono ?_; rintro e w' ⟨rfl, hb'⟩)
        go_roundw
        case rel => exact ⟨k + 1, by go_num, by omega, q + 1, by go_num, by omega, Lib.hid (by rw [HSN.out]; rfl), below_then hbel hb'⟩
        case measure => simp [intOf]; omega
      | false =>
        go_wp2_with (go_at_call 18; refine HIN.out.mono ?_; rintro e w' ⟨rfl, hb'⟩)
        go_roundw
        case rel => exact ⟨k + 1, by go_num, by omega, q, rfl, by omega, Lib.hid (by rw [HSN.out]; rfl), below_then hbel hb'⟩
        case measure => simp [intOf]; omega
    · obtain rfl : k = n := by omega
      go_wp2
      go_ret
      exact ⟨by rw [HC.out, ← List.take_of_length_le (l := S) (Nat.le_of_eq HM.out.symm), ← HQ.out]; rfl, hbel⟩

theorem count_none (v : Value) (w : World) : Calls Try.prog 16 #[v, .slice none 0 0] w (GivesNum 0 w) := by
  go_enter Try.func16, Try.ntmps16
  go_wp2
  go_loopw [5, 6] (fun m i wr => i = .int .i64 0 ∧ m = .int .i64 0 ∧ Below w.heap.size w wr) (fun _ _ _ => 0)
  case atStart => exact ⟨rfl, rfl, Below.refl _ _⟩
  case round =>
    obtain ⟨rfl, rfl, hbel⟩ := hrel
    go_wp2
    go_ret
    exact ⟨rfl, hbel⟩

theorem count_any (v : Value) (xs : List Int) (u : Value) (S : List (List (Int × Int))) (base : Nat) (w : World) (hx : IntsAt w v xs) (hS : SeqsAt w base u S) (hn : ∀ s ∈ S, s.length ≠ 0 ∧ s.length ≤ 4) (hm : S.length ≤ 1000000) :
    Calls Try.prog 16 #[v, u] w (GivesNum (cntB xs S) w) := by
  obtain ⟨us, hl, hr, hs⟩ := hS
  rcases row_forms hr with ⟨rfl, h0⟩ | ⟨g, c, rfl⟩
  · obtain rfl := List.length_eq_zero_iff.1 h0
    exact count_none v w
  · exact count_some v xs S us g c base w hx hl hr hs hn hm

set_option maxRecDepth 100000 in
set_option maxHeartbeats 4000000 in
theorem shaped_some (S : List (List (Int × Int))) (us : List Value) (g c base : Nat) (w : World) (hl : us.length = S.length)
    (hr : w.ownsRow base 37 1 (.slice (some ⟨g, 0, none⟩) S.length c) S.length us)
    (hs : ∀ (i : Nat) (s : List (Int × Int)), S[i]? = some s → ∃ g cap, us[i]? = some (.slice (some ⟨g, 0, none⟩) s.length cap) ∧ w.ownsRow base 40 2 (.slice (some ⟨g, 0, none⟩) s.length cap) s.length (pcells s))
    (hn : ∀ s ∈ S, s.length ≠ 0 ∧ s.length ≤ 4) (hr2 : ∀ s ∈ S, ∀ (i : Nat) (h : i < s.length), 0 ≤ (s[i]).1 ∧ (s[i]).1 ≤ (s[i]).2 ∧ (s[i]).2 ≤ 255) (hm : S.length ≤ 25) :
    Calls Try.prog 14 #[.slice (some ⟨g, 0, none⟩) S.length c] w (GivesBool true w) := by
  obtain ⟨_, _, _, hg⟩ := row_base hr
  obtain ⟨n, hn'⟩ : ∃ n, n = S.length := ⟨_, rfl⟩
  have HR := Lib.hid hr
  have HR2 := Lib.hid hr2
  have HS := Lib.hid hs
  have HN := Lib.hid hn
  rw [← hn'] at hm ⊢
  have HM := Lib.hid hn'
  clear hr hs hn hl hn' hr2
  go_enter Try.func14, Try.ntmps14
  go_wp2
  go_loopw [3] (fun i wr => ∃ k : Nat, i = .int .i64 k ∧ k ≤ n ∧ Below w.heap.size w wr) (fun i _ => n - (intOf i).toNat)
  case atStart => exact ⟨0, rfl, by omega, Below.refl _ _⟩
  case round =>
    obtain ⟨k, rfl, hk, hbel⟩ := hrel
    by_cases ht : k < n
    · have k2 : k < S.length := by rw [← HM.out]; exact ht
      obtain ⟨g2, c2, hu1, hu2⟩ := HS.out k S[k] (List.getElem?_eq_getElem k2)
      have e0 := (hbel.cell (p := ⟨g, k, none⟩) hg).trans (row_cell HR.out hu1)
      have E0 := Lib.hid (row_cell HR.out hu1)
      obtain ⟨m0, m4⟩ := HN.out _ (List.getElem_mem k2)
      have HB := Lib.hid (HR2.out _ (List.getElem_mem k2))
      have hg2 := (row_base hu2).2.2.2
      have HU := Lib.hid hu2
      generalize S[k] = s at e0 E0 m0 m4 HB HU
      obtain ⟨m, hm'⟩ : ∃ m, m = s.length := ⟨_, rfl⟩
      rw [← hm'] at e0 E0 m0 m4
      have HMM := Lib.hid hm'
      clear hm' hu1 hu2 k2
      have m1 : 1 ≤ m := by omega
      have q0 : decide (m < 1) = false := by simp; omega
      have q1 : decide (4 < m) = false := by simp; omega
      clear m0
      go_wp2
      obtain ⟨wm, hwm⟩ : ∃ x : World, x = wr := ⟨_, rfl⟩
      subst hwm
      go_loopw [4] (fun i wi => ∃ j : Nat, i = .int .i64 j ∧ j ≤ m ∧ Below w.heap.size w wi) (fun i _ => m - (intOf i).toNat)
      case atStart => exact ⟨0, rfl, by omega, hbel⟩
      case round =>
        obtain ⟨j, rfl, hj, hb2⟩ := hrel
        have e1 := (hb2.cell (p := ⟨g, k, none⟩) hg).trans E0.out
        by_cases hjt : j < m
        · have j2 : j < s.length := by rw [← HMM.out]; exact hjt
          have d0 := (hb2.cell (p := ⟨g2, j * 2, none⟩) hg2).trans (row_cell HU.out (pcells_lo s j j2))
          have d1 := (hb2.cell (p := ⟨g2, j * 2 + 1, none⟩) hg2).trans (row_cell HU.out (pcells_hi s j j2))
          obtain ⟨b0, b1, b2⟩ := HB.out j j2
          generalize (s[j]).1 = lo at d0 b0 b1
          generalize (s[j]).2 = hi at d1 b1 b2
          have r0 : decide (lo < 0) = false := by simp; omega
          have r1 : decide (255 < hi) = false := by simp; omega
          have r2 : decide (hi < lo) = false := by simp; omega
          clear j2
          go_wp2
          go_quiet (fail)
          go_wp2
          go_roundw
          case rel => exact ⟨j + 1, by go_num, by omega, below_drawn hb2 _⟩
          case measure => simp [intOf]; omega
        · obtain rfl : j = m := by omega
          go_wp2
          go_roundw
          case rel => exact ⟨k + 1, by go_num, by omega, hb2⟩
          case measure => simp [intOf]; omega
    · obtain rfl : k = n := by omega
      go_wp2
      go_ret
      exact ⟨rfl, hbel⟩

end Go.Proofs.Ytdcjlncbchhanaa
