/- The document's teller: lists of numbers, digits of both bases. -/
import Derived.Test.YtfoohffeccgkeaaDoorTName
namespace Go.Proofs.YtfoohffeccgkeaaDoor
open Go.RowKit
set_option linter.unusedVariables false
set_option linter.unusedSimpArgs false

set_option maxRecDepth 100000 in
set_option maxHeartbeats 1000000 in
theorem nums4_any {x : List Int} {v : Value} (w : World) (lo hi : Nat) (hlo : lo ≤ 20000) (hhi : hi ≤ 20000) (hv : RowAny w v x.length (icells x)) :
    Calls Tryd.prog 26 #[v, .int .i64 lo, .int .i64 hi] w (SaysB (x.all numB && (decide (lo ≤ x.length) && decide (x.length ≤ hi))) w) := by
  obtain ⟨n, hn⟩ : ∃ n, n = x.length := ⟨_, rfl⟩
  rw [← hn] at hv ⊢
  have HN := Lib.hid hn
  rcases hv with ⟨h0, a, cap, rfl⟩ | ⟨g, off, cap, rfl, h1, h2, h3, h4⟩
  · have hx0 : x = [] := List.length_eq_zero_iff.1 (by omega)
    subst hx0
    subst h0
    clear hn
    by_cases a1 : lo ≤ 0
    · have q1 : decide (lo ≤ 0) = true := decide_eq_true a1
      have q2 : decide (0 ≤ hi) = true := decide_eq_true (by omega)
      have q3 : decide ((0 : Int) ≤ (hi : Int)) = true := decide_eq_true (by omega)
      have q4 : decide ((lo : Int) ≤ 0) = true := decide_eq_true (by omega)
      rw [q1, q2]
      clear q1 q2
      go_enter Tryd.func26, Tryd.ntmps26
      go_wp2_with fail
      go_loop [7] (fun v => v = .int .i64 0) (fun v => 0)
      case atStart => rfl
      case round =>
        subst hrel
        go_wp2_with fail
        go_ret
        exact ⟨rfl, rfl⟩
    · have q1 : decide (lo ≤ 0) = false := decide_eq_false a1
      have q4 : decide ((lo : Int) ≤ 0) = false := decide_eq_false (by omega)
      rw [q1]
      clear q1
      go_enter Tryd.func26, Tryd.ntmps26
      go_wp2_with fail
      go_loop [7] (fun v => v = .int .i64 0) (fun v => 0)
      case atStart => rfl
      case round =>
        subst hrel
        go_wp2_with fail
        go_ret
        exact ⟨rfl, rfl⟩
  · have H4 := Lib.hid h4
    unfold maxLen at h2
    clear hn h4
    go_enter Tryd.func26, Tryd.ntmps26
    go_wp2_with fail
    go_loop [7] (fun v => ∃ i : Nat, v = .int .i64 i ∧ i ≤ n ∧ ∀ (j : Nat) (c : Int), j < i → x[j]? = some c → numB c = true) (fun v => n - (intOf v).toNat)
    case atStart => exact ⟨0, rfl, by omega, fun j c h => by omega⟩
    case round =>
      obtain ⟨i, rfl, hi', hall⟩ := hrel
      have HALL := Lib.hid hall
      clear hall
      by_cases hlt : i < n
      · obtain ⟨Z, hZ⟩ : ∃ z, x[i]? = some z := ⟨_, List.getElem?_eq_getElem (by rw [← HN.out]; exact hlt)⟩
        have HXI := Lib.hid hZ
        have c0 := H4.out i _ (icells_at4 hZ)
        clear hZ
        cases hf : numB Z
        · have HNOT := Lib.hid (all_not HXI.out hf)
          have hf2 : Z < 0 ∨ 1114111 < Z := by unfold numB at hf; simp at hf; omega
          clear hf
          by_cases b : Z < 0
          · go_wp2_with fail
            go_ret
            exact ⟨by rw [HNOT.out]; exact rfl, rfl⟩
          · have b2 : 1114111 < Z := by omega
            go_wp2_with fail
            go_ret
            exact ⟨by rw [HNOT.out]; exact rfl, rfl⟩
        · have HNX : Hid (∀ (j : Nat) (c : Int), j < i + 1 → x[j]? = some c → numB c = true) := fun j c hj hc => by
            by_cases g : j = i
            · subst g
              rw [HXI.out] at hc
              rw [← Option.some.inj hc]
              exact hf
            · exact HALL.out j c (by omega) hc
          obtain ⟨f1, f2⟩ : 0 ≤ Z ∧ Z ≤ 1114111 := by unfold numB at hf; simpa using hf
          clear hf
          go_wp2_with fail
          go_round
          case rel => exact ⟨i + 1, by go_num, by omega, HNX.out⟩
          case measure => simp [intOf]; omega
      · have hyes : x.all numB = true := all_upto (n := n) (by rw [HN.out]; exact Nat.le_refl _) (fun j c h hc => HALL.out j c (by omega) hc)
        have HYES := Lib.hid hyes
        clear hyes
        by_cases a1 : lo ≤ n
        · have q4 : decide ((lo : Int) ≤ (n : Int)) = true := decide_eq_true (by omega)
          by_cases a2 : n ≤ hi
          · have q3 : decide ((n : Int) ≤ (hi : Int)) = true := decide_eq_true (by omega)
            go_wp2_with fail
            go_ret
            exact ⟨by first | (rw [HYES.out]; exact rfl) | exact rfl, rfl⟩
          · have q3 : decide ((n : Int) ≤ (hi : Int)) = false := decide_eq_false (by omega)
            go_wp2_with fail
            go_ret
            exact ⟨by first | (rw [HYES.out]; exact rfl) | exact rfl, rfl⟩
        · have q4 : decide ((lo : Int) ≤ (n : Int)) = false := decide_eq_false (by omega)
          go_wp2_with fail
          go_ret
          exact ⟨by first | (rw [HYES.out]; exact rfl) | exact rfl, rfl⟩

theorem conv_byte (W : World) (c : Int) (h0 : 0 ≤ c) (h1 : c ≤ 255) :
    (convert 45 9 (.slice (some ⟨W.heap.size, 0, none⟩) 1 1)).run Tryd.prog (W.alloc (.cells #[.int .u8 c] 5)) = .ok (.string (strOf [c])) (W.alloc (.cells #[.int .u8 c] 5)) := by
  have h := run_convert_bytes_back (P := Tryd.prog) (W.alloc (.cells #[.int .u8 c] 5)) 45 9 5 ⟨W.heap.size, 0, none⟩ 1 [byt c] Tryd.underlying45 Tryd.underlying5 Tryd.underlying9 (fun j hj => by
    have hj0 : j = 0 := by simp at hj; exact hj
    subst hj0
    have e : ((byt c).toNat : Int) = c := by unfold byt; simp; omega
    show World.cell? _ ⟨W.heap.size, 0, none⟩ = some (.int .u8 ((byt c).toNat : Int))
    rw [e]
    unfold World.cell?
    show (match (W.alloc _).heap[W.heap.size]? with | some (.cells c elem frozen) => c[0]? | x => none) = _
    rw [heap_alloc_new]
    rfl)
  exact h
theorem str_app4 (x y : List Int) : strOf x ++ strOf y = strOf (x ++ y) := by
  apply ByteArray.ext
  unfold strOf
  simp
theorem wrap_u8_small {n : Int} (h0 : 0 ≤ n) (h1 : n ≤ 255) : IntKind.u8.wrap n = n := by rw [IntKind.wrap_u8]; omega

theorem decF_len : ∀ f n, (decF f n).length ≤ f
  | 0, _ => by simp [decF]
  | f + 1, n => by
    unfold decF
    split
    · simp
    · have := decF_len f (n / 10)
      simp
      omega
theorem decF_last {f n : Nat} (h : n < 10) : decF (f + 1) n = [48 + (n : Int)] := by
  unfold decF
  rw [if_pos h, Nat.mod_eq_of_lt h]
  rfl
theorem decF_more {f n : Nat} (h : ¬ n < 10) : decF (f + 1) n = decF f (n / 10) ++ [48 + ((n % 10 : Nat) : Int)] := by
  rw [decF, if_neg h]

set_option maxRecDepth 100000 in
/-- A number in digits. -/
theorem digits4_any : ∀ (f n : Nat) (w : World), n < 10 ^ (f + 1) → f ≤ 17 → Calls Tryd.prog 38 #[.int .i64 n] w fun e w' => e = .returned (.string (strOf (decF (f + 1) n))) ∧ Below w.heap.size w w' := by
  intro f
  induction f with
  | zero =>
    intro n w h _
    have hs : n < 10 := by simpa using h
    have hm : (n : Int) % 10 = (n : Int) := by omega
    have kc := fun (W : World) => conv_byte W (48 + (n : Int)) (by omega) (by omega)
    have hw : IntKind.u8.wrap (48 + (n : Int)) = 48 + (n : Int) := wrap_u8_small (by omega) (by omega)
    have q : decide ((n : Int) < 10) = true := decide_eq_true (by omega)
    rw [decF_last hs]
    clear h hm
    have hm : (n : Int) % 10 = (n : Int) := by omega
    go_enter Tryd.func38, Tryd.ntmps38
    go_wp2_with fail
    go_ret
    exact ⟨rfl, (Below.refl _ _).alloc (Nat.le_refl _) _⟩
  | succ f ih =>
    intro n w h hf
    by_cases hs : n < 10
    · have hm : (n : Int) % 10 = (n : Int) := by omega
      have kc := fun (W : World) => conv_byte W (48 + (n : Int)) (by omega) (by omega)
      have hw : IntKind.u8.wrap (48 + (n : Int)) = 48 + (n : Int) := wrap_u8_small (by omega) (by omega)
      have q : decide ((n : Int) < 10) = true := decide_eq_true (by omega)
      rw [decF_last hs]
      clear h ih
      go_enter Tryd.func38, Tryd.ntmps38
      go_wp2_with fail
      go_ret
      exact ⟨rfl, (Below.refl _ _).alloc (Nat.le_refl _) _⟩
    · obtain ⟨m, hm0⟩ : ∃ m : Nat, n % 10 = m := ⟨_, rfl⟩
      obtain ⟨d, hd0⟩ : ∃ d : Nat, n / 10 = d := ⟨_, rfl⟩
      have hm : (n : Int) % 10 = (m : Int) := by omega
      have hd : (n : Int) / 10 = (d : Int) := by omega
      have hmb : m < 10 := by omega
      have kc := fun (W : World) => conv_byte W (48 + (m : Int)) (by omega) (by omega)
      have hw : IntKind.u8.wrap (48 + (m : Int)) = 48 + (m : Int) := wrap_u8_small (by omega) (by omega)
      have q : decide ((n : Int) < 10) = false := decide_eq_false (by omega)
      have hdl : d < 10 ^ (f + 1) := by
        have : n < 10 ^ (f + 1) * 10 := by rw [← Nat.pow_succ]; exact h
        omega
      have HC := Lib.hid (fun W => ih d W hdl (by omega))
      have hlen := decF_len (f + 1) d
      have hT : (strOf (decF (f + 1) d)).size ≤ 20 := by rw [strOf_size]; omega
      have hT3 : (strOf [48 + (m : Int)]).size = 1 := rfl
      have hfin : strOf (decF (f + 1) d) ++ strOf [48 + (m : Int)] = strOf (decF (f + 2) n) := by rw [str_app4, decF_more hs, hm0, hd0]
      have HFIN := Lib.hid hfin
      obtain ⟨T, hTT⟩ : ∃ T, T = strOf (decF (f + 1) d) := ⟨_, rfl⟩
      rw [← hTT] at HC hT HFIN
      have hn18 : (n : Int) ≤ 1000000000000000000 := by
        have h1 : (10 : Nat) ^ (f + 1 + 1) ≤ 10 ^ 18 := Nat.pow_le_pow_right (by omega) (by omega)
        have h2 : (10 : Nat) ^ 18 = 1000000000000000000 := by decide
        rw [h2] at h1
        have h3 := Nat.lt_of_lt_of_le h h1
        omega
      clear h ih hfin hTT hm0 hd0 hdl hlen
      go_enter Tryd.func38, Tryd.ntmps38
      go_wp2_with fail
      refine (HC.out _).mono ?_
      rintro e w1 ⟨rfl, hb⟩
      have HB : Hid (Below w.heap.size w w1) := ((Below.refl w.heap.size w).alloc (Nat.le_refl _) (.cells #[.int .u8 (48 + (m : Int))] 5)).trans (hb.mono (by simp))
      clear hb
      go_wp2_with fail
      go_ret
      exact ⟨congrArg (fun u => Ending.returned (Value.string u)) HFIN.out, HB.out⟩

end Go.Proofs.YtfoohffeccgkeaaDoor
