/- The document's teller: numbers to the base 16. -/
import Derived.Test.YtfoohffeccgkeaaDoorTRef
namespace Go.Proofs.YtfoohffeccgkeaaDoor
open Go.RowKit
set_option linter.unusedVariables false
set_option linter.unusedSimpArgs false

theorem hex_cut (a : Nat) (h : a < 16) : (⟨#[48, 49, 50, 51, 52, 53, 54, 55, 56, 57, 65, 66, 67, 68, 69, 70]⟩ : ByteArray).extract a (a + 1) = strOf [hexC a] := by
  have key : ∀ i : Fin 16, (⟨#[48, 49, 50, 51, 52, 53, 54, 55, 56, 57, 65, 66, 67, 68, 69, 70]⟩ : ByteArray).extract i.val (i.val + 1) = strOf [hexC i.val] := by decide +kernel
  exact key ⟨a, h⟩

theorem run_cut (S : ByteArray) (a a1 : Nat) (h : a ≤ a1) (h2 : a1 ≤ S.size) (hs : S.size ≤ 1000) (W : World) :
    (Instr.slice 9 (.string S) (some (.int .i64 (a : Int))) (some (.int .i64 (a1 : Int))) none).run Tryd.prog W = .ok (.string (S.extract a a1)) W := by
  have q1 : decide ((a : Int) ≤ (a1 : Int)) = true := decide_eq_true (by omega)
  have q2 : decide ((a1 : Int) ≤ (S.size : Int)) = true := decide_eq_true (by omega)
  have hu := Tryd.underlying9
  have k1 : ¬ ((a1 : Int) < 0) := by omega
  have k2 : ¬ ((a : Int) < 0) := by omega
  simp [Instr.slice, go_sem, h, h2, q1, q2, k1, k2]

/-- As the document has it: two digits at least. -/
def hexD : Nat → Nat → List Int
  | 0, n => [hexC (n / 16 % 16), hexC (n % 16)]
  | f + 1, n => if n < 256 then [hexC (n / 16 % 16), hexC (n % 16)] else if n < 4096 then [hexC (n / 256)] ++ [hexC (n / 16 % 16), hexC (n % 16)] else hexD f (n / 256) ++ [hexC (n / 16 % 16), hexC (n % 16)]

theorem hexD_len : ∀ f n, (hexD f n).length ≤ 2 * f + 3
  | 0, _ => by simp [hexD]
  | f + 1, n => by
    rw [hexD]
    split
    · simp
    · split
      · simp
      · have := hexD_len f (n / 256)
        simp
        omega


set_option maxRecDepth 100000 in
set_option maxHeartbeats 1000000 in
theorem hex4_any : ∀ (f n : Nat) (w : World), n < 256 ^ (f + 1) → f ≤ 5 → Calls Tryd.prog 39 #[.int .i64 n] w fun e w' => e = .returned (.string (strOf (hexD f n))) ∧ Below w.heap.size w w' := by
  intro f
  induction f with
  | zero =>
    intro n w h _
    have hs : n < 256 := by simpa using h
    obtain ⟨u, hu0⟩ : ∃ u : Nat, n / 16 = u := ⟨_, rfl⟩
    obtain ⟨a, ha0⟩ : ∃ a : Nat, u % 16 = a := ⟨_, rfl⟩
    obtain ⟨b, hb0⟩ : ∃ b : Nat, n % 16 = b := ⟨_, rfl⟩
    have hu : (n : Int) / 16 = (u : Int) := by omega
    have ha : (u : Int) % 16 = (a : Int) := by omega
    have hb : (n : Int) % 16 = (b : Int) := by omega
    have hal : a < 16 := by omega
    have hbl : b < 16 := by omega
    obtain ⟨a1, ha1⟩ : ∃ a1 : Nat, a + 1 = a1 := ⟨_, rfl⟩
    obtain ⟨b1, hb1⟩ : ∃ b1 : Nat, b + 1 = b1 := ⟨_, rfl⟩
    have hai : (a : Int) + 1 = (a1 : Int) := by omega
    have hbi : (b : Int) + 1 = (b1 : Int) := by omega
    have hca := hex_cut a hal
    have hcb := hex_cut b hbl
    rw [ha1] at hca
    rw [hb1] at hcb
    have p1 : a ≤ a1 := by omega
    have p2 : a1 ≤ 16 := by omega
    have p3 : b ≤ b1 := by omega
    have p4 : b1 ≤ 16 := by omega
    have q1 : decide ((a : Int) ≤ (a1 : Int)) = true := decide_eq_true (by omega)
    have q2 : decide ((b : Int) ≤ (b1 : Int)) = true := decide_eq_true (by omega)
    have q3 : decide ((a1 : Int) ≤ 16) = true := decide_eq_true (by omega)
    have q4 : decide ((b1 : Int) ≤ 16) = true := decide_eq_true (by omega)
    have s1 : (strOf [hexC a]).size = 1 := rfl
    have s2 : (strOf [hexC b]).size = 1 := rfl
    have t1 : (n : Int).tdiv 16 = (u : Int) := by rw [Int.tdiv_eq_ediv_of_nonneg (by omega)]; exact hu
    have t2 : (u : Int).tmod 16 = (a : Int) := by rw [Int.tmod_eq_emod_of_nonneg (by omega)]; exact ha
    have t3 : (n : Int).tmod 16 = (b : Int) := by rw [Int.tmod_eq_emod_of_nonneg (by omega)]; exact hb
    have t4 : IntKind.i64.wrap ((a : Int) + 1) = (a1 : Int) := by rw [hai]; exact IntWalk.i64_in _ ⟨by omega, by omega⟩
    have t5 : IntKind.i64.wrap ((b : Int) + 1) = (b1 : Int) := by rw [hbi]; exact IntWalk.i64_in _ ⟨by omega, by omega⟩
    have t6 : IntKind.i64.wrap (u : Int) = (u : Int) := IntWalk.i64_in _ ⟨by omega, by omega⟩
    have t7 : IntKind.i64.wrap (a : Int) = (a : Int) := IntWalk.i64_in _ ⟨by omega, by omega⟩
    have t8 : IntKind.i64.wrap (b : Int) = (b : Int) := IntWalk.i64_in _ ⟨by omega, by omega⟩
    have t9 : IntKind.i64.wrap (a1 : Int) = (a1 : Int) := IntWalk.i64_in _ ⟨by omega, by omega⟩
    have t10 : IntKind.i64.wrap (b1 : Int) = (b1 : Int) := IntWalk.i64_in _ ⟨by omega, by omega⟩
    have r1 := fun (W : World) => run_cut ⟨#[48, 49, 50, 51, 52, 53, 54, 55, 56, 57, 65, 66, 67, 68, 69, 70]⟩ a a1 p1 p2 (by decide) W
    have r2 := fun (W : World) => run_cut ⟨#[48, 49, 50, 51, 52, 53, 54, 55, 56, 57, 65, 66, 67, 68, 69, 70]⟩ b b1 p3 p4 (by decide) W
    rw [hca] at r1
    rw [hcb] at r2
    clear hca hcb p1 p2 p3 p4 q1 q2 q3 q4
    have hfin : strOf [hexC a] ++ strOf [hexC b] = strOf (hexD 0 n) := by rw [str_app4]; unfold hexD; rw [hu0, ha0, hb0]; rfl
    have HFIN := Lib.hid hfin
    have q : decide ((n : Int) < 256) = true := decide_eq_true (by omega)
    clear h hu0 ha0 hb0 hfin ha1 hb1
    go_enter Tryd.func39, Tryd.ntmps39
    go_wp2_with fail
    go_quiet (fail)
    go_wp2_with fail
    go_ret
    exact ⟨congrArg (fun u => Ending.returned (Value.string u)) HFIN.out, below_drawn (Below.refl _ _) _⟩
  | succ f ih =>
    intro n w h hf
    have hn18 : (n : Int) ≤ 1000000000000000000 := by
      have h1 : (256 : Nat) ^ (f + 1 + 1) ≤ 256 ^ 7 := Nat.pow_le_pow_right (by omega) (by omega)
      have h2 : (256 : Nat) ^ 7 = 72057594037927936 := by decide
      rw [h2] at h1
      have h3 := Nat.lt_of_lt_of_le h h1
      omega
    obtain ⟨u, hu0⟩ : ∃ u : Nat, n / 16 = u := ⟨_, rfl⟩
    obtain ⟨a, ha0⟩ : ∃ a : Nat, u % 16 = a := ⟨_, rfl⟩
    obtain ⟨b, hb0⟩ : ∃ b : Nat, n % 16 = b := ⟨_, rfl⟩
    have hu : (n : Int) / 16 = (u : Int) := by omega
    have ha : (u : Int) % 16 = (a : Int) := by omega
    have hb : (n : Int) % 16 = (b : Int) := by omega
    have hal : a < 16 := by omega
    have hbl : b < 16 := by omega
    obtain ⟨a1, ha1⟩ : ∃ a1 : Nat, a + 1 = a1 := ⟨_, rfl⟩
    obtain ⟨b1, hb1⟩ : ∃ b1 : Nat, b + 1 = b1 := ⟨_, rfl⟩
    have hai : (a : Int) + 1 = (a1 : Int) := by omega
    have hbi : (b : Int) + 1 = (b1 : Int) := by omega
    have hca := hex_cut a hal
    have hcb := hex_cut b hbl
    rw [ha1] at hca
    rw [hb1] at hcb
    have p1 : a ≤ a1 := by omega
    have p2 : a1 ≤ 16 := by omega
    have p3 : b ≤ b1 := by omega
    have p4 : b1 ≤ 16 := by omega
    have q1 : decide ((a : Int) ≤ (a1 : Int)) = true := decide_eq_true (by omega)
    have q2 : decide ((b : Int) ≤ (b1 : Int)) = true := decide_eq_true (by omega)
    have q3 : decide ((a1 : Int) ≤ 16) = true := decide_eq_true (by omega)
    have q4 : decide ((b1 : Int) ≤ 16) = true := decide_eq_true (by omega)
    have s1 : (strOf [hexC a]).size = 1 := rfl
    have s2 : (strOf [hexC b]).size = 1 := rfl
    have t1 : (n : Int).tdiv 16 = (u : Int) := by rw [Int.tdiv_eq_ediv_of_nonneg (by omega)]; exact hu
    have t2 : (u : Int).tmod 16 = (a : Int) := by rw [Int.tmod_eq_emod_of_nonneg (by omega)]; exact ha
    have t3 : (n : Int).tmod 16 = (b : Int) := by rw [Int.tmod_eq_emod_of_nonneg (by omega)]; exact hb
    have t4 : IntKind.i64.wrap ((a : Int) + 1) = (a1 : Int) := by rw [hai]; exact IntWalk.i64_in _ ⟨by omega, by omega⟩
    have t5 : IntKind.i64.wrap ((b : Int) + 1) = (b1 : Int) := by rw [hbi]; exact IntWalk.i64_in _ ⟨by omega, by omega⟩
    have t6 : IntKind.i64.wrap (u : Int) = (u : Int) := IntWalk.i64_in _ ⟨by omega, by omega⟩
    have t7 : IntKind.i64.wrap (a : Int) = (a : Int) := IntWalk.i64_in _ ⟨by omega, by omega⟩
    have t8 : IntKind.i64.wrap (b : Int) = (b : Int) := IntWalk.i64_in _ ⟨by omega, by omega⟩
    have t9 : IntKind.i64.wrap (a1 : Int) = (a1 : Int) := IntWalk.i64_in _ ⟨by omega, by omega⟩
    have t10 : IntKind.i64.wrap (b1 : Int) = (b1 : Int) := IntWalk.i64_in _ ⟨by omega, by omega⟩
    have r1 := fun (W : World) => run_cut ⟨#[48, 49, 50, 51, 52, 53, 54, 55, 56, 57, 65, 66, 67, 68, 69, 70]⟩ a a1 p1 p2 (by decide) W
    have r2 := fun (W : World) => run_cut ⟨#[48, 49, 50, 51, 52, 53, 54, 55, 56, 57, 65, 66, 67, 68, 69, 70]⟩ b b1 p3 p4 (by decide) W
    rw [hca] at r1
    rw [hcb] at r2
    clear hca hcb p1 p2 p3 p4 q1 q2 q3 q4
    by_cases hs : n < 256
    · have q : decide ((n : Int) < 256) = true := decide_eq_true (by omega)
      have hfin : strOf [hexC a] ++ strOf [hexC b] = strOf (hexD (f + 1) n) := by rw [str_app4]; unfold hexD; rw [if_pos hs, hu0, ha0, hb0]; rfl
      have HFIN := Lib.hid hfin
      clear h hu0 ha0 hb0 hfin ha1 hb1 ih
      go_enter Tryd.func39, Tryd.ntmps39
      go_wp2_with fail
      go_quiet (fail)
      go_wp2_with fail
      go_ret
      exact ⟨congrArg (fun u => Ending.returned (Value.string u)) HFIN.out, below_drawn (Below.refl _ _) _⟩
    · have q : decide ((n : Int) < 256) = false := decide_eq_false (by omega)
      obtain ⟨c, hc0⟩ : ∃ c : Nat, n / 256 = c := ⟨_, rfl⟩
      have hc : (n : Int) / 256 = (c : Int) := by omega
      by_cases hs2 : n < 4096
      · have qq : decide ((n : Int) < 4096) = true := decide_eq_true (by omega)
        have hcl : c < 16 := by omega
        obtain ⟨d1, hd1⟩ : ∃ d1 : Nat, c + 1 = d1 := ⟨_, rfl⟩
        have hdi : (c : Int) + 1 = (d1 : Int) := by omega
        have hcc := hex_cut c hcl
        rw [hd1] at hcc
        have r3 := fun (W : World) => run_cut ⟨#[48, 49, 50, 51, 52, 53, 54, 55, 56, 57, 65, 66, 67, 68, 69, 70]⟩ c d1 (by omega) (by show d1 ≤ 16; omega) (by decide) W
        rw [hcc] at r3
        have s3 : (strOf [hexC c]).size = 1 := rfl
        have hfin : strOf [hexC c] ++ (strOf [hexC a] ++ strOf [hexC b]) = strOf (hexD (f + 1) n) := by rw [str_app4, str_app4]; unfold hexD; rw [if_neg hs, if_pos hs2, hu0, ha0, hb0, hc0]; rfl
        have HFIN := Lib.hid hfin
        clear h hu0 ha0 hb0 hfin ha1 hb1 ih hcc hd1 hc0
        go_enter Tryd.func39, Tryd.ntmps39
        go_wp2_with fail
        go_quiet (fail)
        go_wp2_with fail
        go_ret
        exact ⟨congrArg (fun u => Ending.returned (Value.string u)) HFIN.out, below_drawn (Below.refl _ _) _⟩
      · have qq : decide ((n : Int) < 4096) = false := decide_eq_false (by omega)
        have hdl : c < 256 ^ (f + 1) := by
          have : n < 256 ^ (f + 1) * 256 := by rw [← Nat.pow_succ]; exact h
          omega
        have HC := Lib.hid (fun W => ih c W hdl (by omega))
        have hlen : (hexD f c).length ≤ 100 := by have := hexD_len f c; omega
        have hT : (strOf (hexD f c)).size ≤ 100 := by rw [strOf_size]; exact hlen
        have hfin : strOf (hexD f c) ++ (strOf [hexC a] ++ strOf [hexC b]) = strOf (hexD (f + 1) n) := by rw [str_app4, str_app4]; rw [hexD, if_neg hs, if_neg hs2, hu0, ha0, hb0, hc0]; rfl
        have HFIN := Lib.hid hfin
        obtain ⟨T, hTT⟩ : ∃ T, T = strOf (hexD f c) := ⟨_, rfl⟩
        rw [← hTT] at HC hT HFIN
        clear h hu0 ha0 hb0 hfin ha1 hb1 ih hc0 hTT hlen hdl
        go_enter Tryd.func39, Tryd.ntmps39
        go_wp2_with fail
        go_quiet (fail)
        go_wp2_with fail
        refine (HC.out _).mono ?_
        rintro e w1 ⟨rfl, hb⟩
        have HB : Hid (Below w.heap.size w w1) := (below_drawn (Below.refl w.heap.size w) nq).trans hb
        clear hb
        go_wp2_with fail
        go_ret
        exact ⟨congrArg (fun u => Ending.returned (Value.string u)) HFIN.out, HB.out⟩

end Go.Proofs.YtfoohffeccgkeaaDoor
