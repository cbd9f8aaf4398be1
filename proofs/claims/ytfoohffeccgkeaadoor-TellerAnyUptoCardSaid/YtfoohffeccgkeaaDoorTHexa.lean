/- The program's teller: numbers to the base 16; how often. -/
import Derived.Test.YtfoohffeccgkeaaDoorTFmt
import Derived.Test.YtfoohffeccgkeaaDoorTShelf
import Derived.Test.YtfoohffeccgkeaaDoorTLen
import Derived.Lib.SmallJoins
import Derived.Lib.AppendIntMem
namespace Go.Proofs.YtfoohffeccgkeaaDoor
open Go.RowKit
set_option linter.unusedVariables false
set_option linter.unusedSimpArgs false

/-- The call returns this text; what was there is as it was. -/
def GivesS (x : List Int) (w : World) (e : Ending) (w' : World) : Prop := e = .returned (.string (strOf x)) ∧ Below w.heap.size w w'

theorem up_lex {a : Nat} (h : a < 16) : Lib.upperB (byt (lexC a)) = byt (hexC a) := by
  have key : ∀ i : Fin 16, Lib.upperB (byt (lexC i.val)) = byt (hexC i.val) := by decide +kernel
  exact key ⟨a, h⟩
theorem up_lexF : ∀ (f n : Nat), (lexF f n).map (fun c => Lib.upperB (byt c)) = (hexF f n).map byt
  | 0, _ => rfl
  | f + 1, n => by
    unfold lexF hexF
    rw [List.map_append, List.map_append]
    congr 1
    · split
      · rfl
      · exact up_lexF f _
    · simp [up_lex (a := n % 16) (by omega)]
theorem lexF_len (f n : Nat) : (lexF f n).length = (hexF f n).length := by
  have := congrArg List.length (up_lexF f n)
  simpa using this

theorem lexF_small : ∀ (f n : Nat) (c : Int), c ∈ lexF f n → 48 ≤ c ∧ c ≤ 102
  | 0, _, _, h => by simp [lexF] at h
  | f + 1, n, c, h => by
    unfold lexF at h
    rw [List.mem_append] at h
    rcases h with h | h
    · split at h
      · simp at h
      · exact lexF_small f _ c h
    · have := lexC_range (n := n % 16) (by omega)
      simp at h
      omega
theorem upper_lex (f n : Nat) : (⟨(Lib.toUpperA (strOf (lexF f n)).data.toList).toArray⟩ : ByteArray) = strOf (hexF f n) := by
  rw [strOf_data]
  unfold Lib.toUpperA strOf
  rw [List.map_map]
  congr 2
  exact up_lexF f n

set_option maxRecDepth 100000 in
theorem hexa_any (n : Int) (h0 : 0 ≤ n) (hn : n ≤ 1114111) {w : World} (hB : Bruijn w) : Calls Tryd.prog 48 #[.int .i64 n] w (GivesS (hexT n.toNat) w) := by
  obtain ⟨m, rfl⟩ : ∃ m : Nat, n = m := ⟨n.toNat, by omega⟩
  have hm : m ≤ 1114111 := by omega
  rw [Int.toNat_natCast]
  have HF := Lib.hid (fmt16_any m hm hB)
  have hlen := lexF_len 6 m
  have hl6 := hexF_len 6 m
  have HU : Hid (∀ W, Calls Tryd.prog 61 #[.string (strOf (lexF 6 m))] W (GivesS (hexF 6 m) W)) := fun W => by
    have := Tryd.strings_ToUpper_ascii (strOf (lexF 6 m)) W (by rw [strOf_size]; omega) (fun j b hj => by
      rw [strOf_data, List.getElem?_map] at hj
      cases hc : (lexF 6 m)[j]? with
      | none => rw [hc] at hj; cases hj
      | some c =>
        rw [hc] at hj
        have := lexF_small 6 m c (List.mem_of_getElem? hc)
        cases hj
        unfold byt
        simp
        omega)
    rw [upper_lex] at this
    exact this
  obtain ⟨S, hS⟩ : ∃ S, S = strOf (lexF 6 m) := ⟨_, rfl⟩
  obtain ⟨T, hT⟩ : ∃ T, T = strOf (hexF 6 m) := ⟨_, rfl⟩
  have hTs : T.size = (hexF 6 m).length := by rw [hT, strOf_size]
  have HU2 : Hid (∀ W, Calls Tryd.prog 61 #[.string S] W (fun e w' => e = .returned (.string T) ∧ Below W.heap.size W w')) := by rw [hS, hT]; exact HU
  have HF2 : Hid (Calls Tryd.prog 62 #[.int .i64 (m : Int), .int .i64 16] w (fun e w' => e = .returned (.string S) ∧ Below w.heap.size w w')) := by rw [hS]; exact HF
  by_cases g : m < 16
  · have e : hexF 6 m = [hexC m] := by rw [hexF, if_pos g, Nat.mod_eq_of_lt g]; rfl
    have ht1 : T.size = 1 := by rw [hTs, e]; rfl
    have HFIN := Lib.hid (show (⟨#[48]⟩ : ByteArray) ++ T = strOf (hexT m) by
      unfold hexT
      rw [if_pos g, hT, e, show (⟨#[48]⟩ : ByteArray) = strOf [48] from rfl, str_app4]
      rfl)
    clear HU HF hlen hl6 hS hT hTs e hB
    go_enter Tryd.func48, Tryd.ntmps48
    go_wp2_with fail
    refine HF2.out.mono ?_
    rintro e w1 ⟨rfl, hb⟩
    have HB1 := Lib.hid hb
    clear hb
    go_wp2_with fail
    refine (HU2.out _).mono ?_
    rintro e w2 ⟨rfl, hb⟩
    have HB2 := Lib.hid (below_then HB1.out hb)
    clear hb
    go_wp2_with fail
    go_ret
    exact ⟨congrArg (fun u => Ending.returned (Value.string u)) HFIN.out, HB2.out⟩
  · have ht2 : 2 ≤ T.size := by
      rw [hTs, hexF, if_neg g]
      have : 0 < (hexF 5 (m / 16)).length := by
        rw [show hexF 5 (m / 16) = (if m / 16 < 16 then [] else hexF 4 (m / 16 / 16)) ++ [hexC (m / 16 % 16)] from rfl]
        simp
      rw [List.length_append]
      show 2 ≤ _ + 1
      omega
    have ht3 : T.size ≤ 6 := by omega
    have HFIN := Lib.hid (show T = strOf (hexT m) by unfold hexT; rw [if_neg g, hT])
    have q : decide ((T.size : Int) < 2) = false := decide_eq_false (by omega)
    clear HU HF hlen hl6 hS hT hTs hB
    go_enter Tryd.func48, Tryd.ntmps48
    go_wp2_with fail
    refine HF2.out.mono ?_
    rintro e w1 ⟨rfl, hb⟩
    have HB1 := Lib.hid hb
    clear hb
    go_wp2_with fail
    refine (HU2.out _).mono ?_
    rintro e w2 ⟨rfl, hb⟩
    have HB2 := Lib.hid (below_then HB1.out hb)
    clear hb
    go_wp2_with fail
    go_ret
    exact ⟨congrArg (fun u => Ending.returned (Value.string u)) HFIN.out, HB2.out⟩

/-- The library's tables as they are laid. -/
def Tabs (W : World) : Prop := Bruijn W ∧ Lib.TabIs Tryd.prog W "internal/strconv.uint64pow10" .u64 Lib.pow10Tab
theorem Tabs.below {W W' : World} (h : Tabs W) (hb : Below W.heap.size W W') : Tabs W' := ⟨h.1.below hb, Go.Joins.tab_stays (g := 2) (by kernel_rfl) h.2 hb (Nat.le_refl _)⟩

theorem itoa_dec {n : Int} (h0 : 0 ≤ n) (hn : n ≤ 200) : (⟨(Lib.itoa n).toArray⟩ : ByteArray) = strOf (decT n.toNat) := by
  have key : ∀ i : Fin 201, Lib.itoa ((i.val : Nat) : Int) = (decT i.val).map byt := by decide +kernel
  have := key ⟨n.toNat, by omega⟩
  unfold strOf
  rw [← this]
  congr 3
  simp
  omega
theorem itoa_any (n : Int) (h0 : 0 ≤ n) (hn : n ≤ 200) {w : World} (hT : Tabs w) : Calls Tryd.prog 69 #[.int .i64 n] w (GivesS (decT n.toNat) w) := by
  refine (Tryd.strconv_Itoa n (by omega) (by omega) w hT.2).mono ?_
  rintro e w' ⟨rfl, k, os, rfl⟩
  exact ⟨by rw [itoa_dec h0 hn], Lib.below_grow _ _ (Nat.le_refl _) _ _⟩

theorem cnt_split {lo hi : Int} (h : cntB lo hi = true) : 0 ≤ lo ∧ lo ≤ 200 ∧ (hi = -1 ∨ (lo ≤ hi ∧ hi ≤ 200)) := by
  unfold cntB at h
  simp at h
  omega

set_option maxRecDepth 100000 in
set_option maxHeartbeats 1000000 in
theorem count_any {lo hi : Int} (h : cntB lo hi = true) {w : World} (hT : Tabs w) : Calls Tryd.prog 60 #[.int .i64 lo, .int .i64 hi] w (GivesS (cntT lo hi) w) := by
  obtain ⟨h0, h1, h2⟩ := cnt_split h
  have HT := Lib.hid hT
  have dlo := fun (g : 0 < lo) => decT_len (n := lo) (by omega) h1
  clear h hT
  by_cases g0 : hi = 0
  · subst g0
    have e : cntT lo 0 = [48] := rfl
    rw [e]
    clear e dlo
    go_enter Tryd.func60, Tryd.ntmps60
    go_wp2_with fail
    go_ret
    exact ⟨rfl, Below.refl _ _⟩
  · have q0 : (hi == 0) = false := by simp; omega
    by_cases g1 : hi = lo
    · subst g1
      have gp : 0 < hi := by omega
      have q1 : decide (0 < hi) = true := decide_eq_true gp
      have e : cntT hi hi = decT hi.toNat := by unfold cntT; rw [if_neg g0, if_pos gp, if_pos rfl, List.append_nil]
      rw [e]
      have HI := Lib.hid (itoa_any hi (by omega) h1 HT.out)
      clear e dlo g0
      go_enter Tryd.func60, Tryd.ntmps60
      go_wp2_with fail
      refine HI.out.mono ?_
      rintro e w1 ⟨rfl, hb⟩
      have HB := Lib.hid hb
      clear hb
      go_wp2_with fail
      go_ret
      exact ⟨rfl, HB.out⟩
    · have q1 : (hi == lo) = false := by simp; omega
      have HE := Lib.hid (show cntT lo hi = (if 0 < lo then decT lo.toNat else []) ++ ([42] ++ (if 0 ≤ hi then decT hi.toNat else [])) by unfold cntT; rw [if_neg g0, if_neg g1])
      have e42 : (⟨#[42]⟩ : ByteArray) = strOf [42] := rfl
      have s42 : (strOf [42]).size = 1 := rfl
      by_cases gl : 0 < lo
      · have ql : decide (0 < lo) = true := decide_eq_true gl
        have HI := Lib.hid (itoa_any lo (by omega) h1 HT.out)
        obtain ⟨A, hA⟩ : ∃ A, A = strOf (decT lo.toNat) := ⟨_, rfl⟩
        have hAs : A.size ≤ 3 := by rw [hA, strOf_size]; exact dlo gl
        have HI2 : Hid (Calls Tryd.prog 69 #[.int .i64 lo] w (fun e w' => e = .returned (.string A) ∧ Below w.heap.size w w')) := by rw [hA]; exact HI
        by_cases gh : 0 ≤ hi
        · have qh : decide (0 ≤ hi) = true := decide_eq_true gh
          have gh2 : hi ≤ 200 := by omega
          have dhi := decT_len (n := hi) gh gh2
          obtain ⟨B, hB⟩ : ∃ B, B = strOf (decT hi.toNat) := ⟨_, rfl⟩
          have hBs : B.size ≤ 3 := by rw [hB, strOf_size]; exact dhi
          have HJ : Hid (∀ W, Tabs W → Calls Tryd.prog 69 #[.int .i64 hi] W (fun e w' => e = .returned (.string B) ∧ Below W.heap.size W w')) := fun W hW => by rw [hB]; exact itoa_any hi gh gh2 hW
          have HFIN := Lib.hid (show (A ++ (⟨#[42]⟩ : ByteArray)) ++ B = strOf (cntT lo hi) by
            rw [HE.out, if_pos gl, if_pos gh, hA, hB, e42, str_app4, str_app4, List.append_assoc])
          clear HI hA hB dhi dlo g0 g1 e42
          go_enter Tryd.func60, Tryd.ntmps60
          go_wp2_with fail
          refine HI2.out.mono ?_
          rintro e w1 ⟨rfl, hb⟩
          have HB := Lib.hid hb
          clear hb
          go_wp2_with fail
          refine (HJ.out _ (HT.out.below HB.out)).mono ?_
          rintro e w2 ⟨rfl, hb⟩
          have HB2 := Lib.hid (below_then HB.out hb)
          clear hb
          go_wp2_with fail
          go_ret
          exact ⟨congrArg (fun u => Ending.returned (Value.string u)) HFIN.out, HB2.out⟩
        · have qh : decide (0 ≤ hi) = false := decide_eq_false gh
          have HFIN := Lib.hid (show A ++ (⟨#[42]⟩ : ByteArray) = strOf (cntT lo hi) by
            rw [HE.out, if_pos gl, if_neg gh, hA, e42, str_app4, List.append_nil])
          clear HI hA dlo g0 g1 e42
          go_enter Tryd.func60, Tryd.ntmps60
          go_wp2_with fail
          refine HI2.out.mono ?_
          rintro e w1 ⟨rfl, hb⟩
          have HB := Lib.hid hb
          clear hb
          go_wp2_with fail
          go_ret
          exact ⟨congrArg (fun u => Ending.returned (Value.string u)) HFIN.out, HB.out⟩
      · have ql : decide (0 < lo) = false := decide_eq_false gl
        by_cases gh : 0 ≤ hi
        · have qh : decide (0 ≤ hi) = true := decide_eq_true gh
          have gh2 : hi ≤ 200 := by omega
          have dhi := decT_len (n := hi) gh gh2
          obtain ⟨B, hB⟩ : ∃ B, B = strOf (decT hi.toNat) := ⟨_, rfl⟩
          have hBs : B.size ≤ 3 := by rw [hB, strOf_size]; exact dhi
          have HJ : Hid (∀ W, Tabs W → Calls Tryd.prog 69 #[.int .i64 hi] W (fun e w' => e = .returned (.string B) ∧ Below W.heap.size W w')) := fun W hW => by rw [hB]; exact itoa_any hi gh gh2 hW
          have HFIN := Lib.hid (show (⟨#[42]⟩ : ByteArray) ++ B = strOf (cntT lo hi) by
            rw [HE.out, if_neg gl, if_pos gh, hB, e42, str_app4, List.nil_append])
          clear hB dhi dlo g0 g1 e42
          go_enter Tryd.func60, Tryd.ntmps60
          go_wp2_with fail
          refine (HJ.out _ HT.out).mono ?_
          rintro e w2 ⟨rfl, hb⟩
          have HB2 := Lib.hid hb
          clear hb
          go_wp2_with fail
          go_ret
          exact ⟨congrArg (fun u => Ending.returned (Value.string u)) HFIN.out, HB2.out⟩
        · have qh : decide (0 ≤ hi) = false := decide_eq_false gh
          have HFIN := Lib.hid (show (⟨#[42]⟩ : ByteArray) = strOf (cntT lo hi) by
            rw [HE.out, if_neg gl, if_neg gh, e42]; rfl)
          clear dlo g0 g1 e42
          go_enter Tryd.func60, Tryd.ntmps60
          go_wp2_with fail
          go_ret
          exact ⟨congrArg (fun u => Ending.returned (Value.string u)) HFIN.out, Below.refl _ _⟩

end Go.Proofs.YtfoohffeccgkeaaDoor
