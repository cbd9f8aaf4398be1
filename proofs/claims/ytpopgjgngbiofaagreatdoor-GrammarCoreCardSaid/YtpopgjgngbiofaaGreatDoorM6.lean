/- What the laws of the grammar rest on, part 6: made by tools/merge5.py out of TLen THexa TJoin TText. No condition but those that each says. -/
import Derived.Test.YtpopgjgngbiofaaGreatDoorM5
import Derived.Lib.SmallJoins
import Derived.Lib.AppendIntMem
import Derived.Laws.MakeOwn
import Derived.Deep.RegionWith
set_option linter.unusedVariables false
set_option linter.unusedSimpArgs false
set_option maxRecDepth 100000
set_option maxHeartbeats 8000000
namespace Go.Proofs.YtpopgjgngbiofaaGreatDoor
def Tree.tw : Tree -> Nat
 | .mk _ x ns _ _ kids => 1 + x.length + ns.length + (kids.map Tree.tw).sum
theorem decT_len {n : Int} (h0 : 0 <= n) (h : n <= 200) : (decT n.toNat).length <= 3 := by
 have : decT n.toNat = decF 3 n.toNat := (decF_more2 3 20 n.toNat (by rw [show (10 : Nat) ^ 3 = 1000 by decide]; omega) (by omega) (by omega)).symm
 rw [this]
 exact decF_len 3 _
theorem hexF_len : ∀ f n, (hexF f n).length <= f
 | 0, _ => by simp [hexF]
 | f + 1, n => by
  unfold hexF
  split
  ·simp
  ·have := hexF_len f (n / 16)
   simp
   omega
theorem hexT_len (n : Nat) : (hexT n).length <= 6 := by
 unfold hexT
 split
 ·simp
 ·exact hexF_len 6 n
theorem cntT_len {lo hi : Int} (h : cntB lo hi = true) : (cntT lo hi).length <= 7 := by
 unfold cntB at h
 simp at h
 have d1 : (if 0 < lo then decT lo.toNat else []).length <= 3 := by
  split
  ·exact decT_len (by omega) (by omega)
  ·simp
 have d2 : (if 0 <= hi then decT hi.toNat else []).length <= 3 := by
  split
  ·exact decT_len (by omega) (by omega)
  ·simp
 unfold cntT
 by_cases g0 : hi = 0
 ·rw [if_pos g0]; simp
 rw [if_neg g0]
 by_cases g1 : hi = lo
 ·rw [if_pos g1, List.append_nil]; omega
 rw [if_neg g1, List.length_append, List.length_append]
 show _ + (1 + _) <= _
 omega
theorem brT_len (b : Bool) (x : List Int) : (brT b x).length <= x.length + 2 := by
 unfold brT
 split <;> simp
theorem sep_len (s : List Int) : ∀ (l : List (List Int)), (sepT s l).length <= (l.map fun x => x.length + s.length).sum
 | [] => by simp [sepT]
 | [x] => by simp [sepT]
 | x :: y :: l => by
  have := sep_len s (y :: l)
  simp only [sepT, List.length_append, List.map_cons, List.sum_cons] at this ⊢
  omega
theorem sum_le {α : Type} {f g : α -> Nat} : ∀ (l : List α), (∀ x ∈ l, f x <= g x) -> (l.map f).sum <= (l.map g).sum
 | [], _ => by simp
 | x :: l, h => by
  have h1 := h x (by simp)
  have h2 := sum_le l (fun y hy => h y (by simp [hy]))
  simp
  omega
theorem sum_mul {α : Type} (k : Nat) (f : α -> Nat) : ∀ (l : List α), (l.map fun x => k * f x).sum = k * (l.map f).sum
 | [] => by simp
 | x :: l => by simp [sum_mul k f l, Nat.mul_add]
theorem sum_const {α : Type} (k : Nat) : ∀ (l : List α), (l.map fun _ => k).sum = k * l.length
 | [] => by simp
 | x :: l => by simp [sum_const k l, Nat.mul_add]; omega
theorem flat_le {α : Type} (f : α -> List Int) : ∀ (l : List α), ((l.map f).flatten).length = (l.map fun x => (f x).length).sum
 | [] => rfl
 | x :: l => by simp [flat_le f l]
theorem text_step {f : Tree -> List Int} {t : Tree} (h : ∀ k x ns lo hi kids, t = .mk k x ns lo hi kids -> formB k x ns lo hi kids.length = true /\ ∀ u ∈ kids, (f u).length + 5 <= 20 * u.tw) : (textS f t).length + 5 <= 20 * t.tw := by
 obtain ⟨k, x, ns, lo, hi, kids⟩ := t
 obtain ⟨h1, h2⟩ := h k x ns lo hi kids rfl
 have e : (Tree.mk k x ns lo hi kids).tw = 1 + x.length + ns.length + (kids.map Tree.tw).sum := by rw [Tree.tw]
 have hs : (kids.map fun u => (f u).length + 5).sum <= 20 * (kids.map Tree.tw).sum := by
  rw [<- sum_mul]
  exact sum_le kids h2
 rw [e, textS]
 by_cases k1 : k = 1
 ·rw [if_pos k1]
  have a := sep_len [32, 47, 32] (kids.map fun t => brT (t.kind == 1) (f t))
  rw [List.map_map] at a
  have b : (kids.map ((fun x : List Int => x.length + ([32, 47, 32] : List Int).length) ∘ fun t => brT (t.kind == 1) (f t))).sum <= (kids.map fun u => (f u).length + 5).sum := sum_le kids fun u hu => by
   have := brT_len (u.kind == 1) (f u)
   simp
   omega
  omega
 rw [if_neg k1]
 by_cases k2 : k = 2
 ·rw [if_pos k2]
  have a := sep_len [32] (kids.map fun t => brT (t.kind == 1 || t.kind == 2) (f t))
  rw [List.map_map] at a
  have b : (kids.map ((fun x : List Int => x.length + ([32] : List Int).length) ∘ fun t => brT (t.kind == 1 || t.kind == 2) (f t))).sum <= (kids.map fun u => (f u).length + 5).sum := sum_le kids fun u hu => by
   have := brT_len (u.kind == 1 || u.kind == 2) (f u)
   simp
   omega
  omega
 rw [if_neg k2]
 by_cases k3 : k = 3
 ·rw [if_pos k3]
  unfold formB at h1
  rw [if_neg (by omega), if_pos k3] at h1
  simp only [Bool.and_eq_true, decide_eq_true_eq] at h1
  have hc := cntT_len h1.2
  split
  ·have a := flat_le f kids
   have b : (kids.map fun x => (f x).length).sum <= (kids.map fun u => (f u).length + 5).sum := sum_le kids fun u hu => by omega
   simp only [List.length_append, List.length_cons, List.length_nil]
   omega
  ·have a := flat_le (fun t => brT (t.kind == 1 || t.kind == 2 || t.kind == 3) (f t)) kids
   have b : (kids.map fun x => (brT (x.kind == 1 || x.kind == 2 || x.kind == 3) (f x)).length).sum <= (kids.map fun u => (f u).length + 5).sum := sum_le kids fun u hu => by
    have := brT_len (u.kind == 1 || u.kind == 2 || u.kind == 3) (f u)
    omega
   simp only [List.length_append]
   omega
 rw [if_neg k3]
 by_cases k4 : k = 4
 ·rw [if_pos k4]; omega
 rw [if_neg k4]
 by_cases k5 : k = 5
 ·rw [if_pos k5]
  simp only [List.length_append, List.length_cons, List.length_nil]
  omega
 rw [if_neg k5]
 have key : ∀ s : List Int, s.length = 1 -> (sepT s (ns.map fun n => hexT n.toNat)).length <= 7 * ns.length := fun s hs => by
  have a := sep_len s (ns.map fun n => hexT n.toNat)
  rw [List.map_map] at a
  have b : (ns.map ((fun x : List Int => x.length + s.length) ∘ fun n : Int => hexT n.toNat)).sum <= (ns.map fun _ => 7).sum := sum_le ns fun u hu => by
   have := hexT_len u.toNat
   simp
   omega
  rw [sum_const] at b
  omega
 have := key (if k = 6 then [46] else [45]) (by split <;> rfl)
 simp only [List.length_append, List.length_cons, List.length_nil]
 omega
theorem text_len : ∀ (d : Nat) (t : Tree), rightF d t = true -> (textF d t).length + 5 <= 20 * t.tw
 | 0, .mk k x ns lo hi kids, h => by
  unfold rightF at h
  simp only [Bool.and_eq_true, List.isEmpty_iff] at h
  rw [textF]
  refine text_step fun k' x' ns' lo' hi' kids' e => ?_
  cases e
  exact ⟨h.1, fun u hu => by rw [h.2] at hu; simp at hu⟩
 | d + 1, .mk k x ns lo hi kids, h => by
  unfold rightF at h
  simp only [Bool.and_eq_true, List.all_eq_true] at h
  rw [textF]
  refine text_step fun k' x' ns' lo' hi' kids' e => ?_
  cases e
  exact ⟨h.1, fun u hu => text_len d u (h.2 u hu)⟩
end Go.Proofs.YtpopgjgngbiofaaGreatDoor
namespace Go.Proofs.YtpopgjgngbiofaaGreatDoor
open Go.RowKit
def GivesS (x : List Int) (w : World) (e : Ending) (w' : World) : Prop := e = .returned (.string (strOf x)) /\ Below w.heap.size w w'
theorem up_lex {a : Nat} (h : a < 16) : Lib.upperB (byt (lexC a)) = byt (hexC a) := by
 have key : ∀ i : Fin 16, Lib.upperB (byt (lexC i.val)) = byt (hexC i.val) := by decide +kernel
 exact key ⟨a, h⟩
theorem up_lexF : ∀ (f n : Nat), (lexF f n).map (fun c => Lib.upperB (byt c)) = (hexF f n).map byt
 | 0, _ => rfl
 | f + 1, n => by
  unfold lexF hexF
  rw [List.map_append, List.map_append]
  congr 1
  ·split
   ·rfl
   ·exact up_lexF f _
  ·simp [up_lex (a := n % 16) (by omega)]
theorem lexF_len (f n : Nat) : (lexF f n).length = (hexF f n).length := by
 have := congrArg List.length (up_lexF f n)
 simpa using this
theorem lexF_small : ∀ (f n : Nat) (c : Int), c ∈ lexF f n -> 48 <= c /\ c <= 102
 | 0, _, _, h => by simp [lexF] at h
 | f + 1, n, c, h => by
  unfold lexF at h
  rw [List.mem_append] at h
  rcases h with h | h
  ·split at h
   ·simp at h
   ·exact lexF_small f _ c h
  ·have := lexC_range (n := n % 16) (by omega)
   simp at h
   omega
theorem upper_lex (f n : Nat) : (⟨(Lib.toUpperA (strOf (lexF f n)).data.toList).toArray⟩ : ByteArray) = strOf (hexF f n) := by
 rw [strOf_data]
 unfold Lib.toUpperA strOf
 rw [List.map_map]
 congr 2
 exact up_lexF f n
theorem hexa_any (n : Int) (h0 : 0 <= n) (hn : n <= 1114111) {w : World} (hB : Bruijn w) : Calls Tryz.prog 117 #[.int .i64 n] w (GivesS (hexT n.toNat) w) := by
 obtain ⟨m, rfl⟩ : ∃ m : Nat, n = m := ⟨n.toNat, by omega⟩
 have hm : m <= 1114111 := by omega
 rw [Int.toNat_natCast]
 have HF := hh9 (fmt16_any m hm hB)
 have hlen := lexF_len 6 m
 have hl6 := hexF_len 6 m
 have HU : Hid (∀ W, Calls Tryz.prog 136 #[.string (strOf (lexF 6 m))] W (GivesS (hexF 6 m) W)) := fun W => by
  have := Tryz.strings_ToUpper_ascii (strOf (lexF 6 m)) W (by rw [strOf_size]; omega) (fun j b hj => by
   rw [strOf_data, List.getElem?_map] at hj
   cases hc : (lexF 6 m)[j]? with
   | none => rw [hc] at hj; cases hj
   | some c =>
    rw [hc] at hj
    have := lexF_small 6 m c (List.mem_of_getElem? hc)
    cases hj
    unfold byt
    simp
    omega)
  rw [upper_lex] at this
  exact this
 obtain ⟨S, hS⟩ : ∃ S, S = strOf (lexF 6 m) := ⟨_, rfl⟩
 obtain ⟨T, hT⟩ : ∃ T, T = strOf (hexF 6 m) := ⟨_, rfl⟩
 have hTs : T.size = (hexF 6 m).length := by rw [hT, strOf_size]
 have HU2 : Hid (∀ W, Calls Tryz.prog 136 #[.string S] W (fun e w' => e = .returned (.string T) /\ Below W.heap.size W w')) := by rw [hS, hT]; exact HU
 have HF2 : Hid (Calls Tryz.prog 137 #[.int .i64 (m : Int), .int .i64 16] w (fun e w' => e = .returned (.string S) /\ Below w.heap.size w w')) := by rw [hS]; exact HF
 by_cases g : m < 16
 ·have e : hexF 6 m = [hexC m] := by rw [hexF, if_pos g, Nat.mod_eq_of_lt g]; rfl
  have ht1 : T.size = 1 := by rw [hTs, e]; rfl
  have HFIN := hh9 (show (⟨#[48]⟩ : ByteArray) ++ T = strOf (hexT m) by
   unfold hexT
   rw [if_pos g, hT, e, show (⟨#[48]⟩ : ByteArray) = strOf [48] from rfl, str_app4]
   rfl)
  clear HU HF hlen hl6 hS hT hTs e hB
  go_enter Tryz.func117, Tryz.ntmps117
  go_wp2_with fail
  refine HF2.out.mono ?_
  rintro e w1 ⟨rfl, hb⟩
  have HB1 := hh9 hb
  clear hb
  go_wp2_with fail
  refine (HU2.out _).mono ?_
  rintro e w2 ⟨rfl, hb⟩
  have HB2 := hh9 (below_then HB1.out hb)
  clear hb
  go_wp2_with fail
  go_ret
  exact ⟨congrArg (fun u => Ending.returned (Value.string u)) HFIN.out, HB2.out⟩
 ·have ht2 : 2 <= T.size := by
   rw [hTs, hexF, if_neg g]
   have : 0 < (hexF 5 (m / 16)).length := by
    rw [show hexF 5 (m / 16) = (if m / 16 < 16 then [] else hexF 4 (m / 16 / 16)) ++ [hexC (m / 16 % 16)] from rfl]
    simp
   rw [List.length_append]
   show 2 <= _ + 1
   omega
  have ht3 : T.size <= 6 := by omega
  have HFIN := hh9 (show T = strOf (hexT m) by unfold hexT; rw [if_neg g, hT])
  have q : decide ((T.size : Int) < 2) = false := decide_eq_false (by omega)
  clear HU HF hlen hl6 hS hT hTs hB
  go_enter Tryz.func117, Tryz.ntmps117
  go_wp2_with fail
  refine HF2.out.mono ?_
  rintro e w1 ⟨rfl, hb⟩
  have HB1 := hh9 hb
  clear hb
  go_wp2_with fail
  refine (HU2.out _).mono ?_
  rintro e w2 ⟨rfl, hb⟩
  have HB2 := hh9 (below_then HB1.out hb)
  clear hb
  go_wp2_with fail
  go_ret
  exact ⟨congrArg (fun u => Ending.returned (Value.string u)) HFIN.out, HB2.out⟩
def Tabs (W : World) : Prop := Bruijn W /\ Lib.TabIs Tryz.prog W "internal/strconv.uint64pow10" .u64 Lib.pow10Tab
theorem Tabs.below {W W' : World} (h : Tabs W) (hb : Below W.heap.size W W') : Tabs W' := ⟨h.1.below hb, Go.Joins.tab_stays (g := 2) (by kernel_rfl) h.2 hb (Nat.le_refl _)⟩
theorem itoa_dec {n : Int} (h0 : 0 <= n) (hn : n <= 200) : (⟨(Lib.itoa n).toArray⟩ : ByteArray) = strOf (decT n.toNat) := by
 have key : ∀ i : Fin 201, Lib.itoa ((i.val : Nat) : Int) = (decT i.val).map byt := by decide +kernel
 have := key ⟨n.toNat, by omega⟩
 unfold strOf
 rw [<- this]
 congr 3
 simp
 omega
theorem itoa_any (n : Int) (h0 : 0 <= n) (hn : n <= 200) {w : World} (hT : Tabs w) : Calls Tryz.prog 157 #[.int .i64 n] w (GivesS (decT n.toNat) w) := by
 refine (Tryz.strconv_Itoa n (by omega) (by omega) w hT.2).mono ?_
 rintro e w' ⟨rfl, k, os, rfl⟩
 exact ⟨by rw [itoa_dec h0 hn], Lib.below_grow _ _ (Nat.le_refl _) _ _⟩
theorem cnt_split {lo hi : Int} (h : cntB lo hi = true) : 0 <= lo /\ lo <= 200 /\ (hi = -1 \/ (lo <= hi /\ hi <= 200)) := by
 unfold cntB at h
 simp at h
 omega
theorem count_any {lo hi : Int} (h : cntB lo hi = true) {w : World} (hT : Tabs w) : Calls Tryz.prog 135 #[.int .i64 lo, .int .i64 hi] w (GivesS (cntT lo hi) w) := by
 obtain ⟨h0, h1, h2⟩ := cnt_split h
 have HT := hh9 hT
 have dlo := fun (g : 0 < lo) => decT_len (n := lo) (by omega) h1
 clear h hT
 by_cases g0 : hi = 0
 ·subst g0
  have e : cntT lo 0 = [48] := rfl
  rw [e]
  clear e dlo
  go_enter Tryz.func135, Tryz.ntmps135
  go_wp2_with fail
  go_ret
  exact ⟨rfl, Below.refl _ _⟩
 ·have q0 : (hi == 0) = false := by simp; omega
  by_cases g1 : hi = lo
  ·subst g1
   have gp : 0 < hi := by omega
   have q1 : decide (0 < hi) = true := decide_eq_true gp
   have e : cntT hi hi = decT hi.toNat := by unfold cntT; rw [if_neg g0, if_pos gp, if_pos rfl, List.append_nil]
   rw [e]
   have HI := hh9 (itoa_any hi (by omega) h1 HT.out)
   clear e dlo g0
   go_enter Tryz.func135, Tryz.ntmps135
   go_wp2_with fail
   refine HI.out.mono ?_
   rintro e w1 ⟨rfl, hb⟩
   have HB := hh9 hb
   clear hb
   go_wp2_with fail
   go_ret
   exact ⟨rfl, HB.out⟩
  ·have q1 : (hi == lo) = false := by simp; omega
   have HE := hh9 (show cntT lo hi = (if 0 < lo then decT lo.toNat else []) ++ ([42] ++ (if 0 <= hi then decT hi.toNat else [])) by unfold cntT; rw [if_neg g0, if_neg g1])
   have e42 : (⟨#[42]⟩ : ByteArray) = strOf [42] := rfl
   have s42 : (strOf [42]).size = 1 := rfl
   by_cases gl : 0 < lo
   ·have ql : decide (0 < lo) = true := decide_eq_true gl
    have HI := hh9 (itoa_any lo (by omega) h1 HT.out)
    obtain ⟨A, hA⟩ : ∃ A, A = strOf (decT lo.toNat) := ⟨_, rfl⟩
    have hAs : A.size <= 3 := by rw [hA, strOf_size]; exact dlo gl
    have HI2 : Hid (Calls Tryz.prog 157 #[.int .i64 lo] w (fun e w' => e = .returned (.string A) /\ Below w.heap.size w w')) := by rw [hA]; exact HI
    by_cases gh : 0 <= hi
    ·have qh : decide (0 <= hi) = true := decide_eq_true gh
     have gh2 : hi <= 200 := by omega
     have dhi := decT_len (n := hi) gh gh2
     obtain ⟨B, hB⟩ : ∃ B, B = strOf (decT hi.toNat) := ⟨_, rfl⟩
     have hBs : B.size <= 3 := by rw [hB, strOf_size]; exact dhi
     have HJ : Hid (∀ W, Tabs W -> Calls Tryz.prog 157 #[.int .i64 hi] W (fun e w' => e = .returned (.string B) /\ Below W.heap.size W w')) := fun W hW => by rw [hB]; exact itoa_any hi gh gh2 hW
     have HFIN := hh9 (show (A ++ (⟨#[42]⟩ : ByteArray)) ++ B = strOf (cntT lo hi) by
      rw [HE.out, if_pos gl, if_pos gh, hA, hB, e42, str_app4, str_app4, List.append_assoc])
     clear HI hA hB dhi dlo g0 g1 e42
     go_enter Tryz.func135, Tryz.ntmps135
     go_wp2_with fail
     refine HI2.out.mono ?_
     rintro e w1 ⟨rfl, hb⟩
     have HB := hh9 hb
     clear hb
     go_wp2_with fail
     refine (HJ.out _ (HT.out.below HB.out)).mono ?_
     rintro e w2 ⟨rfl, hb⟩
     have HB2 := hh9 (below_then HB.out hb)
     clear hb
     go_wp2_with fail
     go_ret
     exact ⟨congrArg (fun u => Ending.returned (Value.string u)) HFIN.out, HB2.out⟩
    ·have qh : decide (0 <= hi) = false := decide_eq_false gh
     have HFIN := hh9 (show A ++ (⟨#[42]⟩ : ByteArray) = strOf (cntT lo hi) by
      rw [HE.out, if_pos gl, if_neg gh, hA, e42, str_app4, List.append_nil])
     clear HI hA dlo g0 g1 e42
     go_enter Tryz.func135, Tryz.ntmps135
     go_wp2_with fail
     refine HI2.out.mono ?_
     rintro e w1 ⟨rfl, hb⟩
     have HB := hh9 hb
     clear hb
     go_wp2_with fail
     go_ret
     exact ⟨congrArg (fun u => Ending.returned (Value.string u)) HFIN.out, HB.out⟩
   ·have ql : decide (0 < lo) = false := decide_eq_false gl
    by_cases gh : 0 <= hi
    ·have qh : decide (0 <= hi) = true := decide_eq_true gh
     have gh2 : hi <= 200 := by omega
     have dhi := decT_len (n := hi) gh gh2
     obtain ⟨B, hB⟩ : ∃ B, B = strOf (decT hi.toNat) := ⟨_, rfl⟩
     have hBs : B.size <= 3 := by rw [hB, strOf_size]; exact dhi
     have HJ : Hid (∀ W, Tabs W -> Calls Tryz.prog 157 #[.int .i64 hi] W (fun e w' => e = .returned (.string B) /\ Below W.heap.size W w')) := fun W hW => by rw [hB]; exact itoa_any hi gh gh2 hW
     have HFIN := hh9 (show (⟨#[42]⟩ : ByteArray) ++ B = strOf (cntT lo hi) by
      rw [HE.out, if_neg gl, if_pos gh, hB, e42, str_app4, List.nil_append])
     clear hB dhi dlo g0 g1 e42
     go_enter Tryz.func135, Tryz.ntmps135
     go_wp2_with fail
     refine (HJ.out _ HT.out).mono ?_
     rintro e w2 ⟨rfl, hb⟩
     have HB2 := hh9 hb
     clear hb
     go_wp2_with fail
     go_ret
     exact ⟨congrArg (fun u => Ending.returned (Value.string u)) HFIN.out, HB2.out⟩
    ·have qh : decide (0 <= hi) = false := decide_eq_false gh
     have HFIN := hh9 (show (⟨#[42]⟩ : ByteArray) = strOf (cntT lo hi) by
      rw [HE.out, if_neg gl, if_neg gh, e42]; rfl)
     clear dlo g0 g1 e42
     go_enter Tryz.func135, Tryz.ntmps135
     go_wp2_with fail
     go_ret
     exact ⟨congrArg (fun u => Ending.returned (Value.string u)) HFIN.out, Below.refl _ _⟩
end Go.Proofs.YtpopgjgngbiofaaGreatDoor
namespace Go.Proofs.YtpopgjgngbiofaaGreatDoor
open Go.RowKit
def tcells (n : Nat) (xs : List (List Int)) : Array Value := (xs.map (fun x => Value.string (strOf x)) ++ List.replicate (n - xs.length) (Value.string ⟨#[]⟩)).toArray
theorem tcells_set {n : Nat} {xs : List (List Int)} (h : xs.length < n) (x : List Int) : (tcells n xs).setIfInBounds xs.length (.string (strOf x)) = tcells n (xs ++ [x]) := by
 unfold tcells
 obtain ⟨m, hm⟩ : ∃ m, n - xs.length = m + 1 := ⟨n - xs.length - 1, by omega⟩
 have e2 : n - (xs ++ [x]).length = m := by simp; omega
 rw [hm, e2, List.setIfInBounds_toArray]
 congr 1
 rw [List.set_append_right _ _ (by simp)]
 simp [List.replicate_succ]
theorem tcells_next {n : Nat} {xs : List (List Int)} (h : xs.length < n) : (tcells n xs)[xs.length]? = some (.string ⟨#[]⟩) := by
 unfold tcells
 rw [List.getElem?_toArray, List.getElem?_append_right (by simp), List.length_map, Nat.sub_self, List.getElem?_replicate, if_pos (by omega)]
def TX (B n : Nat) (xs : List (List Int)) (W : World) : Prop := W.heap[B]? = some (.cells (tcells n xs) 9 (0, 0))
theorem TX.lt {B n : Nat} {xs : List (List Int)} {W : World} (h : TX B n xs W) : B < W.heap.size := (Array.getElem?_eq_some_iff.1 h).1
theorem TX.under {B n : Nat} {xs : List (List Int)} {W W' : World} (h : TX B n xs W) (hb : Below W.heap.size W W') : TX B n xs W' := (hb.block B h.lt).trans h
theorem TX.cell {B n : Nat} {xs : List (List Int)} {W : World} (h : TX B n xs W) (hl : xs.length < n) : W.cell? ⟨B, xs.length, none⟩ = some (.string ⟨#[]⟩) := by
 unfold TX at h
 simp only [World.cell?, h]
 exact tcells_next hl
theorem TX.frozen {B n : Nat} {xs : List (List Int)} {W : World} (h : TX B n xs W) (j : Nat) : W.frozen? ⟨B, j, none⟩ = false := by
 unfold TX at h
 simp [World.frozen?, h]
theorem TX.set {B n : Nat} {xs : List (List Int)} {W : World} (h : TX B n xs W) (hl : xs.length < n) (x : List Int) : TX B n (xs ++ [x]) (W.setCell ⟨B, xs.length, none⟩ (.string (strOf x))) := by
 unfold TX at h ⊢
 rw [setCell_eq_setRow _ _ _ _ _ _ _ h, tcells_set hl]
 exact setRow_heap _ _ _ _ _ _ h
theorem TX.read {B : Nat} {xs : List (List Int)} {W : World} (h : TX B xs.length xs W) (j : Nat) (x : List Int) (hx : xs[j]? = some x) : W.cell? ⟨B, j, none⟩ = some (.string (strOf x)) := by
 unfold TX at h
 simp only [World.cell?, h]
 unfold tcells
 rw [List.getElem?_toArray, List.getElem?_append_left (by simpa using (List.getElem?_eq_some_iff.1 hx).1)]
 simp [hx]
theorem join_sep (s : List Int) : ∀ l : List (List Int), Lib.join (l.map (·.map byt)) (s.map byt) = (sepT s l).map byt := by
 intro l
 induction l with
 | nil => rfl
 | cons x l ih =>
  cases l with
  | nil => simp [sepT, Lib.join]
  | cons y l =>
   rw [sepT, List.map_append, List.map_append, <- ih]
   simp [Lib.join]
theorem join_row {B : Nat} {xs : List (List Int)} {W : World} (h : TX B xs.length xs W) (s : List Int) (hl : (sepT s xs).length <= 1000000000000) (hn : xs.length <= 2000000000000) :
  Calls Tryz.prog 82 #[.slice (some ⟨B, 0, none⟩) xs.length xs.length, .string (strOf s)] W (GivesS (sepT s xs) W) := by
 have e : xs.length = (xs.map strOf).length := by simp
 have hm : (xs.map strOf).map (·.data.toList) = xs.map (·.map byt) := by
  rw [List.map_map]
  exact List.map_congr_left fun x _ => strOf_data x
 have hj : Lib.join ((xs.map strOf).map (·.data.toList)) (strOf s).data.toList = (sepT s xs).map byt := by rw [hm, strOf_data, join_sep]
 have := Tryz.strings_Join B 0 xs.length (xs.map strOf) (strOf s) W (fun j y hy => by
  rw [List.getElem?_map] at hy
  cases hx : xs[j]? with
  | none => rw [hx] at hy; cases hy
  | some x =>
   rw [hx] at hy
   cases hy
   rw [Nat.zero_add]
   exact h.read j x hx) h.lt (by rw [<- e]; omega) (by rw [<- e]; exact Nat.le_refl _) (by rw [hj, List.length_map]; omega)
 rw [hj, <- e] at this
 exact this
theorem infoStr : (Tryz.prog.info? 9).map (fun i => (i.zero, i.size, i.bytes)) = some (some (.string ⟨#[]⟩), 1, 16) := by kernel_rfl
theorem made_texts (n : Nat) : madeCells (Value.string ⟨#[]⟩).cells (n * 1) = tcells n [] := by
 unfold madeCells tcells
 apply Array.ext
 ·simp
 ·intro i h1 h2
  simp [Value.cells, Nat.mod_one]
theorem make_texts (n : Nat) (hn : n <= 2000000000000) (w : World) : (Instr.makeSlice 34 (.int .i64 (n : Int)) (.int .i64 (n : Int))).run Tryz.prog w = .ok (.slice (some ⟨w.heap.size, 0, none⟩) n n) (w.alloc (.cells (tcells n []) 9)) := by
 have hi := infoStr
 cases h : Tryz.prog.info? 9 with
 | none => rw [h] at hi; cases hi
 | some i =>
  rw [h] at hi
  simp only [Option.map_some, Option.some.injEq, Prod.mk.injEq] at hi
  obtain ⟨h1, h2, h3⟩ := hi
  have := run_make (P := Tryz.prog) w 34 9 i (.string ⟨#[]⟩) Tryz.underlying34 h h1 .i64 .i64 (n : Int) (n : Int) (by omega) (by omega) (by rw [h3]; omega) (by omega)
  rw [h2, Int.toNat_natCast, made_texts] at this
  exact this
theorem joinI_any {nums : List Int} {v : Value} {w : World} (hv : RowAny w v nums.length (icells nums)) (hn : nums.all numB = true) (h1 : 1 <= nums.length) (h2 : nums.length <= 10000) (hT : Tabs w) (s : List Int) (hs : s.length = 1) :
  Calls Tryz.prog 116 #[v, .string (strOf s), .func (Fn.func 117) #[] #[]] w (GivesS (sepT s (nums.map fun n => hexT n.toNat)) w) := by
 rcases hv with ⟨h0, _⟩ | ⟨g, off, cap, rfl, g1, g2, g3, g4⟩
 ·omega
 ·have HT := hh9 hT
  have G4 := hh9 g4
  have HN := hh9 hn
  obtain ⟨n, hnn⟩ : ∃ n, n = nums.length := ⟨_, rfl⟩
  rw [<- hnn] at g1 h1 h2 ⊢
  have HNN := hh9 hnn
  unfold maxLen at g2
  clear hT g4 hn hnn
  go_enter Tryz.func116, Tryz.ntmps116
  have hmk := make_texts n (by omega) w
  have HB0 := hh9 ((Below.refl w.heap.size w).alloc (Nat.le_refl _) (.cells (tcells n []) 9))
  have HX0 : Hid (TX w.heap.size n [] (w.alloc (.cells (tcells n []) 9))) := heap_alloc_new w _
  obtain ⟨W0, hW0⟩ : ∃ W0, W0 = w.alloc (.cells (tcells n []) 9) := ⟨_, rfl⟩
  rw [<- hW0] at hmk HB0 HX0
  clear hW0
  go_wp2_with fail
  go_loopw [15] (fun v wr => ∃ i : Nat, v = .int .i64 i /\ i <= n /\ Hid (Below w.heap.size w wr) /\ Hid (TX w.heap.size n ((nums.take i).map fun n => hexT n.toNat) wr)) (fun v _ => n - (intOf v).toNat)
  case atStart => exact ⟨0, rfl, by omega, HB0, HX0⟩
  case round =>
   obtain ⟨i, rfl, hi, HBEL, HX⟩ := hrel
   clear hmk
   by_cases hlt : i < n
   ·obtain ⟨Z, hZ⟩ : ∃ z, nums[i]? = some z := ⟨_, List.getElem?_eq_getElem (by rw [<- HNN.out]; exact hlt)⟩
    have c0 := (HBEL.out.cell (p := ⟨g, off + i, none⟩) g3).trans (G4.out i _ (icells_at4 hZ))
    have hz := List.all_eq_true.1 HN.out Z (List.mem_of_getElem? hZ)
    unfold numB at hz
    simp at hz
    have HH := hh9 (hexa_any Z hz.1 hz.2 (HT.out.1.below HBEL.out))
    have hlen : ((nums.take i).map fun n : Int => hexT n.toNat).length = i := by rw [List.length_map, List.length_take, <- HNN.out]; omega
    have HTK := hh9 (show (nums.take (i + 1)).map (fun n : Int => hexT n.toNat) = ((nums.take i).map fun n : Int => hexT n.toNat) ++ [hexT Z.toNat] by
     rw [List.take_add_one, hZ]; simp)
    have HLEN := hh9 hlen
    clear hZ hz hlen
    go_wp2_with fail
    refine HH.out.mono ?_
    rintro e w1 ⟨rfl, hb⟩
    have HB1 := hh9 (below_then HBEL.out hb)
    have hX1 := HX.out.under hb
    have k0 := hX1.cell (by rw [HLEN.out]; exact hlt)
    have k1 := hX1.frozen i
    rw [HLEN.out] at k0
    have HX2 := hh9 (hX1.set (by rw [HLEN.out]; exact hlt) (hexT Z.toNat))
    clear hb hX1
    go_wp2_with fail
    go_roundw
    case rel => exact ⟨i + 1, by go_num, by omega, HB1.out.setCell (Nat.le_refl _) _, by unfold Hid; have := HX2.out; rw [HLEN.out, <- HTK.out] at this; exact this⟩
    case measure => simp [intOf]; omega
   ·have hin : i = n := by omega
    subst hin
    have HTX : Hid (TX w.heap.size (nums.map fun n : Int => hexT n.toNat).length (nums.map fun n : Int => hexT n.toNat) wr) := by
     have := HX.out
     rw [List.take_of_length_le (by rw [<- HNN.out]; omega)] at this
     rw [Hid, List.length_map, <- HNN.out]
     exact this
    have hle : (nums.map fun n : Int => hexT n.toNat).length = i := by rw [List.length_map, <- HNN.out]
    have hsl : (sepT s (nums.map fun n : Int => hexT n.toNat)).length <= 1000000000000 := by
     have a := sep_len s (nums.map fun n : Int => hexT n.toNat)
     rw [List.map_map] at a
     have b : (nums.map ((fun x : List Int => x.length + s.length) ∘ fun n : Int => hexT n.toNat)).sum <= (nums.map fun _ => 7).sum := sum_le nums fun u hu => by
      have := hexT_len u.toNat
      simp
      omega
     rw [sum_const, <- HNN.out] at b
     omega
    have HJ := hh9 (join_row HTX.out s hsl (by rw [hle]; omega))
    rw [hle] at HJ
    clear hsl hle
    go_wp2_with fail
    refine HJ.out.mono ?_
    rintro e w1 ⟨rfl, hb⟩
    have HB1 := hh9 (below_then HBEL.out hb)
    clear hb
    go_wp2_with fail
    go_ret
    exact ⟨rfl, HB1.out⟩
end Go.Proofs.YtpopgjgngbiofaaGreatDoor
namespace Go.Proofs.YtpopgjgngbiofaaGreatDoor
open Go.RowKit
def TextTo (d : Nat) : Prop := ∀ (W : World) (X : XV) (t : Tree), ETree W X t -> rightF d t = true -> Tabs W -> (textF d t).length <= 1000000000000 -> Calls Tryz.prog 83 #[X.val] W (GivesS (textF d t) W)
def EnclAt (W : World) (K : Nat) (xs : List Int) : Prop := ∃ v, W.cell? ⟨K, 0, none⟩ = some v /\ RowAny W v xs.length (icells xs)
theorem EnclAt.below {W W' : World} {K : Nat} {xs : List Int} (h : EnclAt W K xs) (hb : Below W.heap.size W W') : EnclAt W' K xs := by
 obtain ⟨v, h1, h2⟩ := h
 exact ⟨v, cell_below h1 hb, h2.below hb⟩
def GivesEncl (xs : List Int) (w : World) (e : Ending) (w' : World) : Prop := ∃ K, e = .returned (.func (Fn.func 133) #[] #[.pointer (some ⟨K, 0, none⟩)]) /\ EnclAt w' K xs /\ Below w.heap.size w w'
theorem encl_any {xs : List Int} {v : Value} {w : World} (hv : RowAny w v xs.length (icells xs)) : Calls Tryz.prog 114 #[v] w (GivesEncl xs w) := by
 obtain ⟨a, cap, rfl, _⟩ := hv.slice
 have hb := (Below.refl w.heap.size w).alloc (Nat.le_refl _) (.cells #[.slice a xs.length cap] 24)
 have HE : Hid (EnclAt (w.alloc (.cells #[.slice a xs.length cap] 24)) w.heap.size xs) := ⟨.slice a xs.length cap, by simp only [World.cell?, heap_alloc_new]; rfl, hv.below hb⟩
 have HB := hh9 hb
 clear hb hv
 go_enter Tryz.func114, Tryz.ntmps114
 go_wp2_with fail
 go_ret
 exact ⟨w.heap.size, rfl, HE.out, HB.out⟩
theorem ETree.slices {W : World} {X : XV} {t : Tree} (h : ETree W X t) : ∃ a m ca c n cc, X.ns = .slice a m ca /\ X.ks = .slice c n cc := by
 cases h with
 | mk vs h0 hl h1 h2 h3 h4 =>
  obtain ⟨a, ca, e1, _⟩ := h1.slice
  obtain ⟨c, cc, e2, _⟩ := h2.slice
  exact ⟨a, _, ca, c, _, cc, e1, e2⟩
theorem ETree.size {W : World} {X : XV} {t : Tree} (h : ETree W X t) : ∃ x ns lo hi kids, t = .mk X.kind x ns lo hi kids := by
 cases h with | mk vs h0 hl h1 h2 h3 h4 => exact ⟨_, _, _, _, _, rfl⟩
theorem encl1_any {d : Nat} (ih : TextTo d) {K : Nat} {xs : List Int} {W : World} {X : XV} {t : Tree} (h : ETree W X t) (hr : rightF d t = true) (hT : Tabs W) (hl : (textF d t).length <= 1000000000000) (hK : EnclAt W K xs) :
  Calls Tryz.prog 133 #[X.val, .pointer (some ⟨K, 0, none⟩)] W (GivesS (brT (inB xs t.kind) (textF d t)) W) := by
 obtain ⟨o1, o2⟩ := h.ones
 have ek : t.kind = X.kind := by obtain ⟨_, _, _, _, _, rfl⟩ := h.size; rfl
 rw [ek]
 have hb := (Below.refl W.heap.size W).alloc (Nat.le_refl _) (xobj X.kind X.lo X.hi X.text X.ns X.ks)
 obtain ⟨v, hk1, hk2⟩ := hK.below hb
 have hX := X6.new W X.kind X.lo X.hi X.text X.ns X.ks
 have HI := hh9 (fun (bb : Bool) (hbb : inB xs X.kind = bb) => isOf_is (X := X) hbb o1 o2 _ v hk2)
 have HTX := hh9 (fun W' (hb' : Below W.heap.size W W') => ih W' X t (h.under hb') hr (hT.below hb') hl)
 have hsz : (strOf (textF d t)).size <= 1000000000000 := by rw [strOf_size]; exact hl
 obtain ⟨S, hS⟩ : ∃ S, S = strOf (textF d t) := ⟨_, rfl⟩
 have HBR := hh9 (show ((⟨#[40]⟩ : ByteArray) ++ S) ++ ⟨#[41]⟩ = strOf (brT true (textF d t)) by
  rw [hS, show (⟨#[40]⟩ : ByteArray) = strOf [40] from rfl, show (⟨#[41]⟩ : ByteArray) = strOf [41] from rfl, str_app4, str_app4]; rfl)
 have HNB := hh9 (show S = strOf (brT false (textF d t)) by rw [hS]; rfl)
 have HTX2 : Hid (∀ W', Below W.heap.size W W' -> Calls Tryz.prog 83 #[X.val] W' (fun e w' => e = .returned (.string S) /\ Below W'.heap.size W' w')) := by rw [hS]; exact HTX
 rw [<- hS] at hsz
 obtain ⟨k, s, nv, lo, hi, kv⟩ := X
 unfold xobj at hb hX HI hk1
 have HB := hh9 hb
 have HX := hh9 hX
 show Calls _ _ #[.agg #[.int .i64 k, .string s, nv, .int .i64 lo, .int .i64 hi, kv], .pointer (some ⟨K, 0, none⟩)] W _
 clear hb h hK hk2 hS hT hr hl ek HTX hX
 cases hp : inB xs k
 all_goals
  have HP := hh9 (HI.out _ hp)
  clear hp
  go_enter Tryz.func133, Tryz.ntmps133
  go_wp2_with fail
  refine HP.out.mono ?_
  rintro e w1 ⟨rfl, hb⟩
  have HB1 := hh9 (below_then HB.out hb)
  obtain ⟨a0, a1, a2, a3, a4, a5⟩ := (HX.out.under hb).cells
  clear hb
  go_wp2_with fail
  refine (HTX2.out _ HB1.out).mono ?_
  rintro e w2 ⟨rfl, hb⟩
  have HB2 := hh9 (below_then HB1.out hb)
  clear hb a0 a1 a2 a3 a4 a5
  go_wp2_with fail
  go_ret
  first
   | exact ⟨congrArg (fun u => Ending.returned (Value.string u)) HBR.out, HB2.out⟩
   | exact ⟨congrArg (fun u => Ending.returned (Value.string u)) HNB.out, HB2.out⟩
theorem joinX_any {d : Nat} (ih : TextTo d) {K : Nat} {xs : List Int} {w : World} {v : Value} {vs : List XV} {kids : List Tree} (h : KidsE w v vs kids) (hr : ∀ t ∈ kids, rightF d t = true) (hT : Tabs w) (hl : ∀ t ∈ kids, (textF d t).length <= 1000000000000)
  (s : List Int) (hs : (sepT s (kids.map fun t => brT (inB xs t.kind) (textF d t))).length <= 1000000000000) (hn1 : 1 <= kids.length) (hn : kids.length <= 2000000000000) (hK : EnclAt w K xs) :
  Calls Tryz.prog 113 #[v, .string (strOf s), .func (Fn.func 133) #[] #[.pointer (some ⟨K, 0, none⟩)]] w (GivesS (sepT s (kids.map fun t => brT (inB xs t.kind) (textF d t))) w) := by
 obtain ⟨h1, h2, h3⟩ := h
 rcases h1 with ⟨h0, _⟩ | ⟨g, off, cap, rfl, g1, g2, g3, g4⟩
 ·omega
 ·have HT := hh9 hT
  have G4 := hh9 g4
  have H2 := hh9 h2
  have H3 := hh9 h3
  have HR := hh9 hr
  have HL := hh9 hl
  have HK := hh9 hK
  have IH := hh9 ih
  have HS := hh9 hs
  obtain ⟨n, hnn⟩ : ∃ n, n = kids.length := ⟨_, rfl⟩
  rw [<- hnn] at g1 hn1 hn ⊢
  have HNN := hh9 hnn
  unfold maxLen at g2
  clear hT g4 h2 h3 hr hl hK ih hs hnn
  have hmk := make_texts n (by omega) w
  have HB0 := hh9 ((Below.refl w.heap.size w).alloc (Nat.le_refl _) (.cells (tcells n []) 9))
  have HX0 : Hid (TX w.heap.size n [] (w.alloc (.cells (tcells n []) 9))) := heap_alloc_new w _
  obtain ⟨W0, hW0⟩ : ∃ W0, W0 = w.alloc (.cells (tcells n []) 9) := ⟨_, rfl⟩
  rw [<- hW0] at hmk HB0 HX0
  clear hW0
  go_enter Tryz.func113, Tryz.ntmps113
  go_wp2_with fail
  go_loopw [15] (fun v wr => ∃ i : Nat, v = .int .i64 i /\ i <= n /\ Hid (Below w.heap.size w wr) /\ Hid (TX w.heap.size n ((kids.take i).map fun t => brT (inB xs t.kind) (textF d t)) wr)) (fun v _ => n - (intOf v).toNat)
  case atStart => exact ⟨0, rfl, by omega, HB0, HX0⟩
  case round =>
   obtain ⟨i, rfl, hi, HBEL, HX⟩ := hrel
   clear hmk
   by_cases hlt : i < n
   ·obtain ⟨Y, hY⟩ : ∃ y, vs[i]? = some y := ⟨_, List.getElem?_eq_getElem (by rw [H2.out, <- HNN.out]; exact hlt)⟩
    obtain ⟨t, ht⟩ : ∃ y, kids[i]? = some y := ⟨_, List.getElem?_eq_getElem (by rw [<- HNN.out]; exact hlt)⟩
    have CX : ∀ (j : Nat) (u : Value), j < 6 -> Y.cells[j]? = some u -> wr.cell? ⟨g, off + (i * 6 + j), none⟩ = some u := fun j u hj hu =>
     (HBEL.out.cell (p := ⟨g, off + (i * 6 + j), none⟩) g3).trans (G4.out _ u ((flat_at vs i j Y hY hj).trans hu))
    obtain ⟨aa, am, ac, ca, cm, cc, en, ek⟩ := (H3.out i Y t hY ht).slices
    have HH := hh9 (fun W' (hb : Below w.heap.size w W') => encl1_any (K := K) (xs := xs) IH.out ((H3.out i Y t hY ht).under hb) (HR.out t (List.mem_of_getElem? ht)) (HT.out.below hb) (HL.out t (List.mem_of_getElem? ht)) (HK.out.below hb))
    have hlen : ((kids.take i).map fun t => brT (inB xs t.kind) (textF d t)).length = i := by rw [List.length_map, List.length_take, <- HNN.out]; omega
    have HTK := hh9 (show (kids.take (i + 1)).map (fun t => brT (inB xs t.kind) (textF d t)) = ((kids.take i).map fun t => brT (inB xs t.kind) (textF d t)) ++ [brT (inB xs t.kind) (textF d t)] by
     rw [List.take_add_one, ht]; simp)
    have HLEN := hh9 hlen
    obtain ⟨k, sx, nv, lo, hi', kv⟩ := Y
    simp only [] at en ek
    subst en ek
    have e0 := CX 0 _ (by omega) rfl
    have e1 := CX 1 _ (by omega) rfl
    have e2 := CX 2 _ (by omega) rfl
    have e3 := CX 3 _ (by omega) rfl
    have e4 := CX 4 _ (by omega) rfl
    have e5 := CX 5 _ (by omega) rfl
    rw [<- Nat.add_assoc] at e0 e1 e2 e3 e4 e5
    rw [Nat.add_zero] at e0
    have hxb := HX.out.lt
    clear hY ht hlen CX
    have hne : wr.heap.size ≠ w.heap.size := by omega
    have HA := hh9 (below_new HBEL.out (xobj k lo hi' sx (.slice aa am ac) (.slice ca cm cc)))
    have HXA := hh9 (HX.out.under ((Below.refl wr.heap.size wr).alloc (Nat.le_refl _) (xobj k lo hi' sx (.slice aa am ac) (.slice ca cm cc))))
    unfold xobj at HA HXA
    go_wp2_with fail
    refine (HH.out _ HA.out).mono ?_
    rintro e w1 ⟨rfl, hb⟩
    have HB1 := hh9 (below_then HA.out hb)
    have hX1 := HXA.out.under hb
    have k0 := hX1.cell (by rw [HLEN.out]; exact hlt)
    have k1 := hX1.frozen i
    rw [HLEN.out] at k0
    have HX2 := hh9 (hX1.set (by rw [HLEN.out]; exact hlt) (brT (inB xs t.kind) (textF d t)))
    clear hb hX1 e0 e1 e2 e3 e4 e5
    go_wp2_with fail
    go_roundw
    case rel => exact ⟨i + 1, by go_num, by omega, HB1.out.setCell (Nat.le_refl _) _, by unfold Hid; have := HX2.out; rw [HLEN.out, <- HTK.out] at this; exact this⟩
    case measure => simp [intOf]; omega
   ·have hin : i = n := by omega
    subst hin
    have HTX : Hid (TX w.heap.size (kids.map fun t => brT (inB xs t.kind) (textF d t)).length (kids.map fun t => brT (inB xs t.kind) (textF d t)) wr) := by
     have := HX.out
     rw [List.take_of_length_le (by rw [<- HNN.out]; omega)] at this
     rw [Hid, List.length_map, <- HNN.out]
     exact this
    have hle : (kids.map fun t => brT (inB xs t.kind) (textF d t)).length = i := by rw [List.length_map, <- HNN.out]
    have HJ := hh9 (join_row HTX.out s HS.out (by rw [hle]; omega))
    rw [hle] at HJ
    clear hle
    go_wp2_with fail
    refine HJ.out.mono ?_
    rintro e w1 ⟨rfl, hb⟩
    have HB1 := hh9 (below_then HBEL.out hb)
    clear hb
    go_wp2_with fail
    go_ret
    exact ⟨rfl, HB1.out⟩
end Go.Proofs.YtpopgjgngbiofaaGreatDoor
