/- What the laws of the grammar rest on, part 7: made by tools/merge5.py out of TBackA. No condition but those that each says. -/
import Derived.Test.YtpopgjgngbiofaaGreatDoorM0
set_option linter.unusedVariables false
set_option linter.unusedSimpArgs false
set_option maxRecDepth 100000
set_option maxHeartbeats 8000000
namespace Go.Proofs.YtpopgjgngbiofaaGreatDoor
def Has (f : Nat -> Int) (p : Nat) (x : List Int) : Prop := ∀ (i : Nat) (c : Int), x[i]? = some c -> f (p + i) = c
theorem Has.left {f : Nat -> Int} {p : Nat} {x y : List Int} (h : Has f p (x ++ y)) : Has f p x := fun i c hc => h i c (by rw [List.getElem?_append_left (List.getElem?_eq_some_iff.1 hc).1]; exact hc)
theorem Has.right {f : Nat -> Int} {p : Nat} {x y : List Int} (h : Has f p (x ++ y)) : Has f (p + x.length) y := fun i c hc => by
 rw [Nat.add_assoc]
 exact h (x.length + i) c (by rw [List.getElem?_append_right (by omega)]; simpa using hc)
theorem Has.head {f : Nat -> Int} {p : Nat} {c : Int} {x : List Int} (h : Has f p (c :: x)) : f p = c := h 0 c rfl
theorem Has.tail {f : Nat -> Int} {p : Nat} {c : Int} {x : List Int} (h : Has f p (c :: x)) : Has f (p + 1) x := fun i a hi => by
 have := h (i + 1) a hi
 rw [<- this]
 congr 1
 omega
theorem Has.run {P : Int -> Bool} {f : Nat -> Int} {p : Nat} {x : List Int} (h : Has f p x) (ha : x.all P = true) (hs : P (f (p + x.length)) = false) : runEnd P f p = p + x.length := by
 refine IsRun.eq ⟨by omega, fun i a b => ?_, hs⟩
 have hi : i - p < x.length := by omega
 have := h (i - p) x[i - p] (List.getElem?_eq_getElem hi)
 rw [show p + (i - p) = i by omega] at this
 rw [this]
 exact List.all_eq_true.1 ha _ (List.getElem_mem hi)
theorem Has.cut {f : Nat -> Int} {p : Nat} {x : List Int} (h : Has f p x) : cut f p x.length = x := by
 apply List.ext_getElem?
 intro i
 unfold Go.Proofs.YtpopgjgngbiofaaGreatDoor.cut
 by_cases hi : i < x.length
 ·have := h i x[i] (List.getElem?_eq_getElem hi)
  rw [List.getElem?_map, List.getElem?_range hi, List.getElem?_eq_getElem hi, Option.map_some, this]
 ·rw [List.getElem?_eq_none (by simp; omega), List.getElem?_eq_none (by omega)]
theorem nl_nm {c : Int} (h : nlB c = true) : isNm c = true /\ low c = c := by
 unfold nlB smB isDc at h
 unfold isNm isAl isDc low
 simp at h ⊢
 omega
theorem fo_st {c : Int} (h : foB c = true) : isSt c = true /\ low c = c := by
 unfold foB at h
 unfold isSt low
 simp at h ⊢
 omega
theorem map_low {P : Int -> Bool} {x : List Int} (h : x.all P = true) (hp : ∀ c, P c = true -> low c = c) : x.map low = x := by
 rw [List.all_eq_true] at h
 have : x.map low = x.map id := List.map_congr_left fun c hc => hp c (h c hc)
 rw [this, List.map_id]
theorem nameB_all {x : List Int} (h : nameB x = true) : x.length <= 40 /\ x.all nlB = true /\ ∃ c l, x = c :: l /\ isAl c = true := by
 cases x with
 | nil => cases h
 | cons c l =>
  unfold nameB at h
  simp only [Bool.and_eq_true, decide_eq_true_eq] at h
  refine ⟨h.1.1, h.2, c, l, rfl, ?_⟩
  have := h.1.2
  unfold smB at this
  unfold isAl
  simp at this ⊢
  omega
theorem Has.name {f : Nat -> Int} {p : Nat} {x : List Int} (h : Has f p x) (hn : nameB x = true) (hs : isNm (f (p + x.length)) = false) : nameAt f p = .ok x (p + x.length) := by
 obtain ⟨h1, h2, _⟩ := nameB_all hn
 have hr : runEnd isNm f p = p + x.length := h.run (List.all_eq_true.2 fun c hc => (nl_nm (List.all_eq_true.1 h2 c hc)).1) hs
 unfold nameAt
 rw [hr, Nat.add_sub_cancel_left, if_neg (by omega), h.cut, map_low h2 fun c hc => (nl_nm hc).2]
theorem Has.quote {f : Nat -> Int} {p : Nat} {x : List Int} (h : Has f p ([34] ++ x ++ [34])) (hx : x.all foB = true) : quoteAt f p = .ok x (p + (x.length + 2)) /\ x.map low = x := by
 have h0 : f p = 34 := h.left.left.head
 have h1 : Has f (p + 1) x := h.left.right
 have h2 : f (p + 1 + x.length) = 34 := by
  have := h.right.head
  rw [<- this]
  congr 1
  simp
  omega
 have hr : runEnd isSt f (p + 1) = p + 1 + x.length := h1.run (List.all_eq_true.2 fun c hc => (fo_st (List.all_eq_true.1 hx c hc)).1) (by rw [h2]; decide)
 refine ⟨?_, map_low hx fun c hc => (fo_st hc).2⟩
 unfold quoteAt
 rw [if_pos h0, hr, if_pos h2, Nat.add_sub_cancel_left, h1.cut]
 congr 1
 omega
theorem dig_dec {d : Nat} (h : d < 10) : dig (48 + (d : Int)) = d := by unfold dig; rw [if_pos (by omega)]; omega
theorem dig_hex {d : Nat} (h : d < 16) : dig (hexC d) = d := by
 unfold hexC dig
 by_cases g : d < 10
 ·rw [if_pos g, if_pos (by omega)]; omega
 ·rw [if_neg g, if_neg (by omega), if_neg (by omega), if_pos (by omega)]; omega
structure Num (b : Int) (x : List Int) (n : Int) : Prop where
 pos : 0 < x.length
 all : x.all (isDg b) = true
 is : ∀ (f : Nat -> Int) (p : Nat), Has f p x -> val b f p x.length = n
theorem Num.one {b c m : Int} (hc : dig c = m) (hm : m < b) : Num b [c] m := by
 refine ⟨by simp, by unfold isDg; simp [hc, hm], fun f p h => ?_⟩
 show val b f p (0 + 1) = m
 unfold val
 rw [Nat.add_zero, h.head, hc]
 unfold val
 omega
theorem Num.snoc {b c m n : Int} {x : List Int} (h : Num b x n) (hc : dig c = m) (hm : m < b) : Num b (x ++ [c]) (n * b + m) := by
 refine ⟨by simp, by rw [List.all_append, h.all]; unfold isDg; simp [hc, hm], fun f p hh => ?_⟩
 rw [List.length_append]
 show val b f p (x.length + 1) = _
 unfold val
 rw [h.is f p hh.left, hh.right.head, hc]
theorem num_dec : ∀ (k n : Nat), n < 10 ^ k -> 0 < k -> Num 10 (decF k n) n
 | 0, n, _, h => absurd h (by omega)
 | k + 1, n, h, _ => by
  unfold decF
  by_cases g : n < 10
  ·rw [if_pos g, Nat.mod_eq_of_lt g]
   exact Num.one (dig_dec g) (by omega)
  ·have hk : 0 < k := by
    rcases Nat.eq_zero_or_pos k with e | e
    ·subst e; simp at h; omega
    ·exact e
   have ih := num_dec k (n / 10) (by rw [Nat.pow_succ] at h; omega) hk
   rw [if_neg g]
   have := ih.snoc (c := 48 + ((n % 10 : Nat) : Int)) (m := ((n % 10 : Nat) : Int)) (dig_dec (by omega)) (by omega)
   rwa [show ((n / 10 : Nat) : Int) * 10 + ((n % 10 : Nat) : Int) = (n : Int) by omega] at this
theorem num_hexF : ∀ (k n : Nat), n < 16 ^ k -> 0 < k -> Num 16 (hexF k n) n
 | 0, n, _, h => absurd h (by omega)
 | k + 1, n, h, _ => by
  unfold hexF
  by_cases g : n < 16
  ·rw [if_pos g, Nat.mod_eq_of_lt g]
   exact Num.one (dig_hex g) (by omega)
  ·have hk : 0 < k := by
    rcases Nat.eq_zero_or_pos k with e | e
    ·subst e; simp at h; omega
    ·exact e
   have ih := num_hexF k (n / 16) (by rw [Nat.pow_succ] at h; omega) hk
   rw [if_neg g]
   have := ih.snoc (c := hexC (n % 16)) (m := ((n % 16 : Nat) : Int)) (dig_hex (by omega)) (by omega)
   rwa [show ((n / 16 : Nat) : Int) * 16 + ((n % 16 : Nat) : Int) = (n : Int) by omega] at this
theorem num_hex (n : Int) (h0 : 0 <= n) (h : n <= 1114111) : Num 16 (hexT n.toNat) n := by
 unfold hexT
 by_cases g : n.toNat < 16
 ·rw [if_pos g]
  have := (Num.one (b := 16) (c := 48) (m := 0) (by decide) (by omega)).snoc (c := hexC n.toNat) (m := (n.toNat : Int)) (dig_hex g) (by omega)
  rwa [show (0 : Int) * 16 + (n.toNat : Int) = n by omega] at this
 ·rw [if_neg g]
  have := num_hexF 6 n.toNat (by rw [show (16 : Nat) ^ 6 = 16777216 by decide]; omega) (by omega)
  rwa [show (n.toNat : Int) = n by omega] at this
theorem num_decT (n : Int) (h0 : 0 <= n) (h : n <= 200) : Num 10 (decT n.toNat) n := by
 have := num_dec 20 n.toNat (by rw [show (10 : Nat) ^ 20 = 100000000000000000000 by decide]; omega) (by omega)
 rwa [show (n.toNat : Int) = n by omega] at this
theorem Num.at {b lim n : Int} {x : List Int} (h : Num b x n) {f : Nat -> Int} {p : Nat} (hh : Has f p x) (hs : isDg b (f (p + x.length)) = false) (hl : n <= lim) : numAt b lim f p = .ok n (p + x.length) := by
 have hr := hh.run h.all hs
 have hp := h.pos
 unfold numAt
 rw [hr, if_neg (by omega), Nat.add_sub_cancel_left, h.is f p hh, if_neg (by omega)]
theorem Num.dc {n : Int} {x : List Int} (h : Num 10 x n) {f : Nat -> Int} {p : Nat} (hh : Has f p x) : isDc (f p) = true := by
 obtain ⟨hp, ha, _⟩ := h
 cases x with
 | nil => simp at hp
 | cons c l =>
  rw [hh.head]
  have := List.all_eq_true.1 ha c (by simp)
  unfold isDg at this
  simp at this
  unfold dig at this
  unfold isDc
  simp
  split at this
  ·omega
  ·split at this
   ·omega
   ·split at this <;> omega
theorem cnt_none {f : Nat -> Int} {p : Nat} (h1 : isDc (f p) = false) (h2 : f p ≠ 42) : countAt f p = .ok (0, 0, false) p := by
 unfold countAt
 rw [h1]
 simp [h2]
 omega
theorem cnt_same {f : Nat -> Int} {p q : Nat} {lo : Int} (h0 : 0 <= lo) (h1 : isDc (f p) = true) (h : numAt 10 200 f p = .ok lo q) (h2 : f q ≠ 42) : countAt f p = .ok (lo, lo, true) q := by
 unfold countAt
 rw [h1]
 simp only [if_true, h]
 rw [if_neg h2, show max lo 0 = lo by omega, decide_eq_true h0]
theorem cnt_two {f : Nat -> Int} {p q q' : Nat} {lo lo' hi : Int} (h : (if isDc (f p) then numAt 10 200 f p else .ok (-1) p) = .ok lo' q) (hq : f q = 42) (h2 : (if isDc (f (q + 1)) then numAt 10 200 f (q + 1) else .ok (-1) (q + 1)) = .ok hi q') (hm : max lo' 0 = lo) : countAt f p = .ok (lo, hi, true) q' := by
 unfold countAt
 rw [h]
 simp only []
 rw [if_pos hq, h2, hm]
theorem isDg10 {c : Int} (h : isDc c = false) : isDg 10 c = false := by
 unfold isDc at h
 simp at h
 unfold isDg dig
 simp
 split
 ·omega
 ·split
  ·omega
  ·split <;> omega
theorem cnt_at {lo hi : Int} (hc : cntB lo hi = true) {f : Nat -> Int} {p : Nat} (h : Has f p (cntT lo hi)) (h1 : isDc (f (p + (cntT lo hi).length)) = false) (h2 : f (p + (cntT lo hi).length) ≠ 42) : countAt f p = .ok (lo, hi, true) (p + (cntT lo hi).length) := by
 unfold cntB at hc
 simp at hc
 obtain ⟨⟨c0, c1⟩, c2⟩ := hc
 by_cases g0 : hi = 0
 ·have hlo : lo = 0 := by omega
  subst g0 hlo
  have e : cntT 0 0 = [48] := rfl
  rw [e] at h h1 h2 ⊢
  have hn : Num 10 [48] 0 := Num.one (by decide) (by omega)
  exact cnt_same (by omega) (hn.dc h) (hn.at h (isDg10 h1) (by omega)) h2
 ·by_cases g1 : hi = lo
  ·subst g1
   have e : cntT hi hi = decT hi.toNat := by unfold cntT; rw [if_neg g0, if_pos (by omega), if_pos rfl, List.append_nil]
   rw [e] at h h1 h2 ⊢
   have hn := num_decT hi (by omega) (by omega)
   exact cnt_same (by omega) (hn.dc h) (hn.at h (isDg10 h1) (by omega)) h2
  ·obtain ⟨u, hu⟩ : ∃ u, u = (if 0 < lo then decT lo.toNat else []) := ⟨_, rfl⟩
   obtain ⟨v, hv⟩ : ∃ v, v = (if 0 <= hi then decT hi.toNat else []) := ⟨_, rfl⟩
   have e : cntT lo hi = u ++ ([42] ++ v) := by unfold cntT; rw [if_neg g0, if_neg g1, <- hu, <- hv]
   rw [e] at h h1 h2 ⊢
   have hL : (u ++ ([42] ++ v)).length = u.length + 1 + v.length := by simp; omega
   rw [hL] at h1 h2 ⊢
   have k42 : f (p + u.length) = 42 := h.right.left.head
   have hV : Has f (p + u.length + 1) v := h.right.right
   have a1 : ∃ lo', (if isDc (f p) then numAt 10 200 f p else .ok (-1) p) = .ok lo' (p + u.length) /\ max lo' 0 = lo := by
    by_cases g2 : 0 < lo
    ·rw [if_pos g2] at hu
     subst hu
     have hn := num_decT lo (by omega) (by omega)
     refine ⟨lo, ?_, by omega⟩
     rw [if_pos (hn.dc h.left)]
     exact hn.at h.left (by rw [k42]; decide) (by omega)
    ·rw [if_neg g2] at hu
     subst hu
     refine ⟨-1, ?_, by omega⟩
     have : f p = 42 := k42
     rw [this, if_neg (by decide)]
     rfl
   have a2 : (if isDc (f (p + u.length + 1)) then numAt 10 200 f (p + u.length + 1) else .ok (-1) (p + u.length + 1)) = .ok hi (p + u.length + 1 + v.length) := by
    by_cases g2 : 0 <= hi
    ·rw [if_pos g2] at hv
     subst hv
     have hn := num_decT hi (by omega) (by omega)
     rw [if_pos (hn.dc hV)]
     refine hn.at hV ?_ (by omega)
     rw [show p + u.length + 1 + (decT hi.toNat).length = p + (u.length + 1 + (decT hi.toNat).length) by omega]
     exact isDg10 h1
    ·rw [if_neg g2] at hv
     subst hv
     have : isDc (f (p + u.length + 1)) = false := h1
     rw [this]
     have hh : hi = -1 := by omega
     rw [hh]
     rfl
   obtain ⟨lo', b1, b2⟩ := a1
   have := cnt_two b1 k42 a2 b2
   rw [this]
   congr 1
   omega
end Go.Proofs.YtpopgjgngbiofaaGreatDoor
