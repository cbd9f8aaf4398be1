/- Joined texts; each begins with what it says. -/
import Derived.Test.YtclnadjgbpihcaaGreatDoorW2
import Derived.Test.YtclnadjgbpihcaaGreatDoorForm
import Derived.Test.YtclnadjgbpihcaaGreatDoorReMem
import Derived.StillTailTactics
import Derived.Deep.QuietTactic
import Derived.BigQuiet
import Derived.Test.YtclnadjgbpihcaaGreatDoorRanges2
import Derived.Test.YtclnadjgbpihcaaGreatDoorW0
/-! How big what is left of the laws' expressions by numbers becomes behind six bytes. No condition. -/
namespace Go.Proofs.YtclnadjgbpihcaaGreatDoor
open Go.Lib
set_option linter.unusedVariables false
set_option linter.unusedSimpArgs false

def Psi (q : List RT) : Nat := 16777216 * T 0 q + 1048576 * T 1 q + 65536 * T 2 q + 4096 * T 3 q + 256 * T 4 q + 16 * T 5 q + T 6 q
def Del (t : RT) (R : List RT) : Nat := 1048576 * Dm 0 t R + 65536 * Dm 1 t R + 4096 * Dm 2 t R + 256 * Dm 3 t R + 16 * Dm 4 t R + Dm 5 t R
theorem psi_seq {t : RT} (hg : good t) (R : List RT) : Psi (seqOf t ++ R) ≤ 16777216 * t.sz + Del t R + Psi R := by
  have h0 := T0_append (seqOf t) R
  have h1 := (seq_sz hg).1
  have k := fun j => T_seq j t R
  have k0 := k 0
  have k1 := k 1
  have k2 := k 2
  have k3 := k 3
  have k4 := k 4
  have k5 := k 5
  unfold Psi Del
  simp only [Nat.zero_add, Nat.reduceAdd] at k0 k1 k2 k3 k4 k5
  rw [k0, k1, k2, k3, k4, k5, h0]
  split <;> omega
def fl (l : List RT) : List RT := l.flatMap seqOf
theorem seq_kinds {t : RT} (hg : good t) (h0 : t.kind ≠ 0) : ∀ u ∈ seqOf t, u.kind ≠ 0 ∧ u.kind ≠ 1 ∧ u.kind ≠ 3 := by
  intro u hu
  unfold seqOf at hu
  split at hu
  · obtain ⟨k', s, kids⟩ := t
    exact (good_kinds hg).1 (by assumption) u hu
  · split at hu
    · simp at hu
    · simp at hu
      subst hu
      exact ⟨h0, by assumption, by assumption⟩
theorem fl_filter : ∀ {l : List RT}, (∀ t ∈ l, good t) → ((flatM 3 l).filter fun r => !(r.kind == 1)) = fl l := by
  intro l hg
  induction l with
  | nil => rfl
  | cons a l ih =>
    have e : flatM 3 (a :: l) = (if a.kind = 3 then a.kids else [a]) ++ flatM 3 l := by simp [flatM]
    have e2 : fl (a :: l) = seqOf a ++ fl l := by simp [fl]
    rw [e, e2, List.filter_append, ih fun t ht => hg t (by simp [ht])]
    congr 1
    unfold seqOf
    split
    · rw [List.filter_eq_self]
      intro t ht
      have hga := hg a (by simp)
      obtain ⟨k', s, kids⟩ := a
      have := ((good_kinds hga).1 (by assumption) t ht).2.1
      simpa using this
    · split
      · simp_all
      · simp_all
theorem cat_is {l : List RT} (hg : ∀ t ∈ l, good t) : ((∃ t ∈ l, t.kind = 0) → catM l = noneM) ∧ ((∀ t ∈ l, t.kind ≠ 0) → catM l = someM 3 1 (fl l)) := by
  have hfil := fl_filter hg
  refine ⟨fun ⟨t, ht, h0⟩ => ?_, fun h0 => ?_⟩
  · unfold catM
    rw [if_pos]
    refine List.any_eq_true.2 ⟨t, ?_, by simp [h0]⟩
    unfold flatM
    exact List.mem_flatMap.2 ⟨t, ht, by rw [if_neg (by omega)]; simp⟩
  · unfold catM
    rw [if_neg, hfil]
    intro h
    obtain ⟨t, ht, hk⟩ := List.any_eq_true.1 h
    have hk : t.kind = 0 := by simpa using hk
    rcases flat_mem ht with ⟨h1, _⟩ | ⟨y, hy, h3, hx⟩
    · exact h0 t h1 hk
    · have hgy := hg y hy
      obtain ⟨k', s, kids⟩ := y
      exact ((good_kinds hgy).1 h3 t hx).1 hk
def DelL : List RT → List RT → Nat
  | [], _ => 0
  | t :: l, R => Del t (fl l ++ R) + (if nullM t then DelL l R else 0)
def Dq (j : Nat) (q R : List RT) : Nat := ((dls q).map fun s => 3 + T j (s ++ R)).sum
theorem Dq_cons (j : Nat) (t : RT) (B R : List RT) : Dq j (seqOf t ++ B) R = Dm j t (B ++ R) + (if nullM t then Dq j B R else 0) := by
  unfold Dq
  rw [dls_append, dls_seq, null_seq, List.map_append, List.sum_append, List.map_map]
  unfold Dm
  congr 1
  · congr 1
    refine List.map_congr_left fun s _ => ?_
    simp [List.append_assoc]
  · split
    · rfl
    · rfl
theorem Dm_some (j : Nat) (L R : List RT) : Dm j (someM 3 1 L) R = Dq j L R := by
  match L with
  | [] =>
    show Dm j (.mk 1 W4.zero []) R = _
    unfold Dm Dq
    rw [dl_mk]
    rfl
  | [y] =>
    show Dm j y R = _
    unfold Dm Dq
    rw [dls_cons, dls_nil]
    simp
  | x :: y :: l =>
    show Dm j (.mk 3 W4.zero (x :: y :: l)) R = _
    unfold Dm Dq
    rw [dl_mk, if_neg (by decide), if_pos rfl]
    rfl
theorem null_some (L : List RT) : nullM (someM 3 1 L) = L.all nullM := by
  match L with
  | [] =>
    show nullM (.mk 1 W4.zero []) = _
    rw [null_mk]
    simp
  | [y] => simp [someM]
  | x :: y :: l =>
    show nullM (.mk 3 W4.zero (x :: y :: l)) = _
    rw [null_mk]
    rfl
theorem null_cat {l : List RT} (hg : ∀ t ∈ l, good t) : nullM (catM l) = l.all nullM := by
  by_cases h : ∃ t ∈ l, t.kind = 0
  · rw [(cat_is hg).1 h]
    obtain ⟨t, ht, hk⟩ := h
    have h1 : nullM noneM = false := null_none rfl
    rw [h1]
    symm
    rw [List.all_eq_false]
    exact ⟨t, ht, by rw [null_none hk]; simp⟩
  · rw [(cat_is hg).2 fun t ht hk => h ⟨t, ht, hk⟩, null_some]
    unfold fl
    clear h hg
    induction l with
    | nil => rfl
    | cons a l ih => rw [List.flatMap_cons, List.all_append, ih, null_seq, List.all_cons]
theorem del_cat {l : List RT} (hg : ∀ t ∈ l, good t) (R : List RT) : Del (catM l) R ≤ DelL l R := by
  by_cases h : ∃ t ∈ l, t.kind = 0
  · rw [(cat_is hg).1 h]
    unfold Del
    rw [Dm_none 0 R rfl, Dm_none 1 R rfl, Dm_none 2 R rfl, Dm_none 3 R rfl, Dm_none 4 R rfl, Dm_none 5 R rfl]
    omega
  · rw [(cat_is hg).2 fun t ht hk => h ⟨t, ht, hk⟩]
    unfold Del
    simp only [Dm_some]
    clear h hg
    induction l with
    | nil => simp [fl, Dq, dls_nil, DelL]
    | cons a l ih =>
      have e2 : fl (a :: l) = seqOf a ++ fl l := by simp [fl]
      rw [e2]
      simp only [Dq_cons, DelL, Del]
      split <;> omega
theorem Dm_eitherM (j : Nat) (R : List RT) (l : List RT) : Dm j (eitherM l) R ≤ (l.map fun x => Dm j x R).sum := by
  have h := Dm_parts j R l
  have hE : eitherM l = someM 4 0 (partsM l) := rfl
  rw [hE]
  revert h
  match partsM l with
  | [] =>
    intro h
    show Dm j (.mk 0 W4.zero []) R ≤ _
    rw [Dm_none j R rfl]
    omega
  | [p] =>
    intro h
    simp only [List.map_cons, List.map_nil, List.sum_cons, List.sum_nil] at h
    show Dm j p R ≤ _
    omega
  | p :: q :: P =>
    intro h
    show Dm j (.mk 4 W4.zero (p :: q :: P)) R ≤ _
    rw [Dm_either]
    exact h
theorem del_either (l : List RT) (R : List RT) : Del (eitherM l) R ≤ (l.map fun x => Del x R).sum := by
  have e : (l.map fun x => Del x R).sum = 1048576 * (l.map fun x => Dm 0 x R).sum + 65536 * (l.map fun x => Dm 1 x R).sum + 4096 * (l.map fun x => Dm 2 x R).sum + 256 * (l.map fun x => Dm 3 x R).sum + 16 * (l.map fun x => Dm 4 x R).sum + (l.map fun x => Dm 5 x R).sum := by
    induction l with
    | nil => rfl
    | cons a l ih =>
      simp only [List.map_cons, List.sum_cons, ih]
      unfold Del
      omega
  rw [e]
  have h0 := Dm_eitherM 0 R l
  have h1 := Dm_eitherM 1 R l
  have h2 := Dm_eitherM 2 R l
  have h3 := Dm_eitherM 3 R l
  have h4 := Dm_eitherM 4 R l
  have h5 := Dm_eitherM 5 R l
  unfold Del
  omega
theorem del_byte {t : RT} (h : t.kind = 2) (R : List RT) : 16 * Del t R ≤ 53687088 + Psi R := by
  unfold Del Psi
  rw [Dm_byte' 0 R h, Dm_byte' 1 R h, Dm_byte' 2 R h, Dm_byte' 3 R h, Dm_byte' 4 R h, Dm_byte' 5 R h]
  omega
/-- Of leaves an Either has one Byte at most. -/
theorem del_leaves {l : List RT} (hl : ∀ t ∈ l, t.kind ≤ 2 ∧ 0 ≤ t.kind) (R : List RT) : 16 * Del (eitherM l) R ≤ 53687088 + Psi R := by
  have hz : ∀ t : RT, t.kind = 0 ∨ t.kind = 1 → Del t R = 0 := fun t h => by
    obtain ⟨k, s, kids⟩ := t
    simp only [RT.kind] at h
    have : ∀ j, Dm j (.mk k s kids) R = 0 := fun j => by
      unfold Dm
      rw [dl_mk, if_neg (by omega), if_neg (by omega), if_neg (by omega), if_neg (by omega)]
      rfl
    unfold Del
    rw [this, this, this, this, this, this]
  have hfl : flatM 4 l = l := flat_same fun t ht => by have := hl t ht; omega
  have hsum : ∀ j, ((partsM l).map fun x => Dm j x R).sum ≤ 3 + T j R := fun j => by
    have h1 := sumg_puts (fun x => Dm j x R) (byteM l ++ othersM l)
    have e2 : putsM (byteM l ++ othersM l) = partsM l := by unfold partsM; rw [hfl]
    rw [e2, List.map_append, List.sum_append] at h1
    have h2 : ((byteM l).map fun x => Dm j x R).sum ≤ 3 + T j R := by
      unfold byteM
      split
      · simp
      · simp [Dm_byte]
    have h3 : ((othersM l).map fun x => Dm j x R).sum = 0 := by
      have : ∀ x ∈ othersM l, Dm j x R = 0 := fun x hx => by
        have h4 := List.mem_filter.1 hx
        have h5 := h4.2
        simp at h5
        have h6 := hl x h4.1
        obtain ⟨k, s, kids⟩ := x
        simp only [RT.kind] at h5 h6
        unfold Dm
        rw [dl_mk, if_neg (by omega), if_neg (by omega), if_neg (by omega), if_neg (by omega)]
        rfl
      revert this
      generalize othersM l = O
      intro h
      induction O with
      | nil => rfl
      | cons a O ih =>
        have h7 := h a (by simp)
        have h8 := ih fun x hx => h x (by simp [hx])
        simp only [List.map_cons, List.sum_cons]
        omega
    omega
  have hE : eitherM l = someM 4 0 (partsM l) := rfl
  have hd : ∀ j, Dm j (eitherM l) R ≤ 3 + T j R := fun j => by
    have h := hsum j
    rw [hE]
    revert h
    match partsM l with
    | [] => intro h; show Dm j (.mk 0 W4.zero []) R ≤ _; rw [Dm_none j R rfl]; omega
    | [p] => intro h; simp only [List.map_cons, List.map_nil, List.sum_cons, List.sum_nil] at h; show Dm j p R ≤ _; omega
    | p :: q :: P => intro h; show Dm j (.mk 4 W4.zero (p :: q :: P)) R ≤ _; rw [Dm_either]; exact h
  have h0 := hd 0
  have h1 := hd 1
  have h2 := hd 2
  have h3 := hd 3
  have h4 := hd 4
  have h5 := hd 5
  unfold Del Psi
  omega
theorem del_star (s : W4) (t : RT) (R : List RT) : Del (.mk 5 s [t]) R = Del t (.mk 5 s [t] :: R) := by
  have h : ∀ j, Dm j (.mk 5 s [t]) R = Dm j t (.mk 5 s [t] :: R) := fun j => by
    unfold Dm
    rw [dl_mk, if_neg (by decide), if_neg (by decide), if_neg (by decide), if_pos rfl]
    simp [Function.comp_def]
  unfold Del
  rw [h, h, h, h, h, h]
structure Lv (S C A Cn An : Nat) (t : RT) : Prop where
  good : good t
  sz : t.sz ≤ S
  nn : nullM t = false → ∀ R, 1024 * Del t R ≤ C + A * Psi R
  nu : nullM t = true → ∀ R, 1024 * Del t R ≤ Cn + An * Psi R

theorem lv0_any {t : RT} (h : Lv 1 3435973632 64 0 0 t) (R : List RT) : 1024 * Del t R ≤ 3435973632 + 64 * Psi R := by
  cases e : nullM t with
  | true => have := h.nu e R; omega
  | false => have := h.nn e R; omega
theorem lv0_up {t : RT} (h : Lv 1 3435973632 64 0 0 t) : Lv 5 6093484621 73 5955687767 69 t :=
  ⟨h.good, by have := h.sz; omega, fun e R => by have := h.nn e R; omega, fun e R => by have := h.nu e R; omega⟩
theorem lv0_star {t : RT} (h : Lv 1 3435973632 64 0 0 t) : Lv 5 6093484621 73 5955687767 69 (starM t) := by
  unfold starM
  split
  · refine ⟨good_empty, by show (RT.mk 1 W4.zero []).sz ≤ _; rw [sz_mk]; simp, fun e => by have e : nullM (.mk 1 W4.zero []) = false := e; rw [null_mk] at e; simp at e, fun _ R => ?_⟩
    have : ∀ j, Dm j emptyM R = 0 := fun j => by
      show Dm j (.mk 1 W4.zero []) R = 0
      unfold Dm
      rw [dl_mk]
      rfl
    unfold Del
    rw [this, this, this, this, this, this]
    omega
  · split
    · exact lv0_up h
    · rename_i h1 h5
      have hgs : good (.mk 5 W4.zero [t]) := by have := good_star h.good; unfold starM at this; rw [if_neg h1, if_neg h5] at this; exact this
      have hsz : (RT.mk 5 W4.zero [t]).sz ≤ 2 := by have := h.sz; rw [sz_mk]; simp; omega
      refine ⟨hgs, by omega, fun e => by rw [null_mk] at e; simp at e, fun _ R => ?_⟩
      have h2 := lv0_any h (.mk 5 W4.zero [t] :: R)
      have h3 := psi_seq hgs R
      have h4 : seqOf (.mk 5 W4.zero [t]) = [.mk 5 W4.zero [t]] := rfl
      rw [h4] at h3
      have h3 : Psi (.mk 5 W4.zero [t] :: R) ≤ _ := h3
      have h5 := del_star W4.zero t R
      omega
theorem lv0_cat3 {a b c : RT} (ha : Lv 1 3435973632 64 0 0 a) (hb : Lv 1 3435973632 64 0 0 b) (hc : Lv 1 3435973632 64 0 0 c) : Lv 5 6093484621 73 5955687767 69 (catM [a, b, c]) := by
  have hg : ∀ t ∈ [a, b, c], good t := by
    intro t ht
    simp at ht
    rcases ht with rfl | rfl | rfl
    · exact ha.good
    · exact hb.good
    · exact hc.good
  have hs := sz_cat [a, b, c]
  have s1 := ha.sz
  have s2 := hb.sz
  have s3 := hc.sz
  simp only [List.map_cons, List.map_nil, List.sum_cons, List.sum_nil] at hs
  have hn := null_cat hg
  simp only [List.all_cons, List.all_nil, Bool.and_true] at hn
  have key : ∀ R, ∃ P2 P3 D1 D2 D3 P : Nat, P = Psi R ∧ P3 ≤ 16777216 + D3 + P ∧ P2 ≤ 16777216 + D2 + P3 ∧ 1024 * D1 ≤ 3435973632 + 64 * P2 ∧ 1024 * D2 ≤ 3435973632 + 64 * P3 ∧ 1024 * D3 ≤ 3435973632 + 64 * P ∧ (nullM a = true → 1024 * D1 ≤ 0 + 0 * P2) ∧ (nullM b = true → 1024 * D2 ≤ 0 + 0 * P3) ∧ (nullM c = true → 1024 * D3 ≤ 0 + 0 * P) ∧
      (nullM a = false → 1024 * D1 ≤ 3435973632 + 64 * P2) ∧ (nullM b = false → 1024 * D2 ≤ 3435973632 + 64 * P3) ∧ (nullM c = false → 1024 * D3 ≤ 3435973632 + 64 * P) ∧ Del (catM [a, b, c]) R ≤ D1 + (if nullM a then D2 + (if nullM b then D3 else 0) else 0) := fun R => by
    refine ⟨Psi (fl [b, c] ++ R), Psi (fl [c] ++ R), Del a (fl [b, c] ++ R), Del b (fl [c] ++ R), Del c R, Psi R, rfl, ?_, ?_, lv0_any ha _, lv0_any hb _, lv0_any hc _, fun e => ha.nu e _, fun e => hb.nu e _, fun e => hc.nu e _, fun e => ha.nn e _, fun e => hb.nn e _, fun e => hc.nn e _, ?_⟩
    · have h := psi_seq hc.good R
      have e : fl [c] ++ R = seqOf c ++ R := by simp [fl]
      rw [e]
      omega
    · have h := psi_seq hb.good (fl [c] ++ R)
      have e : fl [b, c] ++ R = seqOf b ++ (fl [c] ++ R) := by simp [fl]
      rw [e]
      omega
    · have h := del_cat hg R
      simp only [DelL] at h
      have e : Del c (fl [] ++ R) = Del c R := by simp [fl]
      rw [e] at h
      revert h
      cases nullM a <;> cases nullM b <;> cases nullM c <;> (intro h; simp at h ⊢; omega)
  refine ⟨good_cat hg, by omega, fun e R => ?_, fun e R => ?_⟩
  · obtain ⟨P2, P3, D1, D2, D3, P, hP, h1, h2, h3, h4, h5, h6, h7, h8, h9, h10, h11, h12⟩ := key R
    rw [← hP]
    rw [e] at hn
    cases na : nullM a with
    | false =>
      have := h9 na
      rw [na] at h12
      simp at h12
      clear h6 h7 h8 h9 h10 h11 h3
      omega
    | true =>
      cases nb : nullM b with
      | false =>
        have q1 := h6 na
        have q2 := h10 nb
        rw [na, nb] at h12
        simp at h12
        clear h6 h7 h8 h9 h10 h11 h3 h4
        omega
      | true =>
        have q1 := h6 na
        have q2 := h7 nb
        rw [na, nb] at hn h12
        have nc : nullM c = false := by simpa using hn.symm
        have q3 := h11 nc
        simp at h12
        clear h6 h7 h8 h9 h10 h11 h3 h4 h5
        omega
  · obtain ⟨P2, P3, D1, D2, D3, P, hP, h1, h2, h3, h4, h5, h6, h7, h8, h9, h10, h11, h12⟩ := key R
    rw [← hP]
    rw [e] at hn
    obtain ⟨na, nb, nc⟩ : nullM a = true ∧ nullM b = true ∧ nullM c = true := by simpa using hn.symm
    have q1 := h6 na
    have q2 := h7 nb
    have q3 := h8 nc
    rw [na, nb] at h12
    simp at h12
    clear h6 h7 h8 h9 h10 h11 h3 h4 h5
    omega

theorem lv1_any {t : RT} (h : Lv 5 6093484621 73 5955687767 69 t) (R : List RT) : 1024 * Del t R ≤ 6093484621 + 73 * Psi R := by
  cases e : nullM t with
  | true => have := h.nu e R; omega
  | false => have := h.nn e R; omega
theorem lv1_up {t : RT} (h : Lv 5 6093484621 73 5955687767 69 t) : Lv 17 37042969165 227 36852477422 222 t :=
  ⟨h.good, by have := h.sz; omega, fun e R => by have := h.nn e R; omega, fun e R => by have := h.nu e R; omega⟩
theorem lv1_star {t : RT} (h : Lv 5 6093484621 73 5955687767 69 t) : Lv 17 37042969165 227 36852477422 222 (starM t) := by
  unfold starM
  split
  · refine ⟨good_empty, by show (RT.mk 1 W4.zero []).sz ≤ _; rw [sz_mk]; simp, fun e => by have e : nullM (.mk 1 W4.zero []) = false := e; rw [null_mk] at e; simp at e, fun _ R => ?_⟩
    have : ∀ j, Dm j emptyM R = 0 := fun j => by
      show Dm j (.mk 1 W4.zero []) R = 0
      unfold Dm
      rw [dl_mk]
      rfl
    unfold Del
    rw [this, this, this, this, this, this]
    omega
  · split
    · exact lv1_up h
    · rename_i h1 h5
      have hgs : good (.mk 5 W4.zero [t]) := by have := good_star h.good; unfold starM at this; rw [if_neg h1, if_neg h5] at this; exact this
      have hsz : (RT.mk 5 W4.zero [t]).sz ≤ 6 := by have := h.sz; rw [sz_mk]; simp; omega
      refine ⟨hgs, by omega, fun e => by rw [null_mk] at e; simp at e, fun _ R => ?_⟩
      have h2 := lv1_any h (.mk 5 W4.zero [t] :: R)
      have h3 := psi_seq hgs R
      have h4 : seqOf (.mk 5 W4.zero [t]) = [.mk 5 W4.zero [t]] := rfl
      rw [h4] at h3
      have h3 : Psi (.mk 5 W4.zero [t] :: R) ≤ _ := h3
      have h5 := del_star W4.zero t R
      omega
theorem lv1_cat3 {a b c : RT} (ha : Lv 5 6093484621 73 5955687767 69 a) (hb : Lv 5 6093484621 73 5955687767 69 b) (hc : Lv 5 6093484621 73 5955687767 69 c) : Lv 17 37042969165 227 36852477422 222 (catM [a, b, c]) := by
  have hg : ∀ t ∈ [a, b, c], good t := by
    intro t ht
    simp at ht
    rcases ht with rfl | rfl | rfl
    · exact ha.good
    · exact hb.good
    · exact hc.good
  have hs := sz_cat [a, b, c]
  have s1 := ha.sz
  have s2 := hb.sz
  have s3 := hc.sz
  simp only [List.map_cons, List.map_nil, List.sum_cons, List.sum_nil] at hs
  have hn := null_cat hg
  simp only [List.all_cons, List.all_nil, Bool.and_true] at hn
  have key : ∀ R, ∃ P2 P3 D1 D2 D3 P : Nat, P = Psi R ∧ P3 ≤ 83886080 + D3 + P ∧ P2 ≤ 83886080 + D2 + P3 ∧ 1024 * D1 ≤ 6093484621 + 73 * P2 ∧ 1024 * D2 ≤ 6093484621 + 73 * P3 ∧ 1024 * D3 ≤ 6093484621 + 73 * P ∧ (nullM a = true → 1024 * D1 ≤ 5955687767 + 69 * P2) ∧ (nullM b = true → 1024 * D2 ≤ 5955687767 + 69 * P3) ∧ (nullM c = true → 1024 * D3 ≤ 5955687767 + 69 * P) ∧
      (nullM a = false → 1024 * D1 ≤ 6093484621 + 73 * P2) ∧ (nullM b = false → 1024 * D2 ≤ 6093484621 + 73 * P3) ∧ (nullM c = false → 1024 * D3 ≤ 6093484621 + 73 * P) ∧ Del (catM [a, b, c]) R ≤ D1 + (if nullM a then D2 + (if nullM b then D3 else 0) else 0) := fun R => by
    refine ⟨Psi (fl [b, c] ++ R), Psi (fl [c] ++ R), Del a (fl [b, c] ++ R), Del b (fl [c] ++ R), Del c R, Psi R, rfl, ?_, ?_, lv1_any ha _, lv1_any hb _, lv1_any hc _, fun e => ha.nu e _, fun e => hb.nu e _, fun e => hc.nu e _, fun e => ha.nn e _, fun e => hb.nn e _, fun e => hc.nn e _, ?_⟩
    · have h := psi_seq hc.good R
      have e : fl [c] ++ R = seqOf c ++ R := by simp [fl]
      rw [e]
      omega
    · have h := psi_seq hb.good (fl [c] ++ R)
      have e : fl [b, c] ++ R = seqOf b ++ (fl [c] ++ R) := by simp [fl]
      rw [e]
      omega
    · have h := del_cat hg R
      simp only [DelL] at h
      have e : Del c (fl [] ++ R) = Del c R := by simp [fl]
      rw [e] at h
      revert h
      cases nullM a <;> cases nullM b <;> cases nullM c <;> (intro h; simp at h ⊢; omega)
  refine ⟨good_cat hg, by omega, fun e R => ?_, fun e R => ?_⟩
  · obtain ⟨P2, P3, D1, D2, D3, P, hP, h1, h2, h3, h4, h5, h6, h7, h8, h9, h10, h11, h12⟩ := key R
    rw [← hP]
    rw [e] at hn
    cases na : nullM a with
    | false =>
      have := h9 na
      rw [na] at h12
      simp at h12
      clear h6 h7 h8 h9 h10 h11 h3
      omega
    | true =>
      cases nb : nullM b with
      | false =>
        have q1 := h6 na
        have q2 := h10 nb
        rw [na, nb] at h12
        simp at h12
        clear h6 h7 h8 h9 h10 h11 h3 h4
        omega
      | true =>
        have q1 := h6 na
        have q2 := h7 nb
        rw [na, nb] at hn h12
        have nc : nullM c = false := by simpa using hn.symm
        have q3 := h11 nc
        simp at h12
        clear h6 h7 h8 h9 h10 h11 h3 h4 h5
        omega
  · obtain ⟨P2, P3, D1, D2, D3, P, hP, h1, h2, h3, h4, h5, h6, h7, h8, h9, h10, h11, h12⟩ := key R
    rw [← hP]
    rw [e] at hn
    obtain ⟨na, nb, nc⟩ : nullM a = true ∧ nullM b = true ∧ nullM c = true := by simpa using hn.symm
    have q1 := h6 na
    have q2 := h7 nb
    have q3 := h8 nc
    rw [na, nb] at h12
    simp at h12
    clear h6 h7 h8 h9 h10 h11 h3 h4 h5
    omega

theorem lv2_any {t : RT} (h : Lv 17 37042969165 227 36852477422 222 t) (R : List RT) : 1024 * Del t R ≤ 37042969165 + 227 * Psi R := by
  cases e : nullM t with
  | true => have := h.nu e R; omega
  | false => have := h.nn e R; omega
theorem lv2_up {t : RT} (h : Lv 17 37042969165 227 36852477422 222 t) : Lv 53 340608368686 830 339936650648 821 t :=
  ⟨h.good, by have := h.sz; omega, fun e R => by have := h.nn e R; omega, fun e R => by have := h.nu e R; omega⟩
theorem lv2_star {t : RT} (h : Lv 17 37042969165 227 36852477422 222 t) : Lv 53 340608368686 830 339936650648 821 (starM t) := by
  unfold starM
  split
  · refine ⟨good_empty, by show (RT.mk 1 W4.zero []).sz ≤ _; rw [sz_mk]; simp, fun e => by have e : nullM (.mk 1 W4.zero []) = false := e; rw [null_mk] at e; simp at e, fun _ R => ?_⟩
    have : ∀ j, Dm j emptyM R = 0 := fun j => by
      show Dm j (.mk 1 W4.zero []) R = 0
      unfold Dm
      rw [dl_mk]
      rfl
    unfold Del
    rw [this, this, this, this, this, this]
    omega
  · split
    · exact lv2_up h
    · rename_i h1 h5
      have hgs : good (.mk 5 W4.zero [t]) := by have := good_star h.good; unfold starM at this; rw [if_neg h1, if_neg h5] at this; exact this
      have hsz : (RT.mk 5 W4.zero [t]).sz ≤ 18 := by have := h.sz; rw [sz_mk]; simp; omega
      refine ⟨hgs, by omega, fun e => by rw [null_mk] at e; simp at e, fun _ R => ?_⟩
      have h2 := lv2_any h (.mk 5 W4.zero [t] :: R)
      have h3 := psi_seq hgs R
      have h4 : seqOf (.mk 5 W4.zero [t]) = [.mk 5 W4.zero [t]] := rfl
      rw [h4] at h3
      have h3 : Psi (.mk 5 W4.zero [t] :: R) ≤ _ := h3
      have h5 := del_star W4.zero t R
      omega
theorem lv2_cat3 {a b c : RT} (ha : Lv 17 37042969165 227 36852477422 222 a) (hb : Lv 17 37042969165 227 36852477422 222 b) (hc : Lv 17 37042969165 227 36852477422 222 c) : Lv 53 340608368686 830 339936650648 821 (catM [a, b, c]) := by
  have hg : ∀ t ∈ [a, b, c], good t := by
    intro t ht
    simp at ht
    rcases ht with rfl | rfl | rfl
    · exact ha.good
    · exact hb.good
    · exact hc.good
  have hs := sz_cat [a, b, c]
  have s1 := ha.sz
  have s2 := hb.sz
  have s3 := hc.sz
  simp only [List.map_cons, List.map_nil, List.sum_cons, List.sum_nil] at hs
  have hn := null_cat hg
  simp only [List.all_cons, List.all_nil, Bool.and_true] at hn
  have key : ∀ R, ∃ P2 P3 D1 D2 D3 P : Nat, P = Psi R ∧ P3 ≤ 285212672 + D3 + P ∧ P2 ≤ 285212672 + D2 + P3 ∧ 1024 * D1 ≤ 37042969165 + 227 * P2 ∧ 1024 * D2 ≤ 37042969165 + 227 * P3 ∧ 1024 * D3 ≤ 37042969165 + 227 * P ∧ (nullM a = true → 1024 * D1 ≤ 36852477422 + 222 * P2) ∧ (nullM b = true → 1024 * D2 ≤ 36852477422 + 222 * P3) ∧ (nullM c = true → 1024 * D3 ≤ 36852477422 + 222 * P) ∧
      (nullM a = false → 1024 * D1 ≤ 37042969165 + 227 * P2) ∧ (nullM b = false → 1024 * D2 ≤ 37042969165 + 227 * P3) ∧ (nullM c = false → 1024 * D3 ≤ 37042969165 + 227 * P) ∧ Del (catM [a, b, c]) R ≤ D1 + (if nullM a then D2 + (if nullM b then D3 else 0) else 0) := fun R => by
    refine ⟨Psi (fl [b, c] ++ R), Psi (fl [c] ++ R), Del a (fl [b, c] ++ R), Del b (fl [c] ++ R), Del c R, Psi R, rfl, ?_, ?_, lv2_any ha _, lv2_any hb _, lv2_any hc _, fun e => ha.nu e _, fun e => hb.nu e _, fun e => hc.nu e _, fun e => ha.nn e _, fun e => hb.nn e _, fun e => hc.nn e _, ?_⟩
    · have h := psi_seq hc.good R
      have e : fl [c] ++ R = seqOf c ++ R := by simp [fl]
      rw [e]
      omega
    · have h := psi_seq hb.good (fl [c] ++ R)
      have e : fl [b, c] ++ R = seqOf b ++ (fl [c] ++ R) := by simp [fl]
      rw [e]
      omega
    · have h := del_cat hg R
      simp only [DelL] at h
      have e : Del c (fl [] ++ R) = Del c R := by simp [fl]
      rw [e] at h
      revert h
      cases nullM a <;> cases nullM b <;> cases nullM c <;> (intro h; simp at h ⊢; omega)
  refine ⟨good_cat hg, by omega, fun e R => ?_, fun e R => ?_⟩
  · obtain ⟨P2, P3, D1, D2, D3, P, hP, h1, h2, h3, h4, h5, h6, h7, h8, h9, h10, h11, h12⟩ := key R
    rw [← hP]
    rw [e] at hn
    cases na : nullM a with
    | false =>
      have := h9 na
      rw [na] at h12
      simp at h12
      clear h6 h7 h8 h9 h10 h11 h3
      omega
    | true =>
      cases nb : nullM b with
      | false =>
        have q1 := h6 na
        have q2 := h10 nb
        rw [na, nb] at h12
        simp at h12
        clear h6 h7 h8 h9 h10 h11 h3 h4
        omega
      | true =>
        have q1 := h6 na
        have q2 := h7 nb
        rw [na, nb] at hn h12
        have nc : nullM c = false := by simpa using hn.symm
        have q3 := h11 nc
        simp at h12
        clear h6 h7 h8 h9 h10 h11 h3 h4 h5
        omega
  · obtain ⟨P2, P3, D1, D2, D3, P, hP, h1, h2, h3, h4, h5, h6, h7, h8, h9, h10, h11, h12⟩ := key R
    rw [← hP]
    rw [e] at hn
    obtain ⟨na, nb, nc⟩ : nullM a = true ∧ nullM b = true ∧ nullM c = true := by simpa using hn.symm
    have q1 := h6 na
    have q2 := h7 nb
    have q3 := h8 nc
    rw [na, nb] at h12
    simp at h12
    clear h6 h7 h8 h9 h10 h11 h3 h4 h5
    omega

theorem lv3_any {t : RT} (h : Lv 53 340608368686 830 339936650648 821 t) (R : List RT) : 1024 * Del t R ≤ 340608368686 + 830 * Psi R := by
  cases e : nullM t with
  | true => have := h.nu e R; omega
  | false => have := h.nn e R; omega
theorem lv3_up {t : RT} (h : Lv 53 340608368686 830 339936650648 821 t) : Lv 161 4842888568831 5008 5766931476091 4966 t :=
  ⟨h.good, by have := h.sz; omega, fun e R => by have := h.nn e R; omega, fun e R => by have := h.nu e R; omega⟩
theorem lv3_star {t : RT} (h : Lv 53 340608368686 830 339936650648 821 t) : Lv 161 4842888568831 5008 5766931476091 4966 (starM t) := by
  unfold starM
  split
  · refine ⟨good_empty, by show (RT.mk 1 W4.zero []).sz ≤ _; rw [sz_mk]; simp, fun e => by have e : nullM (.mk 1 W4.zero []) = false := e; rw [null_mk] at e; simp at e, fun _ R => ?_⟩
    have : ∀ j, Dm j emptyM R = 0 := fun j => by
      show Dm j (.mk 1 W4.zero []) R = 0
      unfold Dm
      rw [dl_mk]
      rfl
    unfold Del
    rw [this, this, this, this, this, this]
    omega
  · split
    · exact lv3_up h
    · rename_i h1 h5
      have hgs : good (.mk 5 W4.zero [t]) := by have := good_star h.good; unfold starM at this; rw [if_neg h1, if_neg h5] at this; exact this
      have hsz : (RT.mk 5 W4.zero [t]).sz ≤ 54 := by have := h.sz; rw [sz_mk]; simp; omega
      refine ⟨hgs, by omega, fun e => by rw [null_mk] at e; simp at e, fun _ R => ?_⟩
      have h2 := lv3_any h (.mk 5 W4.zero [t] :: R)
      have h3 := psi_seq hgs R
      have h4 : seqOf (.mk 5 W4.zero [t]) = [.mk 5 W4.zero [t]] := rfl
      rw [h4] at h3
      have h3 : Psi (.mk 5 W4.zero [t] :: R) ≤ _ := h3
      have h5 := del_star W4.zero t R
      omega
theorem lv3_cat3 {a b c : RT} (ha : Lv 53 340608368686 830 339936650648 821 a) (hb : Lv 53 340608368686 830 339936650648 821 b) (hc : Lv 53 340608368686 830 339936650648 821 c) : Lv 161 4842888568831 5008 5766931476091 4966 (catM [a, b, c]) := by
  have hg : ∀ t ∈ [a, b, c], good t := by
    intro t ht
    simp at ht
    rcases ht with rfl | rfl | rfl
    · exact ha.good
    · exact hb.good
    · exact hc.good
  have hs := sz_cat [a, b, c]
  have s1 := ha.sz
  have s2 := hb.sz
  have s3 := hc.sz
  simp only [List.map_cons, List.map_nil, List.sum_cons, List.sum_nil] at hs
  have hn := null_cat hg
  simp only [List.all_cons, List.all_nil, Bool.and_true] at hn
  have key : ∀ R, ∃ P2 P3 D1 D2 D3 P : Nat, P = Psi R ∧ P3 ≤ 889192448 + D3 + P ∧ P2 ≤ 889192448 + D2 + P3 ∧ 1024 * D1 ≤ 340608368686 + 830 * P2 ∧ 1024 * D2 ≤ 340608368686 + 830 * P3 ∧ 1024 * D3 ≤ 340608368686 + 830 * P ∧ (nullM a = true → 1024 * D1 ≤ 339936650648 + 821 * P2) ∧ (nullM b = true → 1024 * D2 ≤ 339936650648 + 821 * P3) ∧ (nullM c = true → 1024 * D3 ≤ 339936650648 + 821 * P) ∧
      (nullM a = false → 1024 * D1 ≤ 340608368686 + 830 * P2) ∧ (nullM b = false → 1024 * D2 ≤ 340608368686 + 830 * P3) ∧ (nullM c = false → 1024 * D3 ≤ 340608368686 + 830 * P) ∧ Del (catM [a, b, c]) R ≤ D1 + (if nullM a then D2 + (if nullM b then D3 else 0) else 0) := fun R => by
    refine ⟨Psi (fl [b, c] ++ R), Psi (fl [c] ++ R), Del a (fl [b, c] ++ R), Del b (fl [c] ++ R), Del c R, Psi R, rfl, ?_, ?_, lv3_any ha _, lv3_any hb _, lv3_any hc _, fun e => ha.nu e _, fun e => hb.nu e _, fun e => hc.nu e _, fun e => ha.nn e _, fun e => hb.nn e _, fun e => hc.nn e _, ?_⟩
    · have h := psi_seq hc.good R
      have e : fl [c] ++ R = seqOf c ++ R := by simp [fl]
      rw [e]
      omega
    · have h := psi_seq hb.good (fl [c] ++ R)
      have e : fl [b, c] ++ R = seqOf b ++ (fl [c] ++ R) := by simp [fl]
      rw [e]
      omega
    · have h := del_cat hg R
      simp only [DelL] at h
      have e : Del c (fl [] ++ R) = Del c R := by simp [fl]
      rw [e] at h
      revert h
      cases nullM a <;> cases nullM b <;> cases nullM c <;> (intro h; simp at h ⊢; omega)
  refine ⟨good_cat hg, by omega, fun e R => ?_, fun e R => ?_⟩
  · obtain ⟨P2, P3, D1, D2, D3, P, hP, h1, h2, h3, h4, h5, h6, h7, h8, h9, h10, h11, h12⟩ := key R
    rw [← hP]
    rw [e] at hn
    cases na : nullM a with
    | false =>
      have := h9 na
      rw [na] at h12
      simp at h12
      clear h6 h7 h8 h9 h10 h11 h3
      omega
    | true =>
      cases nb : nullM b with
      | false =>
        have q1 := h6 na
        have q2 := h10 nb
        rw [na, nb] at h12
        simp at h12
        clear h6 h7 h8 h9 h10 h11 h3 h4
        omega
      | true =>
        have q1 := h6 na
        have q2 := h7 nb
        rw [na, nb] at hn h12
        have nc : nullM c = false := by simpa using hn.symm
        have q3 := h11 nc
        simp at h12
        clear h6 h7 h8 h9 h10 h11 h3 h4 h5
        omega
  · obtain ⟨P2, P3, D1, D2, D3, P, hP, h1, h2, h3, h4, h5, h6, h7, h8, h9, h10, h11, h12⟩ := key R
    rw [← hP]
    rw [e] at hn
    obtain ⟨na, nb, nc⟩ : nullM a = true ∧ nullM b = true ∧ nullM c = true := by simpa using hn.symm
    have q1 := h6 na
    have q2 := h7 nb
    have q3 := h8 nc
    rw [na, nb] at h12
    simp at h12
    clear h6 h7 h8 h9 h10 h11 h3 h4 h5
    omega
theorem lv0_cat1 {a : RT} (ha : Lv 1 3435973632 64 0 0 a) : Lv 5 6093484621 73 5955687767 69 (catM [a]) := by
  have hg : ∀ t ∈ [a], good t := by
    intro t ht
    simp at ht
    subst ht
    exact ha.good
  have hs := sz_cat [a]
  have s1 := ha.sz
  simp only [List.map_cons, List.map_nil, List.sum_cons, List.sum_nil] at hs
  have hn := null_cat hg
  simp only [List.all_cons, List.all_nil, Bool.and_true] at hn
  have key : ∀ R, Del (catM [a]) R ≤ Del a R := fun R => by
    have h := del_cat hg R
    simp only [DelL] at h
    have e : Del a (fl [] ++ R) = Del a R := by simp [fl]
    rw [e] at h
    revert h
    cases nullM a <;> (intro h; simp at h ⊢; omega)
  refine ⟨good_cat hg, by omega, fun e R => ?_, fun e R => ?_⟩
  · rw [hn] at e
    have h1 := ha.nn e R
    have h2 := key R
    omega
  · rw [hn] at e
    have h1 := ha.nu e R
    have h2 := key R
    omega
theorem lv0_cat2 {b c : RT} (hb : Lv 1 3435973632 64 0 0 b) (hc : Lv 1 3435973632 64 0 0 c) : Lv 5 6093484621 73 5955687767 69 (catM [b, c]) := by
  have hg : ∀ t ∈ [b, c], good t := by
    intro t ht
    simp at ht
    rcases ht with rfl | rfl
    · exact hb.good
    · exact hc.good
  have hs := sz_cat [b, c]
  have s2 := hb.sz
  have s3 := hc.sz
  simp only [List.map_cons, List.map_nil, List.sum_cons, List.sum_nil] at hs
  have hn := null_cat hg
  simp only [List.all_cons, List.all_nil, Bool.and_true] at hn
  have key : ∀ R, ∃ P3 D2 D3 P : Nat, P = Psi R ∧ P3 ≤ 16777216 + D3 + P ∧ 1024 * D2 ≤ 3435973632 + 64 * P3 ∧ 1024 * D3 ≤ 3435973632 + 64 * P ∧ (nullM b = true → 1024 * D2 ≤ 0 + 0 * P3) ∧ (nullM c = true → 1024 * D3 ≤ 0 + 0 * P) ∧
      (nullM b = false → 1024 * D2 ≤ 3435973632 + 64 * P3) ∧ (nullM c = false → 1024 * D3 ≤ 3435973632 + 64 * P) ∧ Del (catM [b, c]) R ≤ D2 + (if nullM b then D3 else 0) := fun R => by
    refine ⟨Psi (fl [c] ++ R), Del b (fl [c] ++ R), Del c R, Psi R, rfl, ?_, lv0_any hb _, lv0_any hc _, fun e => hb.nu e _, fun e => hc.nu e _, fun e => hb.nn e _, fun e => hc.nn e _, ?_⟩
    · have h := psi_seq hc.good R
      have e : fl [c] ++ R = seqOf c ++ R := by simp [fl]
      rw [e]
      omega
    · have h := del_cat hg R
      simp only [DelL] at h
      have e : Del c (fl [] ++ R) = Del c R := by simp [fl]
      rw [e] at h
      revert h
      cases nullM b <;> cases nullM c <;> (intro h; simp at h ⊢; omega)
  refine ⟨good_cat hg, by omega, fun e R => ?_, fun e R => ?_⟩
  · obtain ⟨P3, D2, D3, P, hP, h1, h4, h5, h7, h8, h10, h11, h12⟩ := key R
    rw [← hP]
    rw [e] at hn
    cases nb : nullM b with
    | false =>
      have q2 := h10 nb
      rw [nb] at h12
      simp at h12
      clear h7 h8 h10 h11 h4
      omega
    | true =>
      have q2 := h7 nb
      rw [nb] at hn h12
      have nc : nullM c = false := by simpa using hn.symm
      have q3 := h11 nc
      simp at h12
      clear h7 h8 h10 h11 h4 h5
      omega
  · obtain ⟨P3, D2, D3, P, hP, h1, h4, h5, h7, h8, h10, h11, h12⟩ := key R
    rw [← hP]
    rw [e] at hn
    obtain ⟨nb, nc⟩ : nullM b = true ∧ nullM c = true := by simpa using hn.symm
    have q2 := h7 nb
    have q3 := h8 nc
    rw [nb] at h12
    simp at h12
    clear h7 h8 h10 h11 h4 h5
    omega
theorem lv0_cats {l : List RT} (h : ∀ t ∈ l, Lv 1 3435973632 64 0 0 t) (h1 : 1 ≤ l.length) (h3 : l.length ≤ 3) : Lv 5 6093484621 73 5955687767 69 (catM l) := by
  match l with
  | [] => simp at h1
  | [a] => exact lv0_cat1 (h a (by simp))
  | [a, b] => exact lv0_cat2 (h a (by simp)) (h b (by simp))
  | [a, b, c] => exact lv0_cat3 (h a (by simp)) (h b (by simp)) (h c (by simp))
  | _ :: _ :: _ :: _ :: _ => simp at h3
theorem lv0_eithers {l : List RT} (h : ∀ t ∈ l, Lv 1 3435973632 64 0 0 t) (hk : ∀ t ∈ l, t.kind ≤ 2 ∧ 0 ≤ t.kind) (h3 : l.length ≤ 3) : Lv 5 6093484621 73 5955687767 69 (eitherM l) := by
  have hs := sz_either l
  have hs2 : (l.map RT.sz).sum ≤ l.length * 1 := by
    clear hs h3 hk
    induction l with
    | nil => simp
    | cons a l ih =>
      have h1 := ih fun t ht => h t (by simp [ht])
      have h2 := (h a (by simp)).sz
      simp only [List.map_cons, List.sum_cons, List.length_cons]
      omega
  refine ⟨good_either fun t ht => (h t ht).good, by omega, fun _ R => ?_, fun _ R => ?_⟩
  · have := del_leaves hk R; omega
  · have := del_leaves hk R; omega
theorem lv1_cat1 {a : RT} (ha : Lv 5 6093484621 73 5955687767 69 a) : Lv 17 37042969165 227 36852477422 222 (catM [a]) := by
  have hg : ∀ t ∈ [a], good t := by
    intro t ht
    simp at ht
    subst ht
    exact ha.good
  have hs := sz_cat [a]
  have s1 := ha.sz
  simp only [List.map_cons, List.map_nil, List.sum_cons, List.sum_nil] at hs
  have hn := null_cat hg
  simp only [List.all_cons, List.all_nil, Bool.and_true] at hn
  have key : ∀ R, Del (catM [a]) R ≤ Del a R := fun R => by
    have h := del_cat hg R
    simp only [DelL] at h
    have e : Del a (fl [] ++ R) = Del a R := by simp [fl]
    rw [e] at h
    revert h
    cases nullM a <;> (intro h; simp at h ⊢; omega)
  refine ⟨good_cat hg, by omega, fun e R => ?_, fun e R => ?_⟩
  · rw [hn] at e
    have h1 := ha.nn e R
    have h2 := key R
    omega
  · rw [hn] at e
    have h1 := ha.nu e R
    have h2 := key R
    omega
theorem lv1_cat2 {b c : RT} (hb : Lv 5 6093484621 73 5955687767 69 b) (hc : Lv 5 6093484621 73 5955687767 69 c) : Lv 17 37042969165 227 36852477422 222 (catM [b, c]) := by
  have hg : ∀ t ∈ [b, c], good t := by
    intro t ht
    simp at ht
    rcases ht with rfl | rfl
    · exact hb.good
    · exact hc.good
  have hs := sz_cat [b, c]
  have s2 := hb.sz
  have s3 := hc.sz
  simp only [List.map_cons, List.map_nil, List.sum_cons, List.sum_nil] at hs
  have hn := null_cat hg
  simp only [List.all_cons, List.all_nil, Bool.and_true] at hn
  have key : ∀ R, ∃ P3 D2 D3 P : Nat, P = Psi R ∧ P3 ≤ 83886080 + D3 + P ∧ 1024 * D2 ≤ 6093484621 + 73 * P3 ∧ 1024 * D3 ≤ 6093484621 + 73 * P ∧ (nullM b = true → 1024 * D2 ≤ 5955687767 + 69 * P3) ∧ (nullM c = true → 1024 * D3 ≤ 5955687767 + 69 * P) ∧
      (nullM b = false → 1024 * D2 ≤ 6093484621 + 73 * P3) ∧ (nullM c = false → 1024 * D3 ≤ 6093484621 + 73 * P) ∧ Del (catM [b, c]) R ≤ D2 + (if nullM b then D3 else 0) := fun R => by
    refine ⟨Psi (fl [c] ++ R), Del b (fl [c] ++ R), Del c R, Psi R, rfl, ?_, lv1_any hb _, lv1_any hc _, fun e => hb.nu e _, fun e => hc.nu e _, fun e => hb.nn e _, fun e => hc.nn e _, ?_⟩
    · have h := psi_seq hc.good R
      have e : fl [c] ++ R = seqOf c ++ R := by simp [fl]
      rw [e]
      omega
    · have h := del_cat hg R
      simp only [DelL] at h
      have e : Del c (fl [] ++ R) = Del c R := by simp [fl]
      rw [e] at h
      revert h
      cases nullM b <;> cases nullM c <;> (intro h; simp at h ⊢; omega)
  refine ⟨good_cat hg, by omega, fun e R => ?_, fun e R => ?_⟩
  · obtain ⟨P3, D2, D3, P, hP, h1, h4, h5, h7, h8, h10, h11, h12⟩ := key R
    rw [← hP]
    rw [e] at hn
    cases nb : nullM b with
    | false =>
      have q2 := h10 nb
      rw [nb] at h12
      simp at h12
      clear h7 h8 h10 h11 h4
      omega
    | true =>
      have q2 := h7 nb
      rw [nb] at hn h12
      have nc : nullM c = false := by simpa using hn.symm
      have q3 := h11 nc
      simp at h12
      clear h7 h8 h10 h11 h4 h5
      omega
  · obtain ⟨P3, D2, D3, P, hP, h1, h4, h5, h7, h8, h10, h11, h12⟩ := key R
    rw [← hP]
    rw [e] at hn
    obtain ⟨nb, nc⟩ : nullM b = true ∧ nullM c = true := by simpa using hn.symm
    have q2 := h7 nb
    have q3 := h8 nc
    rw [nb] at h12
    simp at h12
    clear h7 h8 h10 h11 h4 h5
    omega
theorem lv1_cats {l : List RT} (h : ∀ t ∈ l, Lv 5 6093484621 73 5955687767 69 t) (h1 : 1 ≤ l.length) (h3 : l.length ≤ 3) : Lv 17 37042969165 227 36852477422 222 (catM l) := by
  match l with
  | [] => simp at h1
  | [a] => exact lv1_cat1 (h a (by simp))
  | [a, b] => exact lv1_cat2 (h a (by simp)) (h b (by simp))
  | [a, b, c] => exact lv1_cat3 (h a (by simp)) (h b (by simp)) (h c (by simp))
  | _ :: _ :: _ :: _ :: _ => simp at h3
theorem lv1_eithers {l : List RT} (h : ∀ t ∈ l, Lv 5 6093484621 73 5955687767 69 t) (h3 : l.length ≤ 3) : Lv 17 37042969165 227 36852477422 222 (eitherM l) := by
  have hs := sz_either l
  have hs2 : (l.map RT.sz).sum ≤ l.length * 5 := by
    clear hs h3
    induction l with
    | nil => simp
    | cons a l ih =>
      have h1 := ih fun t ht => h t (by simp [ht])
      have h2 := (h a (by simp)).sz
      simp only [List.map_cons, List.sum_cons, List.length_cons]
      omega
  have hd : ∀ R, 1024 * Del (eitherM l) R ≤ 3 * (6093484621 + 73 * Psi R) := fun R => by
    have h1 := del_either l R
    have h2 : 1024 * (l.map fun x => Del x R).sum ≤ l.length * (6093484621 + 73 * Psi R) := by
      clear h1 hs hs2 h3
      induction l with
      | nil => simp
      | cons a l ih =>
        have i1 := ih fun t ht => h t (by simp [ht])
        have i2 := lv1_any (h a (by simp)) R
        simp only [List.map_cons, List.sum_cons, List.length_cons, Nat.add_mul, Nat.one_mul]
        omega
    have h4 : l.length * (6093484621 + 73 * Psi R) ≤ 3 * (6093484621 + 73 * Psi R) := Nat.mul_le_mul_right _ h3
    omega
  refine ⟨good_either fun t ht => (h t ht).good, by omega, fun _ R => ?_, fun _ R => ?_⟩
  · have := hd R; omega
  · have := hd R; omega
theorem lv2_cat1 {a : RT} (ha : Lv 17 37042969165 227 36852477422 222 a) : Lv 53 340608368686 830 339936650648 821 (catM [a]) := by
  have hg : ∀ t ∈ [a], good t := by
    intro t ht
    simp at ht
    subst ht
    exact ha.good
  have hs := sz_cat [a]
  have s1 := ha.sz
  simp only [List.map_cons, List.map_nil, List.sum_cons, List.sum_nil] at hs
  have hn := null_cat hg
  simp only [List.all_cons, List.all_nil, Bool.and_true] at hn
  have key : ∀ R, Del (catM [a]) R ≤ Del a R := fun R => by
    have h := del_cat hg R
    simp only [DelL] at h
    have e : Del a (fl [] ++ R) = Del a R := by simp [fl]
    rw [e] at h
    revert h
    cases nullM a <;> (intro h; simp at h ⊢; omega)
  refine ⟨good_cat hg, by omega, fun e R => ?_, fun e R => ?_⟩
  · rw [hn] at e
    have h1 := ha.nn e R
    have h2 := key R
    omega
  · rw [hn] at e
    have h1 := ha.nu e R
    have h2 := key R
    omega
theorem lv2_cat2 {b c : RT} (hb : Lv 17 37042969165 227 36852477422 222 b) (hc : Lv 17 37042969165 227 36852477422 222 c) : Lv 53 340608368686 830 339936650648 821 (catM [b, c]) := by
  have hg : ∀ t ∈ [b, c], good t := by
    intro t ht
    simp at ht
    rcases ht with rfl | rfl
    · exact hb.good
    · exact hc.good
  have hs := sz_cat [b, c]
  have s2 := hb.sz
  have s3 := hc.sz
  simp only [List.map_cons, List.map_nil, List.sum_cons, List.sum_nil] at hs
  have hn := null_cat hg
  simp only [List.all_cons, List.all_nil, Bool.and_true] at hn
  have key : ∀ R, ∃ P3 D2 D3 P : Nat, P = Psi R ∧ P3 ≤ 285212672 + D3 + P ∧ 1024 * D2 ≤ 37042969165 + 227 * P3 ∧ 1024 * D3 ≤ 37042969165 + 227 * P ∧ (nullM b = true → 1024 * D2 ≤ 36852477422 + 222 * P3) ∧ (nullM c = true → 1024 * D3 ≤ 36852477422 + 222 * P) ∧
      (nullM b = false → 1024 * D2 ≤ 37042969165 + 227 * P3) ∧ (nullM c = false → 1024 * D3 ≤ 37042969165 + 227 * P) ∧ Del (catM [b, c]) R ≤ D2 + (if nullM b then D3 else 0) := fun R => by
    refine ⟨Psi (fl [c] ++ R), Del b (fl [c] ++ R), Del c R, Psi R, rfl, ?_, lv2_any hb _, lv2_any hc _, fun e => hb.nu e _, fun e => hc.nu e _, fun e => hb.nn e _, fun e => hc.nn e _, ?_⟩
    · have h := psi_seq hc.good R
      have e : fl [c] ++ R = seqOf c ++ R := by simp [fl]
      rw [e]
      omega
    · have h := del_cat hg R
      simp only [DelL] at h
      have e : Del c (fl [] ++ R) = Del c R := by simp [fl]
      rw [e] at h
      revert h
      cases nullM b <;> cases nullM c <;> (intro h; simp at h ⊢; omega)
  refine ⟨good_cat hg, by omega, fun e R => ?_, fun e R => ?_⟩
  · obtain ⟨P3, D2, D3, P, hP, h1, h4, h5, h7, h8, h10, h11, h12⟩ := key R
    rw [← hP]
    rw [e] at hn
    cases nb : nullM b with
    | false =>
      have q2 := h10 nb
      rw [nb] at h12
      simp at h12
      clear h7 h8 h10 h11 h4
      omega
    | true =>
      have q2 := h7 nb
      rw [nb] at hn h12
      have nc : nullM c = false := by simpa using hn.symm
      have q3 := h11 nc
      simp at h12
      clear h7 h8 h10 h11 h4 h5
      omega
  · obtain ⟨P3, D2, D3, P, hP, h1, h4, h5, h7, h8, h10, h11, h12⟩ := key R
    rw [← hP]
    rw [e] at hn
    obtain ⟨nb, nc⟩ : nullM b = true ∧ nullM c = true := by simpa using hn.symm
    have q2 := h7 nb
    have q3 := h8 nc
    rw [nb] at h12
    simp at h12
    clear h7 h8 h10 h11 h4 h5
    omega
theorem lv2_cats {l : List RT} (h : ∀ t ∈ l, Lv 17 37042969165 227 36852477422 222 t) (h1 : 1 ≤ l.length) (h3 : l.length ≤ 3) : Lv 53 340608368686 830 339936650648 821 (catM l) := by
  match l with
  | [] => simp at h1
  | [a] => exact lv2_cat1 (h a (by simp))
  | [a, b] => exact lv2_cat2 (h a (by simp)) (h b (by simp))
  | [a, b, c] => exact lv2_cat3 (h a (by simp)) (h b (by simp)) (h c (by simp))
  | _ :: _ :: _ :: _ :: _ => simp at h3
theorem lv2_eithers {l : List RT} (h : ∀ t ∈ l, Lv 17 37042969165 227 36852477422 222 t) (h3 : l.length ≤ 3) : Lv 53 340608368686 830 339936650648 821 (eitherM l) := by
  have hs := sz_either l
  have hs2 : (l.map RT.sz).sum ≤ l.length * 17 := by
    clear hs h3
    induction l with
    | nil => simp
    | cons a l ih =>
      have h1 := ih fun t ht => h t (by simp [ht])
      have h2 := (h a (by simp)).sz
      simp only [List.map_cons, List.sum_cons, List.length_cons]
      omega
  have hd : ∀ R, 1024 * Del (eitherM l) R ≤ 3 * (37042969165 + 227 * Psi R) := fun R => by
    have h1 := del_either l R
    have h2 : 1024 * (l.map fun x => Del x R).sum ≤ l.length * (37042969165 + 227 * Psi R) := by
      clear h1 hs hs2 h3
      induction l with
      | nil => simp
      | cons a l ih =>
        have i1 := ih fun t ht => h t (by simp [ht])
        have i2 := lv2_any (h a (by simp)) R
        simp only [List.map_cons, List.sum_cons, List.length_cons, Nat.add_mul, Nat.one_mul]
        omega
    have h4 : l.length * (37042969165 + 227 * Psi R) ≤ 3 * (37042969165 + 227 * Psi R) := Nat.mul_le_mul_right _ h3
    omega
  refine ⟨good_either fun t ht => (h t ht).good, by omega, fun _ R => ?_, fun _ R => ?_⟩
  · have := hd R; omega
  · have := hd R; omega
theorem lv3_cat1 {a : RT} (ha : Lv 53 340608368686 830 339936650648 821 a) : Lv 161 4842888568831 5008 5766931476091 4966 (catM [a]) := by
  have hg : ∀ t ∈ [a], good t := by
    intro t ht
    simp at ht
    subst ht
    exact ha.good
  have hs := sz_cat [a]
  have s1 := ha.sz
  simp only [List.map_cons, List.map_nil, List.sum_cons, List.sum_nil] at hs
  have hn := null_cat hg
  simp only [List.all_cons, List.all_nil, Bool.and_true] at hn
  have key : ∀ R, Del (catM [a]) R ≤ Del a R := fun R => by
    have h := del_cat hg R
    simp only [DelL] at h
    have e : Del a (fl [] ++ R) = Del a R := by simp [fl]
    rw [e] at h
    revert h
    cases nullM a <;> (intro h; simp at h ⊢; omega)
  refine ⟨good_cat hg, by omega, fun e R => ?_, fun e R => ?_⟩
  · rw [hn] at e
    have h1 := ha.nn e R
    have h2 := key R
    omega
  · rw [hn] at e
    have h1 := ha.nu e R
    have h2 := key R
    omega
theorem lv3_cat2 {b c : RT} (hb : Lv 53 340608368686 830 339936650648 821 b) (hc : Lv 53 340608368686 830 339936650648 821 c) : Lv 161 4842888568831 5008 5766931476091 4966 (catM [b, c]) := by
  have hg : ∀ t ∈ [b, c], good t := by
    intro t ht
    simp at ht
    rcases ht with rfl | rfl
    · exact hb.good
    · exact hc.good
  have hs := sz_cat [b, c]
  have s2 := hb.sz
  have s3 := hc.sz
  simp only [List.map_cons, List.map_nil, List.sum_cons, List.sum_nil] at hs
  have hn := null_cat hg
  simp only [List.all_cons, List.all_nil, Bool.and_true] at hn
  have key : ∀ R, ∃ P3 D2 D3 P : Nat, P = Psi R ∧ P3 ≤ 889192448 + D3 + P ∧ 1024 * D2 ≤ 340608368686 + 830 * P3 ∧ 1024 * D3 ≤ 340608368686 + 830 * P ∧ (nullM b = true → 1024 * D2 ≤ 339936650648 + 821 * P3) ∧ (nullM c = true → 1024 * D3 ≤ 339936650648 + 821 * P) ∧
      (nullM b = false → 1024 * D2 ≤ 340608368686 + 830 * P3) ∧ (nullM c = false → 1024 * D3 ≤ 340608368686 + 830 * P) ∧ Del (catM [b, c]) R ≤ D2 + (if nullM b then D3 else 0) := fun R => by
    refine ⟨Psi (fl [c] ++ R), Del b (fl [c] ++ R), Del c R, Psi R, rfl, ?_, lv3_any hb _, lv3_any hc _, fun e => hb.nu e _, fun e => hc.nu e _, fun e => hb.nn e _, fun e => hc.nn e _, ?_⟩
    · have h := psi_seq hc.good R
      have e : fl [c] ++ R = seqOf c ++ R := by simp [fl]
      rw [e]
      omega
    · have h := del_cat hg R
      simp only [DelL] at h
      have e : Del c (fl [] ++ R) = Del c R := by simp [fl]
      rw [e] at h
      revert h
      cases nullM b <;> cases nullM c <;> (intro h; simp at h ⊢; omega)
  refine ⟨good_cat hg, by omega, fun e R => ?_, fun e R => ?_⟩
  · obtain ⟨P3, D2, D3, P, hP, h1, h4, h5, h7, h8, h10, h11, h12⟩ := key R
    rw [← hP]
    rw [e] at hn
    cases nb : nullM b with
    | false =>
      have q2 := h10 nb
      rw [nb] at h12
      simp at h12
      clear h7 h8 h10 h11 h4
      omega
    | true =>
      have q2 := h7 nb
      rw [nb] at hn h12
      have nc : nullM c = false := by simpa using hn.symm
      have q3 := h11 nc
      simp at h12
      clear h7 h8 h10 h11 h4 h5
      omega
  · obtain ⟨P3, D2, D3, P, hP, h1, h4, h5, h7, h8, h10, h11, h12⟩ := key R
    rw [← hP]
    rw [e] at hn
    obtain ⟨nb, nc⟩ : nullM b = true ∧ nullM c = true := by simpa using hn.symm
    have q2 := h7 nb
    have q3 := h8 nc
    rw [nb] at h12
    simp at h12
    clear h7 h8 h10 h11 h4 h5
    omega
theorem lv3_cats {l : List RT} (h : ∀ t ∈ l, Lv 53 340608368686 830 339936650648 821 t) (h1 : 1 ≤ l.length) (h3 : l.length ≤ 3) : Lv 161 4842888568831 5008 5766931476091 4966 (catM l) := by
  match l with
  | [] => simp at h1
  | [a] => exact lv3_cat1 (h a (by simp))
  | [a, b] => exact lv3_cat2 (h a (by simp)) (h b (by simp))
  | [a, b, c] => exact lv3_cat3 (h a (by simp)) (h b (by simp)) (h c (by simp))
  | _ :: _ :: _ :: _ :: _ => simp at h3
theorem lv3_eithers {l : List RT} (h : ∀ t ∈ l, Lv 53 340608368686 830 339936650648 821 t) (h3 : l.length ≤ 3) : Lv 161 4842888568831 5008 5766931476091 4966 (eitherM l) := by
  have hs := sz_either l
  have hs2 : (l.map RT.sz).sum ≤ l.length * 53 := by
    clear hs h3
    induction l with
    | nil => simp
    | cons a l ih =>
      have h1 := ih fun t ht => h t (by simp [ht])
      have h2 := (h a (by simp)).sz
      simp only [List.map_cons, List.sum_cons, List.length_cons]
      omega
  have hd : ∀ R, 1024 * Del (eitherM l) R ≤ 3 * (340608368686 + 830 * Psi R) := fun R => by
    have h1 := del_either l R
    have h2 : 1024 * (l.map fun x => Del x R).sum ≤ l.length * (340608368686 + 830 * Psi R) := by
      clear h1 hs hs2 h3
      induction l with
      | nil => simp
      | cons a l ih =>
        have i1 := ih fun t ht => h t (by simp [ht])
        have i2 := lv3_any (h a (by simp)) R
        simp only [List.map_cons, List.sum_cons, List.length_cons, Nat.add_mul, Nat.one_mul]
        omega
    have h4 : l.length * (340608368686 + 830 * Psi R) ≤ 3 * (340608368686 + 830 * Psi R) := Nat.mul_le_mul_right _ h3
    omega
  refine ⟨good_either fun t ht => (h t ht).good, by omega, fun _ R => ?_, fun _ R => ?_⟩
  · have := hd R; omega
  · have := hd R; omega

theorem leaf_kind (zs : List Int) (k a : Nat) : (leafM zs k a).1.kind ≤ 2 ∧ 0 ≤ (leafM zs k a).1.kind := by
  have h4 := pick4 zs a
  unfold leafM
  split
  · exact ⟨by show (2 : Int) ≤ 2; omega, by show (0 : Int) ≤ 2; omega⟩
  · exact ⟨by show (pickF zs a 4 : Int) / 3 ≤ 2; omega, by show (0 : Int) ≤ (pickF zs a 4 : Int) / 3; omega⟩
theorem leaf_lv (zs : List Int) (k a : Nat) : Lv 1 3435973632 64 0 0 (leafM zs k a).1 := by
  obtain ⟨h1, h2, _⟩ := leaf_facts zs k a
  obtain ⟨q1, q2⟩ := leaf_kind zs k a
  revert h1 h2 q1 q2
  generalize (leafM zs k a).1 = t
  intro h1 h2 q1 q2
  have hz : t.kind = 0 ∨ t.kind = 1 → ∀ R, Del t R = 0 := fun h R => by
    obtain ⟨k, s, kids⟩ := t
    simp only [RT.kind] at h
    have : ∀ j, Dm j (.mk k s kids) R = 0 := fun j => by
      unfold Dm
      rw [dl_mk, if_neg (by omega), if_neg (by omega), if_neg (by omega), if_neg (by omega)]
      rfl
    unfold Del
    rw [this, this, this, this, this, this]
  refine ⟨h1, by omega, fun e R => ?_, fun e R => ?_⟩
  · by_cases h : t.kind = 2
    · have := del_byte h R; omega
    · rw [hz (by omega) R]; omega
  · have hk : t.kind = 0 ∨ t.kind = 1 := by
      by_cases h : t.kind = 2
      · exfalso
        obtain ⟨k, s, kids⟩ := t
        simp only [RT.kind] at h
        subst h
        rw [null_mk] at e
        simp at e
      · omega
    rw [hz hk R]
    omega
theorem re0_lv (zs : List Int) (a : Nat) : Lv 1 3435973632 64 0 0 (reM zs 0 a).1 := by rw [reM]; exact leaf_lv _ _ _
theorem re0_kind (zs : List Int) (a : Nat) : (reM zs 0 a).1.kind ≤ 2 ∧ 0 ≤ (reM zs 0 a).1.kind := by rw [reM]; exact leaf_kind _ _ _
theorem re1_lv (zs : List Int) (a : Nat) : Lv 5 6093484621 73 5955687767 69 (reM zs 1 a).1 := by
  have h3 := pick3 zs (a + 1)
  have hl := listR_len (reM zs 0) (1 + pickF zs (a + 1) 3) (a + 2)
  have hall := listR_all (Q := Lv 1 3435973632 64 0 0) (f := reM zs 0) (fun a => re0_lv zs a) (1 + pickF zs (a + 1) 3) (a + 2)
  have hk := listR_all (Q := fun t => t.kind ≤ 2 ∧ 0 ≤ t.kind) (f := reM zs 0) (fun a => re0_kind zs a) (1 + pickF zs (a + 1) 3) (a + 2)
  rw [reM]
  split
  · exact (lv0_up (leaf_lv zs _ _))
  · split
    · exact lv0_star (re0_lv zs _)
    · split
      · exact lv0_cats hall (by omega) (by omega)
      · exact lv0_eithers hall hk (by omega)
theorem re2_lv (zs : List Int) (a : Nat) : Lv 17 37042969165 227 36852477422 222 (reM zs 2 a).1 := by
  have h3 := pick3 zs (a + 1)
  have hl := listR_len (reM zs 1) (1 + pickF zs (a + 1) 3) (a + 2)
  have hall := listR_all (Q := Lv 5 6093484621 73 5955687767 69) (f := reM zs 1) (fun a => re1_lv zs a) (1 + pickF zs (a + 1) 3) (a + 2)
  rw [reM]
  split
  · exact (lv1_up (lv0_up (leaf_lv zs _ _)))
  · split
    · exact lv1_star (re1_lv zs _)
    · split
      · exact lv1_cats hall (by omega) (by omega)
      · exact lv1_eithers hall (by omega)
theorem re3_lv (zs : List Int) (a : Nat) : Lv 53 340608368686 830 339936650648 821 (reM zs 3 a).1 := by
  have h3 := pick3 zs (a + 1)
  have hl := listR_len (reM zs 2) (1 + pickF zs (a + 1) 3) (a + 2)
  have hall := listR_all (Q := Lv 17 37042969165 227 36852477422 222) (f := reM zs 2) (fun a => re2_lv zs a) (1 + pickF zs (a + 1) 3) (a + 2)
  rw [reM]
  split
  · exact (lv2_up (lv1_up (lv0_up (leaf_lv zs _ _))))
  · split
    · exact lv2_star (re2_lv zs _)
    · split
      · exact lv2_cats hall (by omega) (by omega)
      · exact lv2_eithers hall (by omega)
theorem re4_lv (zs : List Int) (a : Nat) : Lv 161 4842888568831 5008 5766931476091 4966 (reM zs 4 a).1 := by
  have h3 := pick3 zs (a + 1)
  have hl := listR_len (reM zs 3) (1 + pickF zs (a + 1) 3) (a + 2)
  have hall := listR_all (Q := Lv 53 340608368686 830 339936650648 821) (f := reM zs 3) (fun a => re3_lv zs a) (1 + pickF zs (a + 1) 3) (a + 2)
  rw [reM]
  split
  · exact (lv3_up (lv2_up (lv1_up (lv0_up (leaf_lv zs _ _)))))
  · split
    · exact lv3_star (re3_lv zs _)
    · split
      · exact lv3_cats hall (by omega) (by omega)
      · exact lv3_eithers hall (by omega)
theorem lvany4 {t : RT} (h : Lv 161 4842888568831 5008 5766931476091 4966 t) (R : List RT) : 1024 * Del t R ≤ 5766931476091 + 5008 * Psi R := by
  cases e : nullM t with
  | true => have := h.nu e R; omega
  | false => have := h.nn e R; omega
/-- Behind six bytes at most. -/
theorem made_T (zs : List Int) (a : Nat) : good (reM zs 4 a).1 ∧ (∀ k, k < 6 → T k (seqOf (reM zs 4 a).1) ≤ 370000000) ∧ T 6 (seqOf (reM zs 4 a).1) ≤ 5700000000 := by
  have h := re4_lv zs a
  have hg := h.good
  have h1 := lvany4 h []
  have h2 := (seq_sz hg).1
  have h3 := h.sz
  have hp : Psi [] = 0 := rfl
  rw [hp] at h1
  have k := fun j => T_seq j (reM zs 4 a).1 []
  have e : ∀ j, T (j + 1) (seqOf (reM zs 4 a).1) = Dm j (reM zs 4 a).1 [] := fun j => by
    have h4 := k j
    rw [List.append_nil] at h4
    have h5 : T (j + 1) ([] : List RT) = 0 := rfl
    rw [h4, h5]
    simp
  have e0 := e 0
  have e1 := e 1
  have e2 := e 2
  have e3 := e 3
  have e4 := e 4
  have e5 := e 5
  simp only [Nat.zero_add, Nat.reduceAdd] at e0 e1 e2 e3 e4 e5
  unfold Del at h1
  refine ⟨hg, fun j hj => ?_, by omega⟩
  match j, hj with
  | 0, _ => omega
  | 1, _ => omega
  | 2, _ => omega
  | 3, _ => omega
  | 4, _ => omega
  | 5, _ => omega
  | n + 6, hj => omega

end Go.Proofs.YtclnadjgbpihcaaGreatDoor

/-! What is left of the expression that layer 8's laws ask first. No condition. -/
namespace Go.Proofs.YtclnadjgbpihcaaGreatDoor
open Go.Lib
set_option linter.unusedVariables false
set_option linter.unusedSimpArgs false

theorem let_mem {lo hi : Int} (b : Nat) (hb : b < 256) : (letM lo hi).set.mem b = letF lo hi b := by
  unfold letM
  show (W4.of (letF lo hi)).mem b = _
  have h1 := of_isSet (letF lo hi)
  have h2 := W4.isSet (of_ok (letF lo hi))
  exact h2.inj h1 b hb
noncomputable def awA : RT := letM 97 97
noncomputable def awB : RT := letM 98 98
noncomputable def awR : RT := .mk 3 W4.zero [.mk 5 W4.zero [awA], awB]
theorem aw_star : starM awA = .mk 5 W4.zero [awA] := by
  unfold starM awA letM
  rw [if_neg (by simp [RT.kind]), if_neg (by simp [RT.kind])]
theorem cat_starb (a b : RT) (hb : b.kind = 2) : catM [.mk 5 W4.zero [a], b] = .mk 3 W4.zero [.mk 5 W4.zero [a], b] := by
  have h5 : (RT.mk 5 W4.zero [a]).kind = 5 := rfl
  have hf : flatM 3 [.mk 5 W4.zero [a], b] = [.mk 5 W4.zero [a], b] := flat_same fun t ht => by
    rcases List.mem_cons.1 ht with rfl | ht
    · rw [h5]; decide
    · simp at ht; subst ht; rw [hb]; decide
  unfold catM
  rw [hf]
  simp [h5, hb, someM]
theorem aw_catR : catM [starM awA, awB] = awR := by
  rw [aw_star]
  exact cat_starb awA awB rfl
theorem deriv_two (c : Nat) (s : W4) : derivM c (.mk 2 s []) = if s.mem c = true then emptyM else noneM := by rw [deriv_mk, if_pos rfl]
theorem aw_dA (c : Nat) (hc : c < 256) : derivM c awA = if c = 97 then emptyM else noneM := by
  have h := let_mem (lo := 97) (hi := 97) c hc
  have e : derivM c awA = if (letM 97 97).set.mem c = true then emptyM else noneM := deriv_two c _
  rw [e, h]
  unfold letF
  by_cases q : c = 97
  · subst q; simp
  · rw [if_neg q]
    have : ¬ ((97 : Int) ≤ (c : Int) ∧ (c : Int) ≤ 97) := by omega
    simp [this]
theorem aw_dB (c : Nat) (hc : c < 256) : derivM c awB = if c = 98 then emptyM else noneM := by
  have h := let_mem (lo := 98) (hi := 98) c hc
  have e : derivM c awB = if (letM 98 98).set.mem c = true then emptyM else noneM := deriv_two c _
  rw [e, h]
  unfold letF
  by_cases q : c = 98
  · subst q; simp
  · rw [if_neg q]
    have : ¬ ((98 : Int) ≤ (c : Int) ∧ (c : Int) ≤ 98) := by omega
    simp [this]
theorem deriv_five (c : Nat) (a : RT) : derivM c (.mk 5 W4.zero [a]) = catM [derivM c a, .mk 5 W4.zero [a]] := by rw [deriv_mk]; rfl
theorem cat_empty_star (a : RT) : catM [emptyM, .mk 5 W4.zero [a]] = .mk 5 W4.zero [a] := rfl
theorem aw_dS (c : Nat) (hc : c < 256) : derivM c (.mk 5 W4.zero [awA]) = if c = 97 then .mk 5 W4.zero [awA] else noneM := by
  have e : derivM c (.mk 5 W4.zero [awA]) = catM [derivM c awA, .mk 5 W4.zero [awA]] := deriv_five c awA
  rw [e, aw_dA c hc]
  by_cases q : c = 97
  · rw [if_pos q, if_pos q]; exact cat_empty_star awA
  · rw [if_neg q, if_neg q]; exact cat_none rfl _
theorem aw_nS : nullM (.mk 5 W4.zero [awA]) = true := by rw [null_mk]; simp
theorem aw_nB : nullM awB = false := by unfold awB letM; rw [null_mk]; simp
theorem aw_nR : nullM awR = false := by unfold awR; rw [null_mk]; simp [aw_nB]
theorem cat_two (c : Nat) {x y : RT} (hx : nullM x = true) (hy : nullM y = false) : derivM c (.mk 3 W4.zero [x, y]) = eitherM [catM [derivM c x, y], catM [derivM c y]] := by
  have e := deriv_mk c 3 W4.zero [x, y]
  rw [if_neg (by decide), if_pos rfl] at e
  rw [e]
  simp [catsM, hx, hy]
theorem aw_dR (c : Nat) (hc : c < 256) : derivM c awR = eitherM [catM [derivM c (.mk 5 W4.zero [awA]), awB], catM [derivM c awB]] := by
  exact cat_two c aw_nS aw_nB
theorem either_one {x : RT} (h : x.kind ≠ 0 ∧ x.kind ≠ 2 ∧ x.kind ≠ 4) : eitherM [x] = x ∧ eitherM [x, noneM] = x ∧ eitherM [noneM, x] = x := by
  have key : ∀ l : List RT, (flatM 4 l).filter (fun r => !(r.kind == 0) && !(r.kind == 2)) = [x] → (∀ t ∈ flatM 4 l, t.kind ≠ 2) → eitherM l = x := fun l h1 h2 => by
    unfold eitherM
    have e1 : byteM (flatM 4 l) = [] := by unfold byteM; rw [union_none h2, if_pos rfl]
    rw [e1]
    unfold othersM
    rw [h1]
    rfl
  have hn : noneM.kind = 0 := rfl
  have f1 : flatM 4 [x] = [x] := flat_same fun t ht => by simp at ht; subst ht; exact h.2.2
  have f2 : flatM 4 [x, noneM] = [x, noneM] := flat_same fun t ht => by
    rcases List.mem_cons.1 ht with rfl | ht
    · exact h.2.2
    · simp at ht; subst ht; rw [hn]; decide
  have f3 : flatM 4 [noneM, x] = [noneM, x] := flat_same fun t ht => by
    rcases List.mem_cons.1 ht with rfl | ht
    · rw [hn]; decide
    · simp at ht; subst ht; exact h.2.2
  refine ⟨key _ ?_ ?_, key _ ?_ ?_, key _ ?_ ?_⟩
  · rw [f1]; simp [h.1, h.2.1]
  · rw [f1]; intro t ht; simp at ht; subst ht; exact h.2.1
  · rw [f2]; simp [h.1, h.2.1, hn]
  · rw [f2]
    intro t ht
    rcases List.mem_cons.1 ht with rfl | ht
    · exact h.2.1
    · simp at ht; subst ht; rw [hn]; decide
  · rw [f3]; simp [h.1, h.2.1, hn]
  · rw [f3]
    intro t ht
    rcases List.mem_cons.1 ht with rfl | ht
    · rw [hn]; decide
    · simp at ht; subst ht; exact h.2.1
theorem aw_d97 : derivM 97 awR = awR := by
  rw [aw_dR 97 (by decide), aw_dS 97 (by decide), aw_dB 97 (by decide), if_pos rfl, if_neg (by decide)]
  have e1 : catM [.mk 5 W4.zero [awA], awB] = awR := by rw [← aw_star]; exact aw_catR
  have e2 : catM [noneM] = noneM := rfl
  rw [e1, e2]
  have hk : awR.kind = 3 := rfl
  exact (either_one (x := awR) ⟨by rw [hk]; decide, by rw [hk]; decide, by rw [hk]; decide⟩).2.1
theorem aw_d98 : derivM 98 awR = emptyM := by
  rw [aw_dR 98 (by decide), aw_dS 98 (by decide), aw_dB 98 (by decide), if_neg (by decide), if_pos rfl]
  have e1 : catM [noneM, awB] = noneM := cat_none rfl _
  have e2 : catM [emptyM] = emptyM := rfl
  rw [e1, e2]
  have hk : emptyM.kind = 1 := rfl
  exact (either_one (x := emptyM) ⟨by rw [hk]; decide, by rw [hk]; decide, by rw [hk]; decide⟩).2.2
theorem aw_aab : nullM (dersM awR [97, 97, 98]) = true := by
  show nullM (derivM 98 (derivM 97 (derivM 97 awR))) = true
  rw [aw_d97, aw_d97, aw_d98]
  show nullM (.mk 1 W4.zero []) = true
  rw [null_mk]
  simp
theorem aw_aba : nullM (dersM awR [97, 98, 97]) = false := by
  show nullM (derivM 97 (derivM 98 (derivM 97 awR))) = false
  rw [aw_d97, aw_d98]
  show nullM (derivM 97 (.mk 1 W4.zero [])) = false
  rw [deriv_mk]
  exact null_none rfl
/-- What the calls want of it. -/
theorem let_lv {lo hi : Int} (h0 : 0 ≤ lo) (h1 : lo ≤ hi) (h2 : lo < 256) : Lv 1 3435973632 64 0 0 (letM lo hi) := by
  refine ⟨good_let h0 h1 h2, by unfold letM; rw [sz_mk]; simp, fun _ R => ?_, fun e R => ?_⟩
  · have := del_byte (t := letM lo hi) rfl R
    omega
  · unfold letM at e
    rw [null_mk] at e
    simp at e

end Go.Proofs.YtclnadjgbpihcaaGreatDoor

/-! The document's Same, of any two expressions: whether they stand for one tree. No condition but size. -/
namespace Go.Proofs.YtclnadjgbpihcaaGreatDoor
open Go.RowKit Go.Lib
set_option linter.unusedVariables false
set_option linter.unusedSimpArgs false

open Classical in
noncomputable def sameB (t u : RT) : Bool := decide (t = u)
open Classical in
theorem sameB_iff (t u : RT) : sameB t u = true ↔ t = u := by unfold sameB; exact decide_eq_true_iff
theorem sameB_no {t u : RT} (h : t ≠ u) : false = sameB t u := by
  cases e : sameB t u with
  | false => rfl
  | true => exact absurd ((sameB_iff t u).1 e) h
theorem sameB_yes {t u : RT} (h : t = u) : true = sameB t u := ((sameB_iff t u).2 h).symm
theorem six_at {W : World} {B : Nat} {k a b c d : Int} {p : Option Addr} {n cap : Nat} (h : W.heap[B]? = some (.cells #[.int .i64 k, .int .u64 a, .int .u64 b, .int .u64 c, .int .u64 d, .slice p n cap] 28 (0, 0))) :
    W.cell? ⟨B, 0, none⟩ = some (.int .i64 k) ∧ W.cell? ⟨B, 1, none⟩ = some (.int .u64 a) ∧ W.cell? ⟨B, 2, none⟩ = some (.int .u64 b) ∧ W.cell? ⟨B, 3, none⟩ = some (.int .u64 c) ∧ W.cell? ⟨B, 4, none⟩ = some (.int .u64 d) ∧ W.cell? ⟨B, 5, none⟩ = some (.slice p n cap) := by
  refine ⟨?_, ?_, ?_, ?_, ?_, ?_⟩ <;> simp [World.cell?, h]

set_option maxRecDepth 100000 in
set_option maxHeartbeats 16000000 in
theorem sameg_any {P P' : Nat → Prop} : ∀ (N : Nat) (t u : RT) (x y : ReV) (W : World), t.dep ≤ N → t.sz ≤ 9000000000 → RAt W P x t → RAt W P' y u → Calls Tryz.prog 15 #[x.val, y.val] W (GivesBool (sameB t u) W) := by
  intro N
  induction N with
  | zero => intro t u x y W h; have := dep_pos t; omega
  | succ N ih =>
    intro t u x y W hdep hsz ht ht'
    obtain ⟨vs, et, hok, hk⟩ := ht.kids
    obtain ⟨us, et', _, hk'⟩ := ht'.kids
    have hkd : ∀ v ∈ t.kids, v.dep ≤ N := by
      obtain ⟨k', s', l'⟩ := t
      exact dep_mk.1 hdep
    have hks : (t.kids.map RT.sz).sum < t.sz := by
      obtain ⟨k', s', l'⟩ := t
      rw [sz_mk]
      show (l'.map RT.sz).sum < _
      omega
    obtain ⟨L, hL⟩ : ∃ L, L = t.kids := ⟨_, rfl⟩
    obtain ⟨M, hM⟩ : ∃ M, M = u.kids := ⟨_, rfl⟩
    rw [← hL] at hk hkd et hks
    rw [← hM] at hk' et'
    obtain ⟨k, a, b, c, d, p, n, cap⟩ := x
    obtain ⟨k2, a2, b2, c2, d2, p2, n2, cap2⟩ := y
    simp only [ReV.w4] at hok hk hk' et et'
    obtain ⟨R, hR⟩ : ∃ R, R = sameB t u := ⟨_, rfl⟩
    rw [← hR]
    rw [et, et'] at hR
    have HR := Lib.hid hR
    have hnum := hk.num
    have hnum' := hk'.num
    obtain ⟨B0, hB0⟩ : ∃ B0, B0 = W.heap.size := ⟨_, rfl⟩
    obtain ⟨w1, hw1⟩ : ∃ w1 : World, w1 = W.alloc (.cells #[.int .i64 k, .int .u64 a, .int .u64 b, .int .u64 c, .int .u64 d, .slice p n cap] 28) := ⟨_, rfl⟩
    have hb1 : Below W.heap.size W w1 := by rw [hw1]; exact (Below.refl _ _).alloc (Nat.le_refl _) _
    have hn1 : w1.heap[B0]? = some (.cells #[.int .i64 k, .int .u64 a, .int .u64 b, .int .u64 c, .int .u64 d, .slice p n cap] 28 (0, 0)) := by rw [hw1, hB0]; exact heap_alloc_new _ _
    have hB1 : B0 < w1.heap.size := (Array.getElem?_eq_some_iff.1 hn1).1
    obtain ⟨B2, hB2⟩ : ∃ B2, B2 = w1.heap.size := ⟨_, rfl⟩
    obtain ⟨w2, hw2⟩ : ∃ w2 : World, w2 = w1.alloc (.cells #[.int .i64 k2, .int .u64 a2, .int .u64 b2, .int .u64 c2, .int .u64 d2, .slice p2 n2 cap2] 28) := ⟨_, rfl⟩
    have hb2 : Below w1.heap.size w1 w2 := by rw [hw2]; exact (Below.refl _ _).alloc (Nat.le_refl _) _
    have hn2 : w2.heap[B2]? = some (.cells #[.int .i64 k2, .int .u64 a2, .int .u64 b2, .int .u64 c2, .int .u64 d2, .slice p2 n2 cap2] 28 (0, 0)) := by rw [hw2, hB2]; exact heap_alloc_new _ _
    have hn1' : w2.heap[B0]? = some (.cells #[.int .i64 k, .int .u64 a, .int .u64 b, .int .u64 c, .int .u64 d, .slice p n cap] 28 (0, 0)) := (hb2.block B0 hB1).trans hn1
    have hB02 : B0 < w2.heap.size := (Array.getElem?_eq_some_iff.1 hn1').1
    have hB22 : B2 < w2.heap.size := (Array.getElem?_eq_some_iff.1 hn2).1
    have hbb : Below W.heap.size W w2 := hb1.trans (hb2.mono hb1.size)
    have HK := Lib.hid (hk.under hbb)
    have HK' := Lib.hid (hk'.under hbb)
    have HB1 := Lib.hid hbb
    have HN1 := Lib.hid hn1'
    have HN2 := Lib.hid hn2
    have HL1 := Lib.hid hB02
    have HL2 := Lib.hid hB22
    have HW1 := Lib.hid hw1
    have HW2 := Lib.hid hw2
    have HB0 := Lib.hid hB0
    have hB3 : B2 = B0 + 1 := by rw [hB2, hB0, hw1]; exact Array.size_push _
    have HB2 := Lib.hid hB3
    have hnb : n ≤ 9000000000 := by
      have : ∀ l : List RT, l.length ≤ (l.map RT.sz).sum := by
        intro l
        induction l with
        | nil => simp
        | cons a l ih => have := sz_pos a; simp only [List.length_cons, List.map_cons, List.sum_cons]; omega
      have := this L
      omega
    have HKS : Hid ((L.map RT.sz).sum ≤ 9000000000) := by unfold Hid; omega
    have HKD := Lib.hid hkd
    have HNU := Lib.hid hnum
    have HNU' := Lib.hid hnum'
    have HIH := Lib.hid ih
    obtain ⟨k0, k1, k2', k3, k4, k5⟩ := six_at hn1'
    obtain ⟨q0, q1, q2, q3, q4, q5⟩ := six_at hn2
    clear et et' hok hk hk' hnum hnum' hL hM ht ht' hdep hsz hks ih hw1 hw2 hb1 hb2 hbb hn1 hn2 hn1' hB0 hB1 hB2 hB3 hB02 hB22 hkd hR
    unfold ReV.val
    simp only []
    by_cases ek0 : k = k2
    case neg =>
      have ek : (k != k2) = true := by simpa using ek0
      have hr : R = false := by rw [HR.out, ← sameB_no]; intro e; injection e with e1; exact ek0 e1
      subst hr
      go_enter Tryz.func15, Tryz.ntmps15
      go_wp2_with fail
      rw [← HW1.out, ← HB0.out, ← HB2.out, ← HW2.out]
      go_wp2_with fail
      go_ret
      exact ⟨rfl, HB1.out⟩
    case pos =>
    subst ek0
    have ek : (k != k) = false := by simp
    by_cases es0 : (⟨a, b, c, d⟩ : W4) = ⟨a2, b2, c2, d2⟩
    case neg =>
      have hEq : ∀ w : World, (Op.equalIn 10000 25 (.agg #[.int .u64 a, .int .u64 b, .int .u64 c, .int .u64 d]) (.agg #[.int .u64 a2, .int .u64 b2, .int .u64 c2, .int .u64 d2])).run Tryz.prog w = .ok false w := fun w => by rw [eql_set, w4_eq]; simp [es0]
      have hr : R = false := by rw [HR.out, ← sameB_no]; intro e; injection e with e1 e2; exact es0 e2
      subst hr
      clear es0
      go_enter Tryz.func15, Tryz.ntmps15
      go_wp2_with fail
      rw [← HW1.out, ← HB0.out, ← HB2.out, ← HW2.out]
      go_wp2_with fail
      go_ret
      exact ⟨rfl, HB1.out⟩
    case pos =>
    injection es0 with e4 e5 e6 e7
    subst e4 e5 e6 e7
    have hEq : ∀ w : World, (Op.equalIn 10000 25 (.agg #[.int .u64 a, .int .u64 b, .int .u64 c, .int .u64 d]) (.agg #[.int .u64 a, .int .u64 b, .int .u64 c, .int .u64 d])).run Tryz.prog w = .ok true w := fun w => by rw [eql_set, w4_eq]; simp
    by_cases en0 : n = n2
    case neg =>
      have en : ((n : Int) != (n2 : Int)) = true := by simp; omega
      have hr : R = false := by rw [HR.out, ← sameB_no]; intro e; injection e with e1 e2 e3; exact en0 (by rw [HNU.out, HNU'.out, e3])
      subst hr
      go_enter Tryz.func15, Tryz.ntmps15
      go_wp2_with fail
      rw [← HW1.out, ← HB0.out, ← HB2.out, ← HW2.out]
      go_wp2_with fail
      go_ret
      exact ⟨rfl, HB1.out⟩
    case pos =>
    subst en0
    have en : ((n : Int) != (n : Int)) = false := by simp
    go_enter Tryz.func15, Tryz.ntmps15
    go_wp2_with fail
    rw [← HW1.out, ← HB0.out, ← HB2.out, ← HW2.out]
    go_wp2_with fail
    clear k0 k1 k2' k3 k4 k5 q0 q1 q2 q3 q4 q5
    go_loopg [5] n (fun gk vi wr => ∃ i : Nat, vi = .int .i64 (i : Int) ∧ i ≤ n ∧ n - i ≤ gk ∧ Hid (∀ j, j < i → L[j]? = M[j]?) ∧ Hid (Below w2.heap.size w2 wr))
    case atStart => exact ⟨0, rfl, by omega, by omega, fun j hj => absurd hj (Nat.not_lt_zero j), Below.refl _ _⟩
    case round =>
      obtain ⟨i, rfl, hi, hgk, HE, HB⟩ := hrel
      have k5 : wr.cell? ⟨B0, 5, none⟩ = some (.slice p n cap) := by simp [World.cell?, (HB.out.block B0 HL1.out).trans HN1.out]
      have q5 : wr.cell? ⟨B2, 5, none⟩ = some (.slice p2 n cap2) := by simp [World.cell?, (HB.out.block B2 HL2.out).trans HN2.out]
      by_cases hlt : i < n
      · have hltz : decide ((i : Int) < (n : Int)) = true := decide_eq_true (by omega)
        obtain ⟨g, off, rfl⟩ := HK.out.rowv.some_of hlt
        obtain ⟨g', off', rfl⟩ := HK'.out.rowv.some_of hlt
        have hil : i < L.length := by rw [← HNU.out]; exact hlt
        have him : i < M.length := by rw [← HNU'.out]; exact hlt
        obtain ⟨y, hy⟩ : ∃ y, vs[i]? = some y := ⟨_, List.getElem?_eq_getElem (by rw [HK.out.len]; exact hil)⟩
        obtain ⟨z, hz⟩ : ∃ z, us[i]? = some z := ⟨_, List.getElem?_eq_getElem (by rw [HK'.out.len]; exact him)⟩
        obtain ⟨u1, hu1⟩ : ∃ u, L[i]? = some u := ⟨_, List.getElem?_eq_getElem hil⟩
        obtain ⟨u2, hu2⟩ : ∃ u, M[i]? = some u := ⟨_, List.getElem?_eq_getElem him⟩
        have hpl := (HK.out.place hy).under HB.out
        have hpl' := (HK'.out.place hz).under HB.out
        have hra := (HK.out.each i y u1 hy hu1).under HB.out
        have hra' := (HK'.out.each i z u2 hz hu2).under HB.out
        have CALL : Hid (∀ W1, Below wr.heap.size wr W1 → Calls Tryz.prog 15 #[y.val, z.val] W1 (GivesBool (sameB u1 u2) W1)) := fun W1 hb =>
          HIH.out u1 u2 y z W1 (HKD.out u1 (List.mem_of_getElem? hu1)) (by have := sum_mem (List.mem_of_getElem? hu1); have := HKS.out; omega) (hra.under hb) (hra'.under hb)
        have HU1 := Lib.hid hu1
        have HU2 := Lib.hid hu2
        obtain ⟨y0, y1, y2, y3, y4, y5, y6, y7⟩ := y
        obtain ⟨z0, z1, z2, z3, z4, z5, z6, z7⟩ := z
        obtain ⟨e0, e1, e2, e3, e4, e5⟩ := hpl.six
        obtain ⟨f0, f1, f2, f3, f4, f5⟩ := hpl'.six
        simp only at e0 e1 e2 e3 e4 e5 f0 f1 f2 f3 f4 f5
        unfold ReV.val at CALL
        simp only at CALL
        by_cases eu : u1 = u2
        · have hq : sameB u1 u2 = true := (sameB_iff _ _).2 eu
          rw [hq] at CALL
          have HE2 : Hid (∀ j, j < i + 1 → L[j]? = M[j]?) := fun j hj => by
            by_cases e : j < i
            · exact HE.out j e
            · have : j = i := by omega
              subst this
              rw [HU1.out, HU2.out, eu]
          clear hpl hpl' hra hra' hy hz hu1 hu2 hil him eu hq
          go_wp2_with fail
          go_still_tail 10, (by kernel_rfl)
          change wpList _ _ _ _ _ wr.drew
          go_wp2_with fail
          refine (CALL.out _ ((Below.refl _ _).drew)).mono ?_
          rintro e w3 ⟨rfl, hb3⟩
          have HB3 : Hid (Below w2.heap.size w2 w3) := (below_drawn HB.out 1).trans (hb3.mono HB.out.size)
          clear hb3 k5 q5 e0 e1 e2 e3 e4 e5 f0 f1 f2 f3 f4 f5
          go_wp2_with fail
          go_roundg (n - (i + 1))
          case measure => omega
          case rel => exact ⟨i + 1, by go_num, by omega, Nat.le_refl _, HE2, HB3⟩
        · have hq : sameB u1 u2 = false := (sameB_no eu).symm
          rw [hq] at CALL
          have hr : R = false := by
            rw [HR.out, ← sameB_no]
            intro e
            injection e with e1 e2 e3
            rw [e3] at hu1
            exact eu (Option.some.inj (hu1.symm.trans hu2))
          subst hr
          clear hpl hpl' hra hra' hy hz hu1 hu2 hil him eu hq
          go_wp2_with fail
          go_still_tail 10, (by kernel_rfl)
          change wpList _ _ _ _ _ wr.drew
          go_wp2_with fail
          refine (CALL.out _ ((Below.refl _ _).drew)).mono ?_
          rintro e w3 ⟨rfl, hb3⟩
          have HB3 : Hid (Below w2.heap.size w2 w3) := (below_drawn HB.out 1).trans (hb3.mono HB.out.size)
          clear hb3 k5 q5 e0 e1 e2 e3 e4 e5 f0 f1 f2 f3 f4 f5
          go_wp2_with fail
          go_ret
          exact ⟨rfl, HB1.out.trans (HB3.out.mono HB1.out.size)⟩
      · have hltz : decide ((i : Int) < (n : Int)) = false := decide_eq_false (by omega)
        have hr : R = true := by
          rw [HR.out, ← sameB_yes]
          congr 1
          apply List.ext_getElem?
          intro j
          by_cases hj : j < i
          · exact HE.out j hj
          · rw [List.getElem?_eq_none (by have := HNU.out; omega), List.getElem?_eq_none (by have := HNU'.out; omega)]
        subst hr
        go_wp2_with fail
        go_ret
        exact ⟨rfl, HB1.out.trans (HB.out.mono HB1.out.size)⟩

end Go.Proofs.YtclnadjgbpihcaaGreatDoor

/-! What the document's answer for Ranges returns; two lists of ranges compared; what any right program answers. Memory that was there stays as it was. -/
namespace Go.Proofs.YtclnadjgbpihcaaGreatDoor
open Go.RowKit

theorem own_alloc {W : World} {base size n : Nat} {e : TypeId} {v : Value} {xs : List Value} (h : W.ownsRow base e size v n xs) (o : Obj) : (W.alloc o).ownsRow base e size v n xs := h.alloc o

theorem two_at (W : World) (B : Nat) (hB : B = W.heap.size) (a b : Value) (t : TypeId) : ∀ j u, [a, b][j]? = some u → (W.alloc (.cells #[a, b] t)).cell? ((⟨B, 0, none⟩ : Addr).add j) = some u := by
  rw [hB]; exact cell_two_new W a b t

/-- Behind an append: the box of the set, and what lay below. -/
theorem grown_keeps {W w1 : World} {n₀ base B : Nat} {e : TypeId} {size k : Nat} {v : Value} {xs : List Value} {tmp : Obj} {a0 a1 a2 a3 : Int}
    (hb4 : Box4 W B a0 a1 a2 a3) (hrow : W.ownsRow base e size v k xs) (hB : B < base) (hn : n₀ ≤ base) (hW : n₀ ≤ W.heap.size) (hgrow : (W.alloc tmp).grownBy w1 v.ownBlock) :
    Box4 w1 B a0 a1 a2 a3 ∧ Below n₀ W w1 := by
  have hv : ∀ j, v.ownBlock = some j → base ≤ j := by
    intro j hj
    rcases hrow.2 with ⟨rfl, _⟩ | ⟨g, cap, cur, rfl, hg, _⟩
    · simp [Value.ownBlock] at hj
    · simp [Value.ownBlock] at hj; omega
  refine ⟨?_, ((Below.refl _ _).alloc hW tmp).grown hgrow (by simp; omega) (fun j hj => by have := hv j hj; omega)⟩
  refine (hgrow.block B (by have := hb4.lt; simp; omega) ?_).trans (hb4.alloc tmp)
  intro h
  have := hv B h.symm
  omega

set_option maxRecDepth 100000 in
set_option maxHeartbeats 4000000 in
theorem refranges_any (a0 a1 a2 a3 : Int) (f : Nat → Bool) (w : World) (ha : IsSet a0 a1 a2 a3 f) :
    Calls Tryz.prog 56 #[.agg #[.int .u64 a0, .int .u64 a1, .int .u64 a2, .int .u64 a3]] w (RetRanges (rgs f 256) w) := by
  obtain ⟨R, hR⟩ : ∃ R, R = rgs f 256 := ⟨_, rfl⟩
  rw [← hR]
  have HR := Lib.hid hR
  clear hR
  obtain ⟨i0, hi, hz0, hz1, hz2⟩ := info_parts infoRange
  go_enter Tryz.func56, Tryz.ntmps56
  go_wp2
  go_loopw [3, 4] (fun v b wr => ∃ k : Nat, b = .int .i64 k ∧ k ≤ 256 ∧ wr.ownsRow (w.heap.size + 1) 97 2 v (rgs f k).length (rcells (rgs f k)) ∧ Box4 wr w.heap.size a0 a1 a2 a3 ∧ w.heap.size + 1 ≤ wr.heap.size ∧ Below w.heap.size w wr)
    (fun _ b _ => (256 - intOf b).toNat)
  case atStart => exact ⟨0, rfl, by omega, World.ownsRow_nil _ _ _ _, Box4.new _ _ _ _ _, by simp, by go_grown⟩
  case round =>
    obtain ⟨k, rfl, hk, hrow, hba, hsz, hbel⟩ := hrel
    have hc0 := hba.cell0
    have hc1 := hba.cell1
    have hc2 := hba.cell2
    have hc3 := hba.cell3
    have hl := rgs_len f k
    by_cases ht : k < 256
    · have hfe := hasB_nat f k ht
      have hba1 := hba.alloc (.cells #[.int .u64 a0, .int .u64 a1, .int .u64 a2, .int .u64 a3] 25)
      cases hfk : f k with
      | true =>
        have hs : rgs f (k + 1) = ext (rgs f k) k := by simp [rgs, hfk]
        rw [hfk] at hfe
        have HS := Lib.hid hs
        clear hs hfk
        rcases List.eq_nil_or_concat (rgs f k) with hn | ⟨l', ⟨lo, hi'⟩, hn⟩
        · rw [hn] at hrow
          have HL := Lib.hid hn
          clear hn
          have hrow0 : wr.ownsRow (w.heap.size + 1) 97 2 _ 0 [] := hrow
          clear hrow
          have hrow1 := own_alloc hrow0 (.cells #[.int .u64 a0, .int .u64 a1, .int .u64 a2, .int .u64 a3] 25)
          rcases own_forms hrow0 with ⟨rfl, _⟩ | ⟨g, cap, rfl⟩
          · go_wp2_with (first | (go_at_call 35; refine (refhas_any _ _ _ _ _ _ _ ha).mono ?_; rintro e w' ⟨rfl, rfl⟩) | (at_builtin; refine wpList_append_own _ rfl _ _ 93 rfl (w.heap.size + 1) 97 i0 (.agg #[.int .i64 0, .int .i64 0]) 2 16 Tryz.underlying93 hi hz0 hz1 hz2 rfl (by decide) _ _ _ rfl (hrow1.alloc _) ⟨wr.heap.size + 1, 0, none⟩ 1 1 [.int .i64 (k : Int), .int .i64 (k : Int)] rfl rfl (two_at _ _ (by simp) _ _ _) (by simp [Value.oneCell']) (by unfold maxLen; omega) (by omega) (by simp; omega) ?_; intro v' w1 hown' hgrow _; obtain ⟨g', cap', rfl⟩ := ownsRow_succ hown'; obtain ⟨hb4', hbel'⟩ := grown_keeps (n₀ := w.heap.size) hba1 hrow1 (by omega) (by omega) (by simp; omega) hgrow))
            have hbel2 := (below_alloc hbel (.cells #[.int .u64 a0, .int .u64 a1, .int .u64 a2, .int .u64 a3] 25)).trans hbel'
            have hsz2 := hbel'.size
            simp only [World.size_alloc] at hsz2
            go_roundw
            case rel => exact ⟨k + 1, by go_num, by omega, by (rw [HS.out, HL.out]; exact hown'), hb4', by omega, hbel2⟩
            case measure => simp [intOf]; omega
          · go_wp2_with (first | (go_at_call 35; refine (refhas_any _ _ _ _ _ _ _ ha).mono ?_; rintro e w' ⟨rfl, rfl⟩) | (at_builtin; refine wpList_append_own _ rfl _ _ 93 rfl (w.heap.size + 1) 97 i0 (.agg #[.int .i64 0, .int .i64 0]) 2 16 Tryz.underlying93 hi hz0 hz1 hz2 rfl (by decide) _ _ _ rfl (hrow1.alloc _) ⟨wr.heap.size + 1, 0, none⟩ 1 1 [.int .i64 (k : Int), .int .i64 (k : Int)] rfl rfl (two_at _ _ (by simp) _ _ _) (by simp [Value.oneCell']) (by unfold maxLen; omega) (by omega) (by simp; omega) ?_; intro v' w1 hown' hgrow _; obtain ⟨g', cap', rfl⟩ := ownsRow_succ hown'; obtain ⟨hb4', hbel'⟩ := grown_keeps (n₀ := w.heap.size) hba1 hrow1 (by omega) (by omega) (by simp; omega) hgrow))
            have hbel2 := (below_alloc hbel (.cells #[.int .u64 a0, .int .u64 a1, .int .u64 a2, .int .u64 a3] 25)).trans hbel'
            have hsz2 := hbel'.size
            simp only [World.size_alloc] at hsz2
            go_roundw
            case rel => exact ⟨k + 1, by go_num, by omega, by (rw [HS.out, HL.out]; exact hown'), hb4', by omega, hbel2⟩
            case measure => simp [intOf]; omega
        · rw [List.concat_eq_append] at hn
          have hlen : (rgs f k).length = l'.length + 1 := by rw [hn]; simp
          rw [hlen] at hrow hl
          rw [hn] at hrow
          have HL := Lib.hid hn
          clear hn hlen
          obtain ⟨g, cap, rfl⟩ := ownsRow_succ hrow
          have hrow1 := own_alloc hrow (.cells #[.int .u64 a0, .int .u64 a1, .int .u64 a2, .int .u64 a3] 25)
          have hlast := own_cell hrow1 (rcells_last l' (lo, hi'))
          have hfz := own_frozen hrow1 (l'.length * 2 + 1)
          have hlast0 := own_cell hrow (rcells_last l' (lo, hi'))
          have hfz0 := own_frozen hrow (l'.length * 2 + 1)
          obtain ⟨hg1, hg2, hg3⟩ := own_base hrow
          have HC := Lib.hid (rcells_set l' (lo, hi') k)
          by_cases hcmp : hi' + 1 = k
          · have he := ext_yes l' (lo, hi') k hcmp
            have HE := Lib.hid he
            clear he
            subst hcmp
            rw [show ((hi' + 1 : Nat) : Int) = (hi' : Int) + 1 from by omega] at hfe
            go_wp2_with (go_at_call 35; refine (refhas_any _ _ _ _ _ _ _ ha).mono ?_; rintro e w' ⟨rfl, rfl⟩)
            go_roundw
            case rel =>
              refine ⟨hi' + 1 + 1, by go_num, by omega, ?_, ?_, ?_, ?_⟩
              · rw [HS.out, HL.out, HE.out]
                have h := own_alloc (own_set hrow (l'.length * 2 + 1) (.int .i64 ((hi' + 1 : Nat) : Int))) (.cells #[.int .u64 a0, .int .u64 a1, .int .u64 a2, .int .u64 a3] 25)
                rw [HC.out] at h
                simpa using h
              · exact (hba.keep ⟨g, l'.length * 2 + 1, none⟩ _ (by simp; omega)).alloc _
              · simp; omega
              · exact below_alloc (hbel.setCell (p := ⟨g, l'.length * 2 + 1, none⟩) (by simp; omega) _) _
            case measure => simp [intOf]; omega
          · have he := ext_no l' (lo, hi') k hcmp
            have HE := Lib.hid he
            clear he
            have hb1 : ((hi' : Int) == (k : Int) - 1) = false := by simp; omega
            clear hcmp
            go_wp2_with (first | (go_at_call 35; refine (refhas_any _ _ _ _ _ _ _ ha).mono ?_; rintro e w' ⟨rfl, rfl⟩) | (at_builtin; refine wpList_append_own _ rfl _ _ 93 rfl (w.heap.size + 1) 97 i0 (.agg #[.int .i64 0, .int .i64 0]) 2 16 Tryz.underlying93 hi hz0 hz1 hz2 rfl (by decide) _ _ _ rfl (hrow1.alloc _) ⟨wr.heap.size + 1, 0, none⟩ 1 1 [.int .i64 (k : Int), .int .i64 (k : Int)] rfl rfl (two_at _ _ (by simp) _ _ _) (by simp [Value.oneCell']) (by unfold maxLen; omega) (by omega) (by simp; omega) ?_; intro v' w1 hown' hgrow _; obtain ⟨g', cap', rfl⟩ := ownsRow_succ hown'; obtain ⟨hb4', hbel'⟩ := grown_keeps (n₀ := w.heap.size) hba1 hrow1 (by omega) (by omega) (by simp; omega) hgrow))
            have hbel2 := (below_alloc hbel (.cells #[.int .u64 a0, .int .u64 a1, .int .u64 a2, .int .u64 a3] 25)).trans hbel'
            have hsz2 := hbel'.size
            simp only [World.size_alloc] at hsz2
            go_roundw
            case rel => exact ⟨k + 1, by go_num, by omega, by (rw [HS.out, HL.out, HE.out, rcells_snoc]; simpa using hown'), hb4', by omega, hbel2⟩
            case measure => simp [intOf]; omega
      | false =>
        have hs : rgs f (k + 1) = rgs f k := by simp [rgs, hfk]
        rw [hfk] at hfe
        have HS := Lib.hid hs
        clear hs hfk
        go_wp2_with (go_at_call 35; refine (refhas_any _ _ _ _ _ _ _ ha).mono ?_; rintro e w' ⟨rfl, rfl⟩)
        go_roundw
        case rel => exact ⟨k + 1, by go_num, by omega, by rw [HS.out]; exact own_alloc hrow _, hba1, by simp; omega, below_alloc hbel _⟩
        case measure => simp [intOf]; omega
    · obtain rfl : k = 256 := by omega
      rw [← HR.out] at hrow
      go_wp2
      go_ret
      exact ⟨_, rfl, own_mono hrow (by omega), hbel⟩

theorem own_drewN {W : World} {base size n : Nat} {e : TypeId} {v : Value} {xs : List Value} (h : W.ownsRow base e size v n xs) (m : Nat) : (W.drewN m).ownsRow base e size v n xs := h

/-- The call returns this bool, and leaves what was there. -/
def RetBool (b : Bool) (w : World) (e : Ending) (w' : World) : Prop := e = .returned (.bool b) ∧ Below w.heap.size w w'

end Go.Proofs.YtclnadjgbpihcaaGreatDoor

/-! The document's digits and Text. No condition but size. -/
namespace Go.Proofs.YtclnadjgbpihcaaGreatDoor
open Go.RowKit Go.Lib
set_option linter.unusedVariables false
set_option linter.unusedSimpArgs false

def bs (x : Tx) : ByteArray := ⟨x.toArray⟩
theorem bs_size (x : Tx) : (bs x).size = x.length := by simp [bs, ByteArray.size]
theorem bs_add (x y : Tx) : bs x ++ bs y = bs (x ++ y) := by
  apply ByteArray.ext
  rw [ByteArray.data_append]
  simp [bs]
theorem bs_inj {x y : Tx} (h : bs x = bs y) : x = y := by
  have := congrArg (fun b : ByteArray => b.data.toList) h
  simpa [bs] using this
/-- A sum of two texts. -/
theorem add_is {S A : ByteArray} {x y : Tx} (hS : S = bs x) (hA : A = bs y) (hl : x.length + y.length ≤ 9000000000000000000) : ∃ T, T = bs (x ++ y) ∧ ∀ W, (Op.stringOp .add S A).run Tryz.prog W = .ok (.string T) W := by
  refine ⟨_, rfl, fun W => ?_⟩
  rw [run_string_add_sum W S A (by rw [hS, hA, bs_size, bs_size]; omega), hS, hA, bs_add]
theorem conv1 (W : World) (c : Nat) (hc : c < 256) :
    (convert 22 9 (.slice (some ⟨W.heap.size, 0, none⟩) 1 1)).run Tryz.prog (W.alloc (.cells #[.int .u8 (c : Int)] 5)) = .ok (.string (bs [UInt8.ofNat c])) (W.alloc (.cells #[.int .u8 (c : Int)] 5)) := by
  have h := run_convert_bytes_back (P := Tryz.prog) (W.alloc (.cells #[.int .u8 (c : Int)] 5)) 22 9 5 ⟨W.heap.size, 0, none⟩ 1 [UInt8.ofNat c] Tryz.underlying22 Tryz.underlying5 Tryz.underlying9 (fun j hj => by
    have hj0 : j = 0 := by simp at hj; exact hj
    subst hj0
    have e : ((UInt8.ofNat c).toNat : Int) = c := by simp; omega
    show World.cell? _ ⟨W.heap.size, 0, none⟩ = some (.int .u8 ((UInt8.ofNat c).toNat : Int))
    rw [e]
    unfold World.cell?
    show (match (W.alloc _).heap[W.heap.size]? with | some (.cells c elem frozen) => c[0]? | x => none) = _
    rw [heap_alloc_new]
    rfl)
  exact h
/-- The call returns this text; what was there is as it was. -/
def GivesTx (x : Tx) (w : World) (e : Ending) (w' : World) : Prop := e = .returned (.string (bs x)) ∧ Below w.heap.size w w'

set_option maxHeartbeats 1000000 in
theorem digits_any : ∀ (f n : Nat), f ≤ 5 → n < 10 ^ (f + 1) → n < 1000000 → ∀ W : World, Calls Tryz.prog 57 #[.int .i64 (n : Int)] W (GivesTx (digF f n) W) := by
  intro f
  induction f with
  | zero =>
    intro n h5 h1 h2 W
    have hlt : n < 10 := by simpa using h1
    have hltz : (n : Int) < 10 := by omega
    have kc := fun (W : World) => conv1 W (48 + n % 10) (by omega)
    have e9 : (48 : Int) + (n : Int) % 10 = ((48 + n % 10 : Nat) : Int) := by omega
    rw [← e9] at kc
    obtain ⟨S, hS⟩ : ∃ S, S = bs [UInt8.ofNat (48 + n % 10)] := ⟨_, rfl⟩
    rw [← hS] at kc
    have HS := Lib.hid hS
    have h48 : (0 : Int) ≤ 48 + (n : Int) % 10 ∧ (48 : Int) + (n : Int) % 10 ≤ 255 := by omega
    clear hS e9 h1 h2
    go_enter Tryz.func57, Tryz.ntmps57
    go_wp2
    go_ret
    refine ⟨?_, (Below.refl _ _).alloc (Nat.le_refl _) _⟩
    rw [HS.out]
    exact rfl
  | succ f ih =>
    intro n h5 h1 h2 W
    have kc := fun (W : World) => conv1 W (48 + n % 10) (by omega)
    have e9 : (48 : Int) + (n : Int) % 10 = ((48 + n % 10 : Nat) : Int) := by omega
    rw [← e9] at kc
    obtain ⟨S, hS⟩ : ∃ S, S = bs [UInt8.ofNat (48 + n % 10)] := ⟨_, rfl⟩
    rw [← hS] at kc
    have HS := Lib.hid hS
    have c1 := ih (n / 10) (by omega) (by rw [Nat.pow_succ] at h1; omega) (by omega)
    have e8 : ((n / 10 : Nat) : Int) = (n : Int) / 10 := by omega
    rw [e8] at c1
    by_cases hlt : n < 10
    · have hltz : (n : Int) < 10 := by omega
      have HD : Hid (digF (f + 1) n = [UInt8.ofNat (48 + n % 10)]) := by unfold Hid; rw [digF, if_pos hlt]
      clear hS e9 h1 h2 c1 e8
      go_enter Tryz.func57, Tryz.ntmps57
      go_wp2
      go_ret
      refine ⟨?_, (Below.refl _ _).alloc (Nat.le_refl _) _⟩
      rw [HD.out, HS.out]
      exact rfl
    · have hltz : ¬ (n : Int) < 10 := by omega
      have HD : Hid (digF (f + 1) n = digF f (n / 10) ++ [UInt8.ofNat (48 + n % 10)]) := by unfold Hid; rw [digF, if_neg hlt]
      obtain ⟨A, hA⟩ : ∃ A, A = bs (digF f (n / 10)) := ⟨_, rfl⟩
      have hdl : ∀ f n, (digF f n).length ≤ f + 1 := by
        intro f
        induction f with
        | zero => intro n; simp [digF]
        | succ f ih => intro n; rw [digF]; split; · simp
                       · rw [List.length_append]; have := ih (n / 10); simp; omega
      have ew : wrap64 ((n : Int) / 10) = (n : Int) / 10 := by unfold wrap64; omega
      obtain ⟨T, hT, hsum⟩ := add_is hA hS (by have := hdl f (n / 10); simp; omega)
      unfold GivesTx at c1
      rw [← hA] at c1
      have HT := Lib.hid hT
      clear hS e9 h1 h2 e8 hA hT hdl ih
      go_enter Tryz.func57, Tryz.ntmps57
      go_wp2_with fail
      ((with_reducible refine (c1 _).mono ?_))
      rintro _ w1 ⟨rfl, hb1⟩
      have HB1 := Lib.hid hb1
      clear hb1 c1
      go_wp2
      go_ret
      refine ⟨?_, ((Below.refl _ _).alloc (Nat.le_refl _) _).trans (HB1.out.mono (by simp))⟩
      rw [HD.out, HT.out]
      exact rfl

/-- A text of parts, its separators. -/
theorem sepB_take (c : Tx) (L : List Tx) (i : Nat) (x : Tx) (h : L[i]? = some x) : sepB c (L.take (i + 1)) = sepB c (L.take i) ++ (if i = 0 then [] else c) ++ x := by
  rw [List.take_add_one, h]
  show sepB c (L.take i ++ [x]) = _
  rw [sepB_snoc]
  have hi := (List.getElem?_eq_some_iff.1 h).1
  have e : (L.take i = []) = (i = 0) := by
    apply propext
    constructor
    · intro h
      have := congrArg List.length h
      simp at this
      rcases this with h | h
      · exact h
      · rw [h] at hi; simp at hi
    · intro h; subst h; simp
  simp only [e]
theorem sepB_pre (c : Tx) (hc : c.length ≤ 1) (l : List RT) (i : Nat) : (sepB c ((l.map txt).take i)).length ≤ 3000 * (l.map RT.sz).sum := by
  have h := sepB_len c hc ((l.map txt).take i)
  have h2 : ∀ (l : List RT) (i : Nat), (((l.map txt).take i).map fun x => x.length + 1).sum ≤ 3000 * (l.map RT.sz).sum := by
    intro l
    induction l with
    | nil => intro i; simp
    | cons a l ih =>
      intro i
      cases i with
      | zero => simp
      | succ i =>
        have h1 := ih i
        have h3 := txt_len a
        simp only [List.map_cons, List.take_succ_cons, List.sum_cons]
        omega
  have := h2 l i
  omega
theorem sepB_rg (l : List (Nat × Nat)) (i : Nat) : (sepB [44] ((l.map rg1).take i)).length ≤ 8 * l.length := by
  rw [← List.map_take]
  have := sepR_len (l.take i)
  rw [List.length_take] at this
  omega
theorem rgs_bound (f : Nat → Bool) : ∀ (n : Nat), ∀ r ∈ rgs f n, r.1 < n ∧ r.2 < n := rgs_lt f

set_option maxRecDepth 100000 in
set_option maxHeartbeats 8000000 in
theorem reftext_any {P : Nat → Prop} : ∀ (N : Nat) (t : RT) (x : ReV) (W : World), t.dep ≤ N → RAt W P x t → t.sz ≤ 9000000000 → Calls Tryz.prog 51 #[x.val] W (GivesTx (txt t) W) := by
  intro N
  induction N with
  | zero => intro t x W h; have := dep_pos t; omega
  | succ N ih =>
    intro t x W hdep ht hsz
    obtain ⟨vs, et, hok, hk⟩ := ht.kids
    have hkd : ∀ u ∈ t.kids, u.dep ≤ N := by
      obtain ⟨k', s', l'⟩ := t
      exact dep_mk.1 hdep
    have hks : (t.kids.map RT.sz).sum < t.sz := by
      obtain ⟨k', s', l'⟩ := t
      rw [sz_mk]
      show (l'.map RT.sz).sum < _
      omega
    have htx := congrArg txt et
    rw [txt_mk] at htx
    obtain ⟨L, hL⟩ : ∃ L, L = t.kids := ⟨_, rfl⟩
    rw [← hL] at hk hkd hks htx
    obtain ⟨k, a, b, c, d, p, n, cap⟩ := x
    simp only [ReV.w4] at hok hk htx
    obtain ⟨B0, hB0⟩ : ∃ B0, B0 = W.heap.size := ⟨_, rfl⟩
    obtain ⟨w1, hw1⟩ : ∃ w1 : World, w1 = W.alloc (.cells #[.int .i64 k, .int .u64 a, .int .u64 b, .int .u64 c, .int .u64 d, .slice p n cap] 28) := ⟨_, rfl⟩
    have hb1 : Below W.heap.size W w1 := by rw [hw1]; exact (Below.refl _ _).alloc (Nat.le_refl _) _
    have hn1 : w1.heap[B0]? = some (.cells #[.int .i64 k, .int .u64 a, .int .u64 b, .int .u64 c, .int .u64 d, .slice p n cap] 28 (0, 0)) := by rw [hw1, hB0]; exact heap_alloc_new _ _
    have hB1 : B0 < w1.heap.size := (Array.getElem?_eq_some_iff.1 hn1).1
    have hnum := hk.num
    have hK1 := hk.under hb1
    obtain ⟨T, hT⟩ : ∃ T, T = bs (txt t) := ⟨_, rfl⟩
    unfold GivesTx
    rw [← hT]
    rw [htx] at hT
    have HT := Lib.hid hT
    have HK := Lib.hid hK1
    have HB1 := Lib.hid hb1
    have HN1 := Lib.hid hn1
    have HW1 := Lib.hid hw1
    have HBB := Lib.hid hB0
    have HKD := Lib.hid hkd
    have HOK := Lib.hid hok
    have HNU := Lib.hid hnum
    have HLT := Lib.hid hB1
    have HKS : Hid ((L.map RT.sz).sum ≤ 9000000000) := by unfold Hid; omega
    have hnb : n ≤ 9000000000 := by
      have : ∀ l : List RT, l.length ≤ (l.map RT.sz).sum := by
        intro l
        induction l with
        | nil => simp
        | cons a l ih => have := sz_pos a; simp only [List.length_cons, List.map_cons, List.sum_cons]; omega
      have := this L
      omega
    have HIH := Lib.hid ih
    clear hT hK1 hb1 hw1 hB0 hkd hok hnum hks htx et hL ht hsz hdep ih hk
    have k0 : w1.cell? ⟨B0, 0, none⟩ = some (.int .i64 k) := by simp [World.cell?, hn1]
    have k1 : w1.cell? ⟨B0, 1, none⟩ = some (.int .u64 a) := by simp [World.cell?, hn1]
    have k2 : w1.cell? ⟨B0, 2, none⟩ = some (.int .u64 b) := by simp [World.cell?, hn1]
    have k3 : w1.cell? ⟨B0, 3, none⟩ = some (.int .u64 c) := by simp [World.cell?, hn1]
    have k4 : w1.cell? ⟨B0, 4, none⟩ = some (.int .u64 d) := by simp [World.cell?, hn1]
    have k5 : w1.cell? ⟨B0, 5, none⟩ = some (.slice p n cap) := by simp [World.cell?, hn1]
    clear hn1 hB1
    unfold ReV.val
    simp only []
    by_cases e0 : k = 0
    · subst e0
      go_enter Tryz.func51, Tryz.ntmps51
      go_wp2_with fail
      go_ret
      refine ⟨by rw [HT.out]; exact rfl, ?_⟩
      rw [← HW1.out]
      exact HB1.out
    by_cases e1 : k = 1
    · subst e1
      go_enter Tryz.func51, Tryz.ntmps51
      go_wp2_with fail
      go_ret
      refine ⟨by rw [HT.out]; exact rfl, ?_⟩
      rw [← HW1.out]
      exact HB1.out
    by_cases e2 : k = 2
    · subst e2
      have c2 := fun W => refranges_any a b c d _ W (W4.isSet HOK.out)
      have hrl := rgs_len (W4.mem ⟨a, b, c, d⟩) 256
      have hrb := rgs_lt (W4.mem ⟨a, b, c, d⟩) 256
      have HRT := Lib.hid (rngT_is ⟨a, b, c, d⟩)
      obtain ⟨Q, hQ⟩ : ∃ Q, Q = rgs (W4.mem ⟨a, b, c, d⟩) 256 := ⟨_, rfl⟩
      rw [← hQ] at hrl hrb HRT c2
      have HRB := Lib.hid hrb
      have c3 := c2 w1
      clear hQ hrb c2
      go_enter Tryz.func51, Tryz.ntmps51
      go_wp2_with fail
      rw [← HW1.out]
      ((with_reducible refine c3.mono ?_))
      rintro _ w2 ⟨rv, rfl, ho, hb2⟩
      obtain ⟨m, hm⟩ : ∃ m, m = Q.length := ⟨_, rfl⟩
      rw [← hm] at ho hrl
      obtain ⟨q2, cp2, rfl⟩ : ∃ q2 cp2, rv = .slice q2 m cp2 := by
        rcases row_forms ho with ⟨rfl, h0⟩ | ⟨g, cp', rfl⟩
        · exact ⟨none, 0, by rw [h0]⟩
        · exact ⟨_, cp', rfl⟩
      have HO := Lib.hid ho
      have HB2 := Lib.hid hb2
      have HM := Lib.hid hm
      have mixed : Tryz.prog.follows .mixedOrders = true := by kernel_rfl
      clear ho hb2 hm c3 k0 k1 k2 k3 k4 k5 e0 e1
      go_wp2_with fail
      go_loopg [3, 5] m (fun gk vs vi wr => ∃ (i : Nat) (S : ByteArray), vs = .string S ∧ vi = .int .i64 (i : Int) ∧ i ≤ m ∧ m - i ≤ gk ∧ Hid (Below w2.heap.size w2 wr) ∧ Hid (S = bs (sepB [44] ((Q.map rg1).take i))))
      case atStart => exact ⟨0, bs [], rfl, rfl, by omega, by omega, Below.refl _ _, rfl⟩
      case round =>
        obtain ⟨i, S, rfl, rfl, hi, hgk, HB, HS⟩ := hrel
        by_cases hlt : i < m
        · have hltz : (i : Int) < (m : Int) := by omega
          obtain ⟨g, cp', hq⟩ := (row_forms HO.out).resolve_left (fun h => by omega)
          obtain ⟨rfl, rfl⟩ : q2 = some ⟨g, 0, none⟩ ∧ cp2 = cp' := by simp at hq; exact hq
          clear hq
          obtain ⟨r, hr⟩ : ∃ r, Q[i]? = some r := ⟨_, List.getElem?_eq_getElem (by rw [← HM.out]; exact hlt)⟩
          have hrm := HRB.out r (List.mem_of_getElem? hr)
          have htk := sepB_take [44] (Q.map rg1) i (rg1 r) (by rw [List.getElem?_map, hr]; rfl)
          have hl1 := sepB_rg Q i
          have hl2 := dig_len r.1
          have hl3 := dig_len r.2
          have hro : ∀ w', Below wr.drew.heap.size wr.drew w' → w'.cell? ⟨g, i * 2, none⟩ = some (.int .i64 (r.1 : Int)) ∧ w'.cell? ⟨g, i * 2 + 1, none⟩ = some (.int .i64 (r.2 : Int)) ∧ Hid (Below w2.heap.size w2 w') := by
            intro w' hb'
            have hbw : Below w2.heap.size w2 w' := (below_drawn HB.out 1).trans (hb'.mono HB.out.size)
            have h1 := own_at HO.out (hbw.block g (row_base HO.out).2.2.2)
            have hil := (List.getElem?_eq_some_iff.1 hr)
            obtain ⟨hil, hie⟩ := hil
            refine ⟨row_cell h1 ?_, row_cell h1 ?_, hbw⟩
            · rw [rcells_lo Q i hil, hie]
            · rw [rcells_hi Q i hil, hie]
          obtain ⟨A1, hA1⟩ : ∃ A, A = bs (dig r.1) := ⟨_, rfl⟩
          obtain ⟨A2, hA2⟩ : ∃ A, A = bs (dig r.2) := ⟨_, rfl⟩
          have HD1 : Hid (∀ W, Calls Tryz.prog 57 #[.int .i64 (r.1 : Int)] W fun e w' => e = .returned (.string A1) ∧ Below W.heap.size W w') := fun W => by rw [hA1]; exact digits_any 2 r.1 (by decide) (by omega) (by omega) W
          have HD2 : Hid (∀ W, Calls Tryz.prog 57 #[.int .i64 (r.2 : Int)] W fun e w' => e = .returned (.string A2) ∧ Below W.heap.size W w') := fun W => by rw [hA2]; exact digits_any 2 r.2 (by decide) (by omega) (by omega) W
          have HSL : Hid ((sepB [44] ((Q.map rg1).take i)).length ≤ 3000) := by unfold Hid; rw [← HM.out] at hl1; omega
          obtain ⟨f1, f2, _⟩ := hro wr.drew (Below.refl _ _)
          have HF := Lib.hid hro
          have HTK := Lib.hid htk
          obtain ⟨lo, hi'⟩ := r
          simp only at f1 f2 HF hA1 hA2 hl2 hl3 HD1 HD2
          by_cases hi0 : i = 0
          · have hi0z : ¬ (i : Int) > 0 := by omega
            have hHS : S = bs (sepB [44] ((Q.map rg1).take i) ++ []) := by rw [List.append_nil]; exact HS.out
            have hTT : sepB [44] ((Q.map rg1).take i) ++ [] ++ dig lo ++ [45] ++ dig hi' = sepB [44] ((Q.map rg1).take (i + 1)) := by rw [HTK.out, if_pos hi0]; simp [rg1]
            clear hi0
            obtain ⟨U1, hU1, sum1⟩ := add_is hHS hA1 (by have := HSL.out; simp; omega)
            obtain ⟨U2, hU2, sum2⟩ := add_is (A := ⟨#[45]⟩) (y := [45]) hU1 rfl (by have := HSL.out; simp; omega)
            obtain ⟨U3, hU3, sum3⟩ := add_is hU2 hA2 (by have := HSL.out; simp; omega)
            rw [hTT] at hU3
            have HU3 := Lib.hid hU3
            clear hU1 hU2 hU3 hA1 hA2 hl1 hl2 hl3 htk hrm hro hr hHS hTT
            go_wp2_with fail
            go_region_law (first
              | (go_simp; go_at_call 57; (with_reducible (refine (HD1.out wr.drew).mono ?_)); rintro _ w3 ⟨rfl, hb3⟩; obtain ⟨g1, g2, HB3⟩ := HF.out w3 hb3; have HB33 := Lib.hid hb3; clear hb3)
              | (go_simp; go_at_call 57; (with_reducible (refine (HD2.out wr.drew).mono ?_)); rintro _ w3 ⟨rfl, hb3⟩; obtain ⟨g1, g2, HB3⟩ := HF.out w3 hb3; have HB33 := Lib.hid hb3; clear hb3)
              | (go_simp; go_at_call 57; (with_reducible (refine (HD2.out w3).mono ?_)); rintro _ w4 ⟨rfl, hb4⟩; obtain ⟨h1, h2, HB4⟩ := HF.out w4 (HB33.out.trans (hb4.mono HB33.out.size)); clear hb4)
              | (go_simp; go_at_call 57; (with_reducible (refine (HD1.out w3).mono ?_)); rintro _ w4 ⟨rfl, hb4⟩; obtain ⟨h1, h2, HB4⟩ := HF.out w4 (HB33.out.trans (hb4.mono HB33.out.size)); clear hb4)
              | fail)
            all_goals go_wp2
            all_goals
              go_roundg (m - (i + 1))
              case measure => omega
              case rel => exact ⟨i + 1, U3, rfl, by go_num, by omega, Nat.le_refl _, HB4, HU3.out⟩
          · have hi0z : (i : Int) > 0 := by omega
            obtain ⟨S0, hS0, sum0⟩ := add_is (A := ⟨#[44]⟩) (y := [44]) HS.out rfl (by have := HSL.out; simp; omega)
            have hHS := hS0
            have hTT : sepB [44] ((Q.map rg1).take i) ++ [44] ++ dig lo ++ [45] ++ dig hi' = sepB [44] ((Q.map rg1).take (i + 1)) := by rw [HTK.out, if_neg hi0]; simp [rg1]
            clear hi0
            obtain ⟨U1, hU1, sum1⟩ := add_is hHS hA1 (by have := HSL.out; simp; omega)
            obtain ⟨U2, hU2, sum2⟩ := add_is (A := ⟨#[45]⟩) (y := [45]) hU1 rfl (by have := HSL.out; simp; omega)
            obtain ⟨U3, hU3, sum3⟩ := add_is hU2 hA2 (by have := HSL.out; simp; omega)
            rw [hTT] at hU3
            have HU3 := Lib.hid hU3
            clear hU1 hU2 hU3 hA1 hA2 hl1 hl2 hl3 htk hrm hro hr hHS hTT hS0
            go_wp2_with fail
            go_region_law (first
              | (go_simp; go_at_call 57; (with_reducible (refine (HD1.out wr.drew).mono ?_)); rintro _ w3 ⟨rfl, hb3⟩; obtain ⟨g1, g2, HB3⟩ := HF.out w3 hb3; have HB33 := Lib.hid hb3; clear hb3)
              | (go_simp; go_at_call 57; (with_reducible (refine (HD2.out wr.drew).mono ?_)); rintro _ w3 ⟨rfl, hb3⟩; obtain ⟨g1, g2, HB3⟩ := HF.out w3 hb3; have HB33 := Lib.hid hb3; clear hb3)
              | (go_simp; go_at_call 57; (with_reducible (refine (HD2.out w3).mono ?_)); rintro _ w4 ⟨rfl, hb4⟩; obtain ⟨h1, h2, HB4⟩ := HF.out w4 (HB33.out.trans (hb4.mono HB33.out.size)); clear hb4)
              | (go_simp; go_at_call 57; (with_reducible (refine (HD1.out w3).mono ?_)); rintro _ w4 ⟨rfl, hb4⟩; obtain ⟨h1, h2, HB4⟩ := HF.out w4 (HB33.out.trans (hb4.mono HB33.out.size)); clear hb4)
              | fail)
            all_goals go_wp2
            all_goals
              go_roundg (m - (i + 1))
              case measure => omega
              case rel => exact ⟨i + 1, U3, rfl, by go_num, by omega, Nat.le_refl _, HB4, HU3.out⟩
        · have hltz : ¬ (i : Int) < (m : Int) := by omega
          have hSS : S = bs (sepB [44] (Q.map rg1)) := by
            have h := HS.out
            rw [List.take_of_length_le (by rw [List.length_map, ← HM.out]; omega)] at h
            exact h
          obtain ⟨T1, hT1, sum1⟩ := add_is (S := ⟨#[91]⟩) (x := [91]) rfl hSS (by have := sepR_len Q; rw [← HM.out] at this; simp; omega)
          obtain ⟨T2, hT2, sum2⟩ := add_is (A := ⟨#[93]⟩) (y := [93]) hT1 rfl (by have := sepR_len Q; rw [← HM.out] at this; simp; omega)
          have HT2 := Lib.hid hT2
          clear hSS hT1 hT2
          go_wp2_with fail
          go_ret
          refine ⟨?_, HB1.out.trans ((HB2.out.trans (HB.out.mono HB2.out.size)).mono HB1.out.size)⟩
          have e9 : T = bs (91 :: (rngT ⟨a, b, c, d⟩ ++ [93])) := HT.out
          rw [e9, HRT.out]
          show _ = Ending.returned (.string (bs (91 :: (sepB [44] (Q.map rg1) ++ [93]))))
          rw [show (91 :: (sepB [44] (Q.map rg1) ++ [93]) : Tx) = [91] ++ sepB [44] (Q.map rg1) ++ [93] by simp, ← HT2.out]
          exact rfl
    by_cases e5 : k = 5
    · subst e5
      go_enter Tryz.func51, Tryz.ntmps51
      go_wp2_with fail
      rw [← HW1.out, ← HBB.out]
      clear k0 k1 k2 k3 k4 k5
      go_loopg [3, 6] n (fun gk vs vi wr => ∃ (i : Nat) (S : ByteArray), vs = .string S ∧ vi = .int .i64 (i : Int) ∧ i ≤ n ∧ n - i ≤ gk ∧ Hid (Below w1.heap.size w1 wr) ∧ Hid (S = bs (sepB [] ((L.map txt).take i))))
      case atStart => exact ⟨0, bs [], rfl, rfl, by omega, by omega, Below.refl _ _, rfl⟩
      case round =>
        obtain ⟨i, S, rfl, rfl, hi, hgk, HB, HS⟩ := hrel
        have hnr : wr.heap[B0]? = some (.cells #[.int .i64 5, .int .u64 a, .int .u64 b, .int .u64 c, .int .u64 d, .slice p n cap] 28 (0, 0)) := (HB.out.block B0 HLT.out).trans HN1.out
        have k0 : wr.cell? ⟨B0, 0, none⟩ = some (.int .i64 5) := by simp [World.cell?, hnr]
        have k5 : wr.cell? ⟨B0, 5, none⟩ = some (.slice p n cap) := by simp [World.cell?, hnr]
        clear hnr
        by_cases hlt : i < n
        · have hltz : (i : Int) < (n : Int) := by omega
          obtain ⟨g, off, rfl⟩ := HK.out.rowv.some_of hlt
          have hil : i < L.length := by rw [← HNU.out]; exact hlt
          obtain ⟨y, hy⟩ : ∃ y, vs[i]? = some y := ⟨_, List.getElem?_eq_getElem (by rw [HK.out.len]; exact hil)⟩
          obtain ⟨u, hu⟩ : ∃ u, L[i]? = some u := ⟨_, List.getElem?_eq_getElem hil⟩
          have hpl := HK.out.place hy
          have hra := (HK.out.each i y u hy hu).under HB.out
          have hus : u.sz ≤ 9000000000 := by have := sum_mem (List.mem_of_getElem? hu); have := HKS.out; omega
          have c9 := HIH.out u y wr (HKD.out u (List.mem_of_getElem? hu)) hra hus
          have htk := sepB_take [] (L.map txt) i (txt u) (by rw [List.getElem?_map, hu]; rfl)
          have hl1 := sepB_pre [] (by decide) L i
          have hl2 := txt_len u
          obtain ⟨A, hA⟩ : ∃ A, A = bs (txt u) := ⟨_, rfl⟩
          unfold GivesTx at c9
          rw [← hA] at c9
          obtain ⟨y0, y1, y2, y3, y4, y5, y6, y7⟩ := y
          obtain ⟨p0, p1, p2, p3, p4, p5⟩ := (hpl.under HB.out).six
          simp only at p0 p1 p2 p3 p4 p5
          unfold ReV.val at c9
          simp only at c9
          have HTK := Lib.hid htk
          have HSL : Hid ((sepB [] ((L.map txt).take i)).length ≤ 40000000000000) := by unfold Hid; have := HKS.out; omega
          have HAL : Hid ((txt u).length ≤ 40000000000000) := by unfold Hid; omega
          have HAA := Lib.hid hA
          clear hpl hra hus htk hl1 hl2 hA hy hu hil
          have hTT : sepB [] ((L.map txt).take i) ++ txt u = sepB [] ((L.map txt).take (i + 1)) := by rw [HTK.out]; split <;> simp
          obtain ⟨U, hU, sum1⟩ := add_is HS.out HAA.out (by have := HSL.out; have := HAL.out; simp; omega)
          rw [hTT] at hU
          have HU := Lib.hid hU
          clear hU hTT
          go_wp2_with fail
          ((with_reducible refine c9.mono ?_))
          rintro _ w3 ⟨rfl, hb3⟩
          have HB3 : Hid (Below w1.heap.size w1 w3) := HB.out.trans (hb3.mono HB.out.size)
          clear hb3 c9
          go_wp2
          go_roundg (n - (i + 1))
          case measure => omega
          case rel => exact ⟨i + 1, U, rfl, by go_num, by omega, Nat.le_refl _, HB3, HU.out⟩
        · have hltz : ¬ (i : Int) < (n : Int) := by omega
          have hSS : S = bs (sepB [] (L.map txt)) := by
            have h := HS.out
            rw [List.take_of_length_le (by rw [List.length_map, ← HNU.out]; omega)] at h
            exact h
          have hl9 : (sepB [] (L.map txt)).length ≤ 40000000000000 := by
            have h := sepB_pre [] (by decide) L L.length
            rw [List.take_of_length_le (by rw [List.length_map]; exact Nat.le_refl _)] at h
            have := HKS.out
            omega
          obtain ⟨T1, hT1, sum1⟩ := add_is (A := ⟨#[42]⟩) (y := [42]) hSS rfl (by simp; omega)
          have HT1 := Lib.hid hT1
          clear hSS hT1 hl9
          go_wp2_with fail
          go_ret
          refine ⟨?_, HB1.out.trans (HB.out.mono HB1.out.size)⟩
          have e9 : T = bs (sepB [] (L.map txt) ++ [42]) := HT.out
          rw [e9, ← HT1.out]
          exact rfl
    by_cases e3 : k = 3
    · subst e3
      go_enter Tryz.func51, Tryz.ntmps51
      go_wp2_with fail
      rw [← HW1.out, ← HBB.out]
      clear k0 k1 k2 k3 k4 k5
      go_loopg [3, 7] n (fun gk vs vi wr => ∃ (i : Nat) (S : ByteArray), vs = .string S ∧ vi = .int .i64 (i : Int) ∧ i ≤ n ∧ n - i ≤ gk ∧ Hid (Below w1.heap.size w1 wr) ∧ Hid (S = bs (sepB [] ((L.map txt).take i))))
      case atStart => exact ⟨0, bs [], rfl, rfl, by omega, by omega, Below.refl _ _, rfl⟩
      case round =>
        obtain ⟨i, S, rfl, rfl, hi, hgk, HB, HS⟩ := hrel
        have hnr : wr.heap[B0]? = some (.cells #[.int .i64 3, .int .u64 a, .int .u64 b, .int .u64 c, .int .u64 d, .slice p n cap] 28 (0, 0)) := (HB.out.block B0 HLT.out).trans HN1.out
        have k0 : wr.cell? ⟨B0, 0, none⟩ = some (.int .i64 3) := by simp [World.cell?, hnr]
        have k5 : wr.cell? ⟨B0, 5, none⟩ = some (.slice p n cap) := by simp [World.cell?, hnr]
        clear hnr
        by_cases hlt : i < n
        · have hltz : (i : Int) < (n : Int) := by omega
          obtain ⟨g, off, rfl⟩ := HK.out.rowv.some_of hlt
          have hil : i < L.length := by rw [← HNU.out]; exact hlt
          obtain ⟨y, hy⟩ : ∃ y, vs[i]? = some y := ⟨_, List.getElem?_eq_getElem (by rw [HK.out.len]; exact hil)⟩
          obtain ⟨u, hu⟩ : ∃ u, L[i]? = some u := ⟨_, List.getElem?_eq_getElem hil⟩
          have hpl := HK.out.place hy
          have hra := (HK.out.each i y u hy hu).under HB.out
          have hus : u.sz ≤ 9000000000 := by have := sum_mem (List.mem_of_getElem? hu); have := HKS.out; omega
          have c9 := HIH.out u y wr (HKD.out u (List.mem_of_getElem? hu)) hra hus
          have htk := sepB_take [] (L.map txt) i (txt u) (by rw [List.getElem?_map, hu]; rfl)
          have hl1 := sepB_pre [] (by decide) L i
          have hl2 := txt_len u
          obtain ⟨A, hA⟩ : ∃ A, A = bs (txt u) := ⟨_, rfl⟩
          unfold GivesTx at c9
          rw [← hA] at c9
          obtain ⟨y0, y1, y2, y3, y4, y5, y6, y7⟩ := y
          obtain ⟨p0, p1, p2, p3, p4, p5⟩ := (hpl.under HB.out).six
          simp only at p0 p1 p2 p3 p4 p5
          unfold ReV.val at c9
          simp only at c9
          have HTK := Lib.hid htk
          have HSL : Hid ((sepB [] ((L.map txt).take i)).length ≤ 40000000000000) := by unfold Hid; have := HKS.out; omega
          have HAL : Hid ((txt u).length ≤ 40000000000000) := by unfold Hid; omega
          have HAA := Lib.hid hA
          clear hpl hra hus htk hl1 hl2 hA hy hu hil
          by_cases hi0 : i = 0
          · have hi0z : ¬ (i : Int) > 0 := by omega
            clear hi0
            have hTT : sepB [] ((L.map txt).take i) ++ txt u = sepB [] ((L.map txt).take (i + 1)) := by rw [HTK.out]; split <;> simp
            obtain ⟨U, hU, sum1⟩ := add_is HS.out HAA.out (by have := HSL.out; have := HAL.out; simp; omega)
            rw [hTT] at hU
            have HU := Lib.hid hU
            clear hU hTT
            go_wp2_with fail
            ((with_reducible refine c9.mono ?_))
            rintro _ w3 ⟨rfl, hb3⟩
            have HB3 : Hid (Below w1.heap.size w1 w3) := HB.out.trans (hb3.mono HB.out.size)
            clear hb3 c9
            go_wp2
            go_roundg (n - (i + 1))
            case measure => omega
            case rel => exact ⟨i + 1, U, rfl, by go_num, by omega, Nat.le_refl _, HB3, HU.out⟩
          · have hi0z : (i : Int) > 0 := by omega
            clear hi0
            have hTT : sepB [] ((L.map txt).take i) ++ txt u = sepB [] ((L.map txt).take (i + 1)) := by rw [HTK.out]; split <;> simp
            obtain ⟨U, hU, sum1⟩ := add_is HS.out HAA.out (by have := HSL.out; have := HAL.out; simp; omega)
            rw [hTT] at hU
            have HU := Lib.hid hU
            clear hU hTT
            go_wp2_with fail
            ((with_reducible refine c9.mono ?_))
            rintro _ w3 ⟨rfl, hb3⟩
            have HB3 : Hid (Below w1.heap.size w1 w3) := HB.out.trans (hb3.mono HB.out.size)
            clear hb3 c9
            go_wp2
            go_roundg (n - (i + 1))
            case measure => omega
            case rel => exact ⟨i + 1, U, rfl, by go_num, by omega, Nat.le_refl _, HB3, HU.out⟩
        · have hltz : ¬ (i : Int) < (n : Int) := by omega
          have hSS : S = bs (sepB [] (L.map txt)) := by
            have h := HS.out
            rw [List.take_of_length_le (by rw [List.length_map, ← HNU.out]; omega)] at h
            exact h
          have hl9 : (sepB [] (L.map txt)).length ≤ 40000000000000 := by
            have h := sepB_pre [] (by decide) L L.length
            rw [List.take_of_length_le (by rw [List.length_map]; exact Nat.le_refl _)] at h
            have := HKS.out
            omega
          obtain ⟨T1, hT1, sum1⟩ := add_is (S := ⟨#[40]⟩) (x := [40]) rfl hSS (by simp; omega)
          obtain ⟨T2, hT2, sum2⟩ := add_is (A := ⟨#[41]⟩) (y := [41]) hT1 rfl (by simp; omega)
          have HT2 := Lib.hid hT2
          clear hSS hT1 hT2 hl9
          go_wp2_with fail
          go_ret
          refine ⟨?_, HB1.out.trans (HB.out.mono HB1.out.size)⟩
          have e9 : T = bs (40 :: (sepB [] (L.map txt) ++ [41])) := HT.out
          rw [e9, show (40 :: (sepB [] (L.map txt) ++ [41]) : Tx) = [40] ++ sepB [] (L.map txt) ++ [41] by simp, ← HT2.out]
          exact rfl
    · have HE : Hid (¬ k = 0 ∧ ¬ k = 1 ∧ ¬ k = 2 ∧ ¬ k = 3 ∧ ¬ k = 5) := ⟨e0, e1, e2, e3, e5⟩
      have z0 : (k == 0) = false := by simpa using e0
      have z1 : (k == 1) = false := by simpa using e1
      have z2 : (k == 2) = false := by simpa using e2
      have z3 : (k == 3) = false := by simpa using e3
      have z5 : (k == 5) = false := by simpa using e5
      clear e0 e1 e2 e3 e5
      go_enter Tryz.func51, Tryz.ntmps51
      go_wp2_with fail
      rw [← HW1.out, ← HBB.out]
      clear k0 k1 k2 k3 k4 k5
      go_loopg [3, 7] n (fun gk vs vi wr => ∃ (i : Nat) (S : ByteArray), vs = .string S ∧ vi = .int .i64 (i : Int) ∧ i ≤ n ∧ n - i ≤ gk ∧ Hid (Below w1.heap.size w1 wr) ∧ Hid (S = bs (sepB [124] ((L.map txt).take i))))
      case atStart => exact ⟨0, bs [], rfl, rfl, by omega, by omega, Below.refl _ _, rfl⟩
      case round =>
        obtain ⟨i, S, rfl, rfl, hi, hgk, HB, HS⟩ := hrel
        have hnr : wr.heap[B0]? = some (.cells #[.int .i64 k, .int .u64 a, .int .u64 b, .int .u64 c, .int .u64 d, .slice p n cap] 28 (0, 0)) := (HB.out.block B0 HLT.out).trans HN1.out
        have k0 : wr.cell? ⟨B0, 0, none⟩ = some (.int .i64 k) := by simp [World.cell?, hnr]
        have k5 : wr.cell? ⟨B0, 5, none⟩ = some (.slice p n cap) := by simp [World.cell?, hnr]
        clear hnr
        by_cases hlt : i < n
        · have hltz : (i : Int) < (n : Int) := by omega
          obtain ⟨g, off, rfl⟩ := HK.out.rowv.some_of hlt
          have hil : i < L.length := by rw [← HNU.out]; exact hlt
          obtain ⟨y, hy⟩ : ∃ y, vs[i]? = some y := ⟨_, List.getElem?_eq_getElem (by rw [HK.out.len]; exact hil)⟩
          obtain ⟨u, hu⟩ : ∃ u, L[i]? = some u := ⟨_, List.getElem?_eq_getElem hil⟩
          have hpl := HK.out.place hy
          have hra := (HK.out.each i y u hy hu).under HB.out
          have hus : u.sz ≤ 9000000000 := by have := sum_mem (List.mem_of_getElem? hu); have := HKS.out; omega
          have c9 := HIH.out u y wr (HKD.out u (List.mem_of_getElem? hu)) hra hus
          have htk := sepB_take [124] (L.map txt) i (txt u) (by rw [List.getElem?_map, hu]; rfl)
          have hl1 := sepB_pre [124] (by decide) L i
          have hl2 := txt_len u
          obtain ⟨A, hA⟩ : ∃ A, A = bs (txt u) := ⟨_, rfl⟩
          unfold GivesTx at c9
          rw [← hA] at c9
          obtain ⟨y0, y1, y2, y3, y4, y5, y6, y7⟩ := y
          obtain ⟨p0, p1, p2, p3, p4, p5⟩ := (hpl.under HB.out).six
          simp only at p0 p1 p2 p3 p4 p5
          unfold ReV.val at c9
          simp only at c9
          have HTK := Lib.hid htk
          have HSL : Hid ((sepB [124] ((L.map txt).take i)).length ≤ 40000000000000) := by unfold Hid; have := HKS.out; omega
          have HAL : Hid ((txt u).length ≤ 40000000000000) := by unfold Hid; omega
          have HAA := Lib.hid hA
          clear hpl hra hus htk hl1 hl2 hA hy hu hil
          by_cases hi0 : i = 0
          · have hi0z : ¬ (i : Int) > 0 := by omega
            have hTT : sepB [124] ((L.map txt).take i) ++ txt u = sepB [124] ((L.map txt).take (i + 1)) := by rw [HTK.out, if_pos hi0]; simp
            clear hi0
            obtain ⟨U, hU, sum1⟩ := add_is HS.out HAA.out (by have := HSL.out; have := HAL.out; simp; omega)
            rw [hTT] at hU
            have HU := Lib.hid hU
            clear hU hTT
            go_wp2_with fail
            ((with_reducible refine c9.mono ?_))
            rintro _ w3 ⟨rfl, hb3⟩
            have HB3 : Hid (Below w1.heap.size w1 w3) := HB.out.trans (hb3.mono HB.out.size)
            clear hb3 c9
            go_wp2
            go_roundg (n - (i + 1))
            case measure => omega
            case rel => exact ⟨i + 1, U, rfl, by go_num, by omega, Nat.le_refl _, HB3, HU.out⟩
          · have hi0z : (i : Int) > 0 := by omega
            obtain ⟨S0, hS0, sum0⟩ := add_is (A := ⟨#[124]⟩) (y := [124]) HS.out rfl (by have := HSL.out; simp; omega)
            have hTT : sepB [124] ((L.map txt).take i) ++ [124] ++ txt u = sepB [124] ((L.map txt).take (i + 1)) := by rw [HTK.out, if_neg hi0]
            clear hi0
            obtain ⟨U, hU, sum1⟩ := add_is hS0 HAA.out (by have := HSL.out; have := HAL.out; simp; omega)
            rw [hTT] at hU
            have HU := Lib.hid hU
            clear hU hTT hS0
            go_wp2_with fail
            ((with_reducible refine c9.mono ?_))
            rintro _ w3 ⟨rfl, hb3⟩
            have HB3 : Hid (Below w1.heap.size w1 w3) := HB.out.trans (hb3.mono HB.out.size)
            clear hb3 c9
            go_wp2
            go_roundg (n - (i + 1))
            case measure => omega
            case rel => exact ⟨i + 1, U, rfl, by go_num, by omega, Nat.le_refl _, HB3, HU.out⟩
        · have hltz : ¬ (i : Int) < (n : Int) := by omega
          have hSS : S = bs (sepB [124] (L.map txt)) := by
            have h := HS.out
            rw [List.take_of_length_le (by rw [List.length_map, ← HNU.out]; omega)] at h
            exact h
          have hl9 : (sepB [124] (L.map txt)).length ≤ 40000000000000 := by
            have h := sepB_pre [124] (by decide) L L.length
            rw [List.take_of_length_le (by rw [List.length_map]; exact Nat.le_refl _)] at h
            have := HKS.out
            omega
          obtain ⟨T1, hT1, sum1⟩ := add_is (S := ⟨#[123]⟩) (x := [123]) rfl hSS (by simp; omega)
          obtain ⟨T2, hT2, sum2⟩ := add_is (A := ⟨#[125]⟩) (y := [125]) hT1 rfl (by simp; omega)
          have HT2 := Lib.hid hT2
          clear hSS hT1 hT2 hl9
          go_wp2_with fail
          go_ret
          refine ⟨?_, HB1.out.trans (HB.out.mono HB1.out.size)⟩
          have e9 : T = bs (123 :: (sepB [124] (L.map txt) ++ [125])) := by rw [HT.out, if_neg HE.out.1, if_neg HE.out.2.1, if_neg HE.out.2.2.1, if_neg HE.out.2.2.2.1, if_neg HE.out.2.2.2.2]
          rw [e9, show (123 :: (sepB [124] (L.map txt) ++ [125]) : Tx) = [123] ++ sepB [124] (L.map txt) ++ [125] by simp, ← HT2.out]
          exact rfl

end Go.Proofs.YtclnadjgbpihcaaGreatDoor
