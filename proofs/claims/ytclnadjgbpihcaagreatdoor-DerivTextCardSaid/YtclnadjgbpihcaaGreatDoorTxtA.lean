/- The text of an expression, part by part, as the program writes it. No condition. -/
import Derived.Test.YtclnadjgbpihcaaGreatDoorReMath
import Derived.Lib.Bytealg
import Derived.Shelf.Strconv.Itoa3
namespace Go.Proofs.YtclnadjgbpihcaaGreatDoor
open Go.Lib
set_option linter.unusedVariables false
set_option linter.unusedSimpArgs false

theorem itoa_dig (n : Nat) (hn : n ≤ 255) : Lib.itoa (n : Int) = dig n := by
  have key : ∀ i : Fin 256, Lib.itoa ((i.val : Nat) : Int) = dig i.val := by decide +kernel
  exact key ⟨n, by omega⟩
/-- What is written up to the kids, what stands between them, and behind them. -/
def headT (t : RT) : Tx := if t.kind = 0 then [48] else if t.kind = 1 then [49] else if t.kind = 2 then 91 :: (rngT t.set ++ [93]) else if t.kind = 5 then [] else if t.kind = 3 then [40] else [123]
def btwT (t : RT) : Tx := if t.kind = 0 ∨ t.kind = 1 ∨ t.kind = 2 ∨ t.kind = 3 ∨ t.kind = 5 then [] else [124]
def endT (t : RT) : Tx := if t.kind = 0 ∨ t.kind = 1 ∨ t.kind = 2 then [] else if t.kind = 5 then [42] else if t.kind = 3 then [41] else [125]
def partK (t : RT) : List RT := if t.kind = 0 ∨ t.kind = 1 ∨ t.kind = 2 then [] else t.kids
theorem txt_parts (t : RT) : txt t = headT t ++ (sepB (btwT t) ((partK t).map txt) ++ endT t) := by
  obtain ⟨k, s, kids⟩ := t
  rw [txt_mk]
  unfold headT btwT endT partK
  show _ = (if k = 0 then [48] else if k = 1 then [49] else if k = 2 then 91 :: (rngT s ++ [93]) else if k = 5 then [] else if k = 3 then [40] else [123]) ++ (sepB (if k = 0 ∨ k = 1 ∨ k = 2 ∨ k = 3 ∨ k = 5 then [] else [124]) ((if k = 0 ∨ k = 1 ∨ k = 2 then [] else kids).map txt) ++ (if k = 0 ∨ k = 1 ∨ k = 2 then [] else if k = 5 then [42] else if k = 3 then [41] else [125]))
  by_cases k0 : k = 0
  · subst k0; simp [sepB]
  · by_cases k1 : k = 1
    · subst k1; simp [sepB]
    · by_cases k2 : k = 2
      · subst k2; simp [sepB]
      · by_cases k3 : k = 3
        · subst k3; simp
        · by_cases k5 : k = 5
          · subst k5; simp
          · simp [k0, k1, k2, k3, k5]
theorem partK_dep {t u : RT} {n : Nat} (h : u ∈ partK t) (hd : t.dep ≤ n + 1) : u.dep ≤ n := by
  unfold partK at h
  split at h
  · simp at h
  · obtain ⟨k, s, kids⟩ := t
    exact dep_mk.1 hd u h
theorem sepB_snoc (c : Tx) : ∀ (l : List Tx) (x : Tx), sepB c (l ++ [x]) = sepB c l ++ (if l = [] then [] else c) ++ x
  | [], x => by simp [sepB]
  | [y], x => by simp [sepB]
  | y :: z :: l, x => by
    have := sepB_snoc c (z :: l) x
    simp only [List.cons_append] at this ⊢
    rw [sepB, this, sepB]
    simp
theorem dig_len (n : Nat) : (dig n).length ≤ 3 := by
  unfold dig
  rw [digF]
  split
  · simp
  · rw [digF]
    split
    · simp
    · simp [digF]
def rg1 (r : Nat × Nat) : Tx := dig r.1 ++ 45 :: dig r.2
theorem sepR_len (l : List (Nat × Nat)) : (sepB [44] (l.map rg1)).length ≤ 8 * l.length := by
  have hd := dig_len
  induction l with
  | nil => simp [sepB]
  | cons r l ih =>
    have h1 := hd r.1
    have h2 := hd r.2
    cases l with
    | nil =>
      simp only [List.map_cons, List.map_nil, sepB, rg1, List.length_append, List.length_cons]
      simp
      omega
    | cons q l =>
      simp only [List.map_cons, sepB, List.length_append, List.length_cons] at ih ⊢
      simp only [rg1, List.length_append, List.length_cons, List.length_nil] at ih ⊢
      omega
theorem rngT_is (s : W4) : rngT s = sepB [44] ((rgs s.mem 256).map rg1) := rfl
theorem rngT_len (s : W4) : (rngT s).length ≤ 2048 := by
  have := sepR_len (rgs s.mem 256)
  have h3 := rgs_len s.mem 256
  rw [rngT_is]
  omega
theorem sepB_len (c : Tx) (hc : c.length ≤ 1) : ∀ l : List Tx, (sepB c l).length ≤ (l.map fun x => x.length + 1).sum
  | [] => by simp [sepB]
  | [x] => by simp [sepB]
  | x :: y :: l => by
    have := sepB_len c hc (y :: l)
    simp only [sepB, List.map_cons, List.sum_cons, List.length_append] at this ⊢
    omega
/-- How long a text is. -/
theorem txt_len (t : RT) : (txt t).length + 1 ≤ 3000 * t.sz := by
  induction t using RT.ind with
  | h k s kids ih =>
    have h1 : ((kids.map txt).map fun x => x.length + 1).sum ≤ 3000 * (kids.map RT.sz).sum := by
      clear s
      induction kids with
      | nil => simp
      | cons a l ih2 =>
        have ha := ih a (by simp)
        have hl := ih2 fun t ht => ih t (by simp [ht])
        simp only [List.map_cons, List.sum_cons]
        omega
    have h2 := sepB_len (btwT (.mk k s kids)) (by unfold btwT; split <;> simp) ((partK (.mk k s kids)).map txt)
    have h3 : (((partK (.mk k s kids)).map txt).map fun x => x.length + 1).sum ≤ 3000 * (kids.map RT.sz).sum := by
      unfold partK
      split
      · simp
      · exact h1
    have h4 := rngT_len s
    rw [txt_parts, sz_mk]
    simp only [List.length_append]
    have h5 : (headT (.mk k s kids)).length ≤ 2050 := by
      rw [show headT (.mk k s kids) = (if k = 0 then [48] else if k = 1 then [49] else if k = 2 then 91 :: (rngT s ++ [93]) else if k = 5 then [] else if k = 3 then [40] else [123]) from rfl]
      split
      · simp
      · split
        · simp
        · split
          · simp; omega
          · split
            · simp
            · split <;> simp
    have h6 : (endT (.mk k s kids)).length ≤ 1 := by
      unfold endT
      split
      · simp
      · split
        · simp
        · split <;> simp
    omega

end Go.Proofs.YtclnadjgbpihcaaGreatDoor

