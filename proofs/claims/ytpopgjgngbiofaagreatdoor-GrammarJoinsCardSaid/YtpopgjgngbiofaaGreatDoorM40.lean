/- What the laws of the grammar rest on, part 40: made by tools/merge5.py out of GWays. No condition but those that each says. -/
import Derived.Test.YtpopgjgngbiofaaGreatDoorM27
set_option linter.unusedVariables false
set_option linter.unusedSimpArgs false
set_option maxRecDepth 100000
set_option maxHeartbeats 8000000
namespace Go.Proofs.YtpopgjgngbiofaaGreatDoor
def wayN : Nat -> Tree
 | 0 => foT [120]
 | 1 => rfT nDigit
 | 2 => spT 65 66
 | 3 => seT [rfT [98], rfT [99]]
 | 4 => reT 0 1 (rfT [98])
 | _ => reT 0 (-1) (rfT [99])
def wayT : Nat -> List Int
 | 0 => [34, 120, 34]
 | 1 => [100, 105, 103, 105, 116]
 | 2 => [37, 120, 52, 49, 45, 52, 50]
 | 3 => [98, 32, 99]
 | 4 => [91, 98, 93]
 | _ => [42, 99]
theorem way_text : ∀ n, n < 6 -> brT ((wayN n).kind == 1) (textF 49 (wayN n)) = wayT n /\ lineT ⟨[97], true, wayN n⟩ = [97, 32, 61, 47, 32] ++ wayT n ++ [10] := by decide +kernel
theorem way_ok : ∀ n, n < 6 -> (rightF 49 (wayN n) && rightF 50 (wayN n) && decide ((wayN n).kind ≠ 1) && decide ((wayT n).length <= 10) && (wayT n).all (fun c => decide (0 <= c) && decide (c <= 255))) = true := by decide +kernel
theorem way_more : ∀ n, n < 6 -> (wayN n).tw <= 20 /\ ∀ x ∈ namesM (wayN n), x = [98] \/ x = [99] \/ x = nDigit := by
 intro n hn
 have h : n = 0 \/ n = 1 \/ n = 2 \/ n = 3 \/ n = 4 \/ n = 5 := by omega
 rcases h with rfl | rfl | rfl | rfl | rfl | rfl <;> simp [wayN, foT, rfT, spT, seT, reT, Tree.tw, namesM, nDigit]
theorem foT_tw (c : Int) : (foT [c]).tw = 2 := by simp [foT, Tree.tw]
def wholeE (q : List Nat) : Tree := if q = [] then foT [119] else alT (foT [119] :: q.map fun n => wayN (n % 6))
def wholeL (q : List Nat) : List Rule := [⟨[97], false, wholeE q⟩, ⟨[98], false, foT [98]⟩, ⟨[99], false, foT [99]⟩]
def partsL (q : List Nat) : List Rule := [⟨[98], false, foT [98]⟩, ⟨[97], false, foT [119]⟩] ++ (q.map fun n => (⟨[97], true, wayN (n % 6)⟩ : Rule)) ++ [⟨[99], false, foT [99]⟩]
def headT : List Int := [97, 32, 61, 32, 34, 119, 34]
def wholeT (q : List Nat) : List Int := headT ++ (q.map fun n => [32, 47, 32] ++ wayT (n % 6)).flatten
def moreT (q : List Nat) : List Int := headT ++ [10] ++ (q.map fun n => [97, 32, 61, 47, 32] ++ wayT (n % 6) ++ [10]).flatten
def bT : List Int := [98, 32, 61, 32, 34, 98, 34, 10]
def cT : List Int := [99, 32, 61, 32, 34, 99, 34, 10]
theorem sep_flat (s : List Int) : ∀ (x : List Int) (l : List (List Int)), sepT s (x :: l) = x ++ (l.map fun y => s ++ y).flatten
 | x, [] => by simp [sepT]
 | x, y :: l => by
  show x ++ s ++ sepT s (y :: l) = _
  rw [sep_flat s y l]
  simp
theorem whole_text (q : List Nat) : ((wholeL q).map lineT).flatten = wholeT q ++ [10] ++ bT ++ cT := by
 have e1 : lineT ⟨[97], false, wholeE q⟩ = wholeT q ++ [10] := by
  unfold wholeE
  by_cases h : q = []
  ·subst h
   rw [if_pos rfl]
   decide +kernel
  ·rw [if_neg h]
   show [97] ++ [32, 61, 32] ++ textS (textF 49) (alT (foT [119] :: q.map fun n => wayN (n % 6))) ++ [10] = _
   have e2 : textS (textF 49) (alT (foT [119] :: q.map fun n => wayN (n % 6))) = [34, 119, 34] ++ (q.map fun n => [32, 47, 32] ++ wayT (n % 6)).flatten := by
    unfold alT textS
    simp only []
    rw [if_pos trivial, List.map_cons, sep_flat, List.map_map, List.map_map]
    congr 1
    congr 1
    apply List.map_congr_left
    intro n _
    show [32, 47, 32] ++ brT ((wayN (n % 6)).kind == 1) (textF 49 (wayN (n % 6))) = _
    rw [(way_text _ (Nat.mod_lt _ (by omega))).1]
   rw [e2]
   rfl
 have e2 : lineT ⟨[98], false, foT [98]⟩ = bT := by decide +kernel
 have e3 : lineT ⟨[99], false, foT [99]⟩ = cT := by decide +kernel
 unfold wholeL
 simp only [List.map_cons, List.map_nil, List.flatten_cons, List.flatten_nil, e1, e2, e3, List.append_nil, List.append_assoc]
theorem parts_text (q : List Nat) : ((partsL q).map lineT).flatten = bT ++ moreT q ++ cT := by
 have e2 : lineT ⟨[98], false, foT [98]⟩ = bT := by decide +kernel
 have e3 : lineT ⟨[99], false, foT [99]⟩ = cT := by decide +kernel
 have e4 : lineT ⟨[97], false, foT [119]⟩ = headT ++ [10] := by decide +kernel
 have e5 : (q.map fun n => (⟨[97], true, wayN (n % 6)⟩ : Rule)).map lineT = q.map fun n => [97, 32, 61, 47, 32] ++ wayT (n % 6) ++ [10] := by
  rw [List.map_map]
  apply List.map_congr_left
  intro n _
  exact (way_text _ (Nat.mod_lt _ (by omega))).2
 unfold partsL moreT
 simp only [List.map_append, List.map_cons, List.map_nil, List.flatten_append, List.flatten_cons, List.flatten_nil, e2, e3, e4, e5, List.append_nil, List.append_assoc]
theorem way_at (n : Nat) : rightF 49 (wayN (n % 6)) = true /\ rightF 50 (wayN (n % 6)) = true /\ (wayN (n % 6)).kind ≠ 1 /\ (wayN (n % 6)).tw <= 20 /\ (wayT (n % 6)).length <= 10 /\ (∀ c ∈ wayT (n % 6), 0 <= c /\ c <= 255) /\ ∀ x ∈ namesM (wayN (n % 6)), x = [98] \/ x = [99] \/ x = nDigit := by
 have h := way_ok (n % 6) (Nat.mod_lt _ (by omega))
 simp only [Bool.and_eq_true, List.all_eq_true, decide_eq_true_eq] at h
 obtain ⟨h4, h7⟩ := way_more (n % 6) (Nat.mod_lt _ (by omega))
 obtain ⟨⟨⟨⟨h1, h2⟩, h3⟩, h5⟩, h6⟩ := h
 exact ⟨h1, h2, h3, h4, h5, h6, h7⟩
theorem alts_one {t : Tree} (h : t.kind ≠ 1) : altsM t = [t] := by
 obtain ⟨k, x, ns, lo, hi, kids⟩ := t
 rw [alts_mk]
 exact if_neg h
theorem wholeE_right (q : List Nat) : rightF 50 (wholeE q) = true /\ (wholeE q).tw <= 3 + 20 * q.length := by
 unfold wholeE
 by_cases h : q = []
 ·subst h
  rw [if_pos rfl, foT_tw]
  exact ⟨by decide +kernel, by simp⟩
 ·rw [if_neg h]
  constructor
  ·unfold alT rightF
   rw [Bool.and_eq_true, List.all_eq_true]
   constructor
   ·unfold formB
    rw [if_pos (.inl rfl)]
    have : 1 <= q.length := by
     cases q with
     | nil => exact absurd rfl h
     | cons => simp
    simpa using this
   ·intro u hu
    rcases List.mem_cons.1 hu with rfl | hu
    ·decide +kernel
    ·obtain ⟨n, _, rfl⟩ := List.mem_map.1 hu
     exact (way_at n).1
  ·unfold alT
   rw [Tree.tw]
   have : ∀ q : List Nat, ((q.map fun n => wayN (n % 6)).map Tree.tw).sum <= 20 * q.length := fun q => by
    induction q with
    | nil => simp
    | cons n q ih =>
     have := (way_at n).2.2.2.1
     simp only [List.map_cons, List.sum_cons, List.length_cons]
     omega
   have h2 := this q
   have h3 : (foT [119]).tw = 2 := foT_tw _
   simp only [List.map_cons, List.sum_cons, List.length_nil, h3]
   omega
theorem whole_right (q : List Nat) : linesB (wholeL q) = true := by
 have h1 := (wholeE_right q).1
 unfold wholeL linesB
 simp only [List.all_cons, List.all_nil, h1]
 decide +kernel
theorem parts_right (q : List Nat) : linesB (partsL q) = true := by
 unfold partsL linesB
 rw [List.all_append, List.all_append, Bool.and_eq_true, Bool.and_eq_true]
 refine ⟨⟨by decide +kernel, ?_⟩, by decide +kernel⟩
 rw [List.all_eq_true]
 intro r hr
 obtain ⟨n, _, rfl⟩ := List.mem_map.1 hr
 rw [Bool.and_eq_true]
 exact ⟨show nameB [97] = true by decide +kernel, (way_at n).2.1⟩
theorem whole_twl (q : List Nat) : twl (wholeL q) <= 20 + 20 * q.length := by
 have h1 := (wholeE_right q).2
 have h2 : (foT [98]).tw = 2 := foT_tw _
 have h3 : (foT [99]).tw = 2 := foT_tw _
 unfold wholeL twl
 simp only [List.map_cons, List.map_nil, List.sum_cons, List.sum_nil, h2, h3]
 omega
theorem parts_twl (q : List Nat) : twl (partsL q) <= 20 + 21 * q.length := by
 have h0 : (foT [119]).tw = 2 := foT_tw _
 have h2 : (foT [98]).tw = 2 := foT_tw _
 have h3 : (foT [99]).tw = 2 := foT_tw _
 have : ∀ q : List Nat, ((q.map fun n => (⟨[97], true, wayN (n % 6)⟩ : Rule)).map fun r => r.expr.tw + 1).sum <= 21 * q.length := fun q => by
  induction q with
  | nil => simp
  | cons n q ih =>
   have := (way_at n).2.2.2.1
   simp only [List.map_cons, List.sum_cons, List.length_cons]
   omega
 have h4 := this q
 unfold partsL twl
 simp only [List.map_append, List.sum_append, List.map_cons, List.map_nil, List.sum_cons, List.sum_nil, h0, h2, h3]
 omega
theorem wayT_len : ∀ q : List Nat, ((q.map fun n => [32, 47, 32] ++ wayT (n % 6)).flatten).length <= 13 * q.length /\ ((q.map fun n => [97, 32, 61, 47, 32] ++ wayT (n % 6) ++ [10]).flatten).length <= 16 * q.length
 | [] => by simp
 | n :: q => by
  have h := wayT_len q
  have := (way_at n).2.2.2.2.1
  simp only [List.map_cons, List.flatten_cons, List.length_append, List.length_cons, List.length_nil] at h ⊢
  omega
theorem inb_way (q : List Nat) (a b : List Int) (ha : InB8 a) (hb : InB8 b) : InB8 ((q.map fun n => a ++ wayT (n % 6) ++ b).flatten) := by
 intro c hc
 obtain ⟨x, hx, hcx⟩ := List.mem_flatten.1 hc
 obtain ⟨n, _, rfl⟩ := List.mem_map.1 hx
 rcases List.mem_append.1 hcx with h | h
 ·rcases List.mem_append.1 h with h | h
  ·exact ha c h
  ·exact (way_at n).2.2.2.2.2.1 c h
 ·exact hb c h
theorem InB8.append {a b : List Int} (ha : InB8 a) (hb : InB8 b) : InB8 (a ++ b) := fun c hc => (List.mem_append.1 hc).elim (ha c) (hb c)
theorem whole_answer {q : List Nat} (hq : q.length <= 400) {r : Got (List Rule)} (ha : Answer (strOf (wholeT q ++ [10] ++ bT ++ cT)) r) : ∃ p, r = .ok (wholeL q) p := by
 have h2 := (wayT_len q).1
 have hb : InB8 headT := by decide +kernel
 have hb1 : InB8 bT := by decide +kernel
 have hc1 : InB8 cT := by decide +kernel
 have hn : InB8 [10] := by decide +kernel
 have hw := inb_way q [32, 47, 32] [] (by decide +kernel) (by decide +kernel)
 simp only [List.append_nil] at hw
 rw [<- whole_text] at ha
 refine told_answer (whole_right q) (by simp [wholeL]) ?_ ?_ ha
 ·rw [whole_text]
  unfold wholeT
  exact (((hb.append hw).append hn).append hb1).append hc1
 ·rw [whole_text]
  unfold wholeT headT bT cT
  simp only [List.length_append, List.length_cons, List.length_nil] at h2 ⊢
  omega
theorem parts_answer {q : List Nat} (hq : q.length <= 400) {r : Got (List Rule)} (ha : Answer (strOf (bT ++ moreT q ++ cT)) r) : ∃ p, r = .ok (partsL q) p := by
 have h2 := (wayT_len q).2
 have hb : InB8 headT := by decide +kernel
 have hb1 : InB8 bT := by decide +kernel
 have hc1 : InB8 cT := by decide +kernel
 have hn : InB8 [10] := by decide +kernel
 have hw := inb_way q [97, 32, 61, 47, 32] [10] (by decide +kernel) (by decide +kernel)
 rw [<- parts_text] at ha
 refine told_answer (parts_right q) (by simp [partsL]; omega) ?_ ?_ ha
 ·rw [parts_text]
  unfold moreT
  exact (hb1.append ((hb.append hn).append hw)).append hc1
 ·rw [parts_text]
  unfold moreT headT bT cT
  simp only [List.length_append, List.length_cons, List.length_nil] at h2 ⊢
  omega
theorem adds_only : ∀ {xs : List (List Int)} {g : List GR}, findM g [98] ≠ none -> findM g [99] ≠ none -> findM g nDigit = none -> (∀ x ∈ xs, x = [98] \/ x = [99] \/ x = nDigit) -> addAll g xs = some (if nDigit ∈ xs then g ++ [⟨nDigit, spT 48 57⟩] else g)
 | [], g, _, _, _, _ => by simp [addAll]
 | x :: xs, g, hb, hc, hd, h => by
  show (addM g x).bind (fun g' => addAll g' xs) = _
  by_cases hx : x = nDigit
  ·subst hx
   have e1 : addM g nDigit = some (g ++ [⟨nDigit, spT 48 57⟩]) := by
    unfold addM
    rw [hd]
    kernel_rfl
   rw [e1, if_pos (by simp)]
   refine adds_none (fun y hy => ?_)
   rcases h y (by simp [hy]) with rfl | rfl | rfl
   ·exact find_more hb
   ·exact find_more hc
   ·rw [findM_append, hd]
    simp [findM]
  ·have e1 : addM g x = some g := by
    unfold addM
    have hf : findM g x ≠ none := by
     rcases h x (by simp) with rfl | rfl | rfl
     ·exact hb
     ·exact hc
     ·exact absurd rfl hx
    cases hf' : findM g x with
    | none => exact absurd hf' hf
    | some i => rfl
   rw [e1]
   have := adds_only (xs := xs) hb hc hd (fun y hy => h y (by simp [hy]))
   show addAll g xs = _
   rw [this]
   by_cases hm : nDigit ∈ xs
   ·rw [if_pos hm, if_pos (by simp [hm])]
   ·rw [if_neg hm, if_neg (by simp [hm]; exact fun e => hx e.symm)]
theorem wholeE_names (q : List Nat) : ∀ x ∈ namesM (wholeE q), x = [98] \/ x = [99] \/ x = nDigit := by
 unfold wholeE
 by_cases h : q = []
 ·subst h
  rw [if_pos rfl]
  intro x hx
  rw [show namesM (foT [119]) = [] from names_fo _] at hx
  cases hx
 ·rw [if_neg h]
  unfold alT
  rw [namesM_mk, if_neg (by decide), List.nil_append]
  intro x hx
  obtain ⟨l, hl, hxl⟩ := List.mem_flatten.1 hx
  obtain ⟨t, ht, rfl⟩ := List.mem_map.1 hl
  rcases List.mem_cons.1 ht with rfl | ht
  ·rw [show namesM (foT [119]) = [] from names_fo _] at hxl
   cases hxl
  ·obtain ⟨n, _, rfl⟩ := List.mem_map.1 ht
   exact (way_at n).2.2.2.2.2.2 x hxl
def digitG (q : List Nat) : List GR := if nDigit ∈ namesM (wholeE q) then [⟨nDigit, spT 48 57⟩] else []
def wholeG (q : List Nat) : List GR := [⟨[97], wholeE q⟩, ⟨[98], foT [98]⟩, ⟨[99], foT [99]⟩] ++ digitG q
def partsG (q : List Nat) : List GR := [⟨[98], foT [98]⟩, ⟨[97], wholeE q⟩, ⟨[99], foT [99]⟩] ++ digitG q
theorem compl_rest {g : List GR} (k i : Nat) (hk : g.length <= i + k) (h : ∀ (j : Nat) (r : GR), i <= j -> g[j]? = some r -> Has8 g (namesM r.expr)) : ∃ n, Compl n i g (some g) := by
 induction k generalizing i with
 | zero => exact ⟨0, .done (by omega)⟩
 | succ k ih =>
  by_cases hi : g.length <= i
  ·exact ⟨0, .done hi⟩
  ·have hr : g[i]? = some g[i] := List.getElem?_eq_getElem (by omega)
   obtain ⟨n, hc⟩ := ih (i + 1) (by omega) (fun j r hj hr => h j r (by omega) hr)
   exact ⟨n + 1, .step hr (adds_none (h i _ (Nat.le_refl _) hr)) hc⟩
theorem whole_adds (q : List Nat) (g0 : List GR) (hb : findM g0 [98] ≠ none) (hc : findM g0 [99] ≠ none) (hd : findM g0 nDigit = none) : addAll g0 (namesM (wholeE q)) = some (g0 ++ digitG q) /\ Has8 (g0 ++ digitG q) (namesM (wholeE q)) := by
 constructor
 ·rw [adds_only hb hc hd (wholeE_names q)]
  unfold digitG
  by_cases hm : nDigit ∈ namesM (wholeE q)
  ·rw [if_pos hm, if_pos hm]
  ·rw [if_neg hm, if_neg hm, List.append_nil]
 ·intro x hx
  rcases wholeE_names q x hx with rfl | rfl | rfl
  ·exact find_more hb
  ·exact find_more hc
  ·unfold digitG
   rw [if_pos hx, findM_append, hd]
   simp [findM]
theorem digit_plain (q : List Nat) : ∀ r ∈ digitG q, namesM r.expr = [] := by
 unfold digitG
 intro r hr
 split at hr
 ·simp at hr
  subst hr
  exact names_sp _ _
 ·cases hr
theorem whole_joins (q : List Nat) : JoinsTo (wholeL q) (wholeG q) 0 := by
 have ht : takeAll [] (wholeL q) = some [⟨[97], wholeE q⟩, ⟨[98], foT [98]⟩, ⟨[99], foT [99]⟩] := by
  unfold wholeL
  generalize wholeE q = E
  kernel_rfl
 obtain ⟨ha, hh⟩ := whole_adds q [⟨[97], wholeE q⟩, ⟨[98], foT [98]⟩, ⟨[99], foT [99]⟩] (by generalize wholeE q = E; rw [show findM [⟨[97], E⟩, ⟨[98], foT [98]⟩, ⟨[99], foT [99]⟩] [98] = some 1 by kernel_rfl]; simp) (by generalize wholeE q = E; rw [show findM [⟨[97], E⟩, ⟨[98], foT [98]⟩, ⟨[99], foT [99]⟩] [99] = some 2 by kernel_rfl]; simp) (by generalize wholeE q = E; kernel_rfl)
 obtain ⟨n, hn⟩ := compl_rest (g := wholeG q) (wholeG q).length 1 (by omega) (fun j r hj hr => by
  have hm := List.mem_of_getElem? hr
  unfold wholeG at hm
  rcases List.mem_append.1 hm with hm | hm
  ·simp at hm
   rcases hm with rfl | rfl | rfl
   ·exact hh
   ·rw [names_fo]; exact fun x hx => by cases hx
   ·rw [names_fo]; exact fun x hx => by cases hx
  ·rw [digit_plain q r hm]; exact fun x hx => by cases hx)
 exact .inr ⟨whole_right q, .inr ⟨_, n + 1, some (wholeG q), ht, .step (r := ⟨[97], wholeE q⟩) rfl ha hn, .inr ⟨rfl, rfl⟩⟩⟩
theorem takes_ways : ∀ (q : List Nat) (t : Tree), takeAll [⟨[98], foT [98]⟩, ⟨[97], t⟩] (q.map fun n => (⟨[97], true, wayN (n % 6)⟩ : Rule)) = some [⟨[98], foT [98]⟩, ⟨[97], if q = [] then t else alT (altsM t ++ q.map fun n => wayN (n % 6))⟩]
 | [], t => by simp [takeAll]
 | n :: q, t => by
  rw [List.map_cons, takeAll_cons]
  have e1 : takeM [⟨[98], foT [98]⟩, ⟨[97], t⟩] ⟨[97], true, wayN (n % 6)⟩ = some [⟨[98], foT [98]⟩, ⟨[97], mergeM t (wayN (n % 6))⟩] := by
   generalize wayN (n % 6) = u
   kernel_rfl
  rw [e1]
  show takeAll _ _ = _
  rw [takes_ways q (mergeM t (wayN (n % 6)))]
  simp only [reduceCtorEq, if_false]
  have e2 : altsM (mergeM t (wayN (n % 6))) = altsM t ++ [wayN (n % 6)] := by
   rw [alts_merge, alts_one (way_at n).2.2.1]
  by_cases hq : q = []
  ·subst hq
   rw [if_pos rfl]
   unfold mergeM
   rw [alts_one (way_at n).2.2.1]
   rfl
  ·rw [if_neg hq, e2]
   simp
theorem takeAll_app : ∀ (a b : List Rule) (g : List GR), takeAll g (a ++ b) = (takeAll g a).bind fun g' => takeAll g' b
 | [], b, g => rfl
 | l :: a, b, g => by
  rw [List.cons_append, takeAll_cons, takeAll_cons]
  cases takeM g l with
  | none => rfl
  | some g' => exact takeAll_app a b g'
theorem parts_joins (q : List Nat) : JoinsTo (partsL q) (partsG q) 0 := by
 have hE : (if q = [] then foT [119] else alT (altsM (foT [119]) ++ q.map fun n => wayN (n % 6))) = wholeE q := by
  unfold wholeE
  rw [alts_one (by decide +kernel)]
  rfl
 have ht : takeAll [] (partsL q) = some [⟨[98], foT [98]⟩, ⟨[97], wholeE q⟩, ⟨[99], foT [99]⟩] := by
  unfold partsL
  rw [takeAll_app, takeAll_app, show takeAll [] [⟨[98], false, foT [98]⟩, ⟨[97], false, foT [119]⟩] = some [⟨[98], foT [98]⟩, ⟨[97], foT [119]⟩] by kernel_rfl]
  show (takeAll _ _).bind _ = _
  rw [takes_ways, hE]
  generalize wholeE q = E
  kernel_rfl
 obtain ⟨ha, hh⟩ := whole_adds q [⟨[98], foT [98]⟩, ⟨[97], wholeE q⟩, ⟨[99], foT [99]⟩] (by generalize wholeE q = E; rw [show findM [⟨[98], foT [98]⟩, ⟨[97], E⟩, ⟨[99], foT [99]⟩] [98] = some 0 by kernel_rfl]; simp) (by generalize wholeE q = E; rw [show findM [⟨[98], foT [98]⟩, ⟨[97], E⟩, ⟨[99], foT [99]⟩] [99] = some 2 by kernel_rfl]; simp) (by generalize wholeE q = E; kernel_rfl)
 obtain ⟨n, hn⟩ := compl_rest (g := partsG q) (partsG q).length 2 (by omega) (fun j r hj hr => by
  have hm := List.mem_of_getElem? hr
  unfold partsG at hm
  rcases List.mem_append.1 hm with hm | hm
  ·simp at hm
   rcases hm with rfl | rfl | rfl
   ·rw [names_fo]; exact fun x hx => by cases hx
   ·exact hh
   ·rw [names_fo]; exact fun x hx => by cases hx
  ·rw [digit_plain q r hm]; exact fun x hx => by cases hx)
 exact .inr ⟨parts_right q, .inr ⟨_, n + 1 + 1, some (partsG q), ht, .step (r := ⟨[98], foT [98]⟩) (g' := [⟨[98], foT [98]⟩, ⟨[97], wholeE q⟩, ⟨[99], foT [99]⟩]) rfl (by rw [names_fo]; rfl) (.step (r := ⟨[97], wholeE q⟩) rfl ha hn), .inr ⟨rfl, rfl⟩⟩⟩
end Go.Proofs.YtpopgjgngbiofaaGreatDoor
