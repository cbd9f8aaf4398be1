/- Joined texts; each begins with what it says. -/
import Derived.Test.YtjeplmnjgdpgbaaGreatDoorW0
import Derived.Test.YtjeplmnjgdpgbaaGreatDoorReMem
import Derived.Deep.AppendLies
import Derived.Deep.RegionLaw
/-! The derivative of an expression by a byte; whether one derives the empty text; how big what is left of one becomes, byte by byte. No condition. -/
namespace Go.Proofs.YtjeplmnjgdpgbaaGreatDoor
open Go.Lib
set_option linter.unusedVariables false
set_option linter.unusedSimpArgs false

def nullM : RT → Bool
  | .mk k _ kids => if k = 1 ∨ k = 5 then true else if k = 3 then (kids.map nullM).all id else if k = 4 then (kids.map nullM).any id else false
theorem null_mk (k : Int) (s : W4) (kids : List RT) : nullM (.mk k s kids) = if k = 1 ∨ k = 5 then true else if k = 3 then kids.all nullM else if k = 4 then kids.any nullM else false := by
  rw [nullM, List.all_map, List.any_map]
  rfl
/-- The kids of a Cat with what is left of each: what is left of the Cat, up to the first that does not derive the empty text. -/
def catsM : List (RT × RT) → List RT
  | [] => []
  | (k, d) :: l => catM (d :: l.map Prod.fst) :: (if nullM k then catsM l else [])
noncomputable def derivM (b : Nat) : RT → RT
  | .mk k s kids => if k = 2 then (if s.mem b then emptyM else noneM) else if k = 3 then eitherM (catsM (kids.map fun x => (x, derivM b x)))
    else if k = 4 then eitherM (kids.map (derivM b)) else if k = 5 then (match kids.map (derivM b) with | [d] => catM [d, .mk k s kids] | _ => noneM) else noneM
theorem deriv_mk (b : Nat) (k : Int) (s : W4) (kids : List RT) : derivM b (.mk k s kids) = if k = 2 then (if s.mem b then emptyM else noneM) else if k = 3 then eitherM (catsM (kids.map fun x => (x, derivM b x)))
    else if k = 4 then eitherM (kids.map (derivM b)) else if k = 5 then (match kids.map (derivM b) with | [d] => catM [d, .mk k s kids] | _ => noneM) else noneM := by rw [derivM]
/-- What is left behind several bytes. -/
noncomputable def dersM (r : RT) (l : List Nat) : RT := l.foldl (fun r b => derivM b r) r

theorem cats_all {Q : RT → Prop} (hc : ∀ l, (∀ t ∈ l, Q t) → Q (catM l)) : ∀ l : List (RT × RT), (∀ p ∈ l, Q p.1 ∧ Q p.2) → ∀ t ∈ catsM l, Q t
  | [], _, t, ht => by simp [catsM] at ht
  | (k, d) :: l, h, t, ht => by
    rw [catsM] at ht
    rcases List.mem_cons.1 ht with rfl | ht
    · refine hc _ fun u hu => ?_
      rcases List.mem_cons.1 hu with rfl | hu
      · exact (h (k, u) (by simp)).2
      · obtain ⟨p, hp, rfl⟩ := List.mem_map.1 hu
        exact (h p (by simp [hp])).1
    · split at ht
      · exact cats_all hc l (fun p hp => h p (by simp [hp])) t ht
      · simp at ht
theorem good_deriv (b : Nat) (t : RT) : good t → good (derivM b t) := by
  induction t using RT.ind with
  | h k s kids ih =>
    intro h
    have hk : ∀ t ∈ kids, good t := fun t ht => good_kid h ht
    rw [deriv_mk]
    split
    · split
      · exact good_empty
      · exact good_none
    · split
      · refine good_either (cats_all (Q := good) (fun l hl => good_cat hl) _ fun p hp => ?_)
        obtain ⟨x, hx, rfl⟩ := List.mem_map.1 hp
        exact ⟨hk x hx, ih x hx (hk x hx)⟩
      · split
        · refine good_either fun u hu => ?_
          obtain ⟨x, hx, rfl⟩ := List.mem_map.1 hu
          exact ih x hx (hk x hx)
        · split
          · split
            · rename_i d e
              have hd : d ∈ kids.map (derivM b) := by rw [e]; simp
              obtain ⟨x, hx, rfl⟩ := List.mem_map.1 hd
              refine good_cat fun u hu => ?_
              rcases List.mem_cons.1 hu with rfl | hu
              · exact ih x hx (hk x hx)
              · simp at hu
                subst hu
                exact h
            · exact good_none
          · exact good_none
theorem good_ders {r : RT} (h : good r) : ∀ l, good (dersM r l) := by
  intro l
  induction l generalizing r with
  | nil => exact h
  | cons b l ih => exact ih (good_deriv b r h)
theorem good_kinds {k : Int} {s : W4} {kids : List RT} (h : good (.mk k s kids)) : (k = 3 → ∀ t ∈ kids, t.kind ≠ 0 ∧ t.kind ≠ 1 ∧ t.kind ≠ 3) ∧ (k = 5 → ∃ x, kids = [x]) := by
  obtain ⟨⟨_, h2⟩, _⟩ := good_mk.1 h
  refine ⟨fun e => ?_, fun e => ?_⟩
  · rcases h2 with ⟨q, _⟩ | ⟨q, _⟩ | ⟨_, _, q⟩ | ⟨q, _⟩
    · omega
    · omega
    · exact q
    · omega
  · rcases h2 with ⟨q, _⟩ | ⟨_, q, _⟩ | ⟨q, _⟩ | ⟨q, _⟩
    · omega
    · exact List.length_eq_one_iff.1 q
    · omega
    · omega

/-! ### how big what is left of one becomes -/
def dlsM : List (RT × List (List RT)) → List (List RT)
  | [] => []
  | (k, d) :: l => d.map (· ++ l.map Prod.fst) ++ (if nullM k then dlsM l else [])
/-- What may stand behind a byte of one, one behind the other. -/
def dl : RT → List (List RT)
  | .mk k s kids => if k = 2 then [[]] else if k = 3 then dlsM (kids.map fun x => (x, dl x)) else if k = 4 then (kids.map dl).flatten else if k = 5 then (kids.map dl).flatten.map (· ++ [.mk k s kids]) else []
theorem dl_mk (k : Int) (s : W4) (kids : List RT) : dl (.mk k s kids) = if k = 2 then [[]] else if k = 3 then dlsM (kids.map fun x => (x, dl x)) else if k = 4 then (kids.map dl).flatten else if k = 5 then (kids.map dl).flatten.map (· ++ [.mk k s kids]) else [] := by rw [dl]
def dls (q : List RT) : List (List RT) := dlsM (q.map fun x => (x, dl x))
theorem dls_nil : dls [] = [] := rfl
theorem dls_cons (t : RT) (l : List RT) : dls (t :: l) = (dl t).map (· ++ l) ++ (if nullM t then dls l else []) := by
  have e : (l.map fun x => (x, dl x)).map Prod.fst = l := by rw [List.map_map]; exact List.map_id' l
  unfold dls
  rw [List.map_cons, dlsM, e]
theorem dls_append (a b : List RT) : dls (a ++ b) = (dls a).map (· ++ b) ++ (if a.all nullM then dls b else []) := by
  induction a with
  | nil => simp [dls_nil]
  | cons t a ih =>
    rw [List.cons_append, dls_cons, dls_cons, ih]
    by_cases h : nullM t = true
    · simp [h, Function.comp_def]
    · simp [h, Function.comp_def]
def T : Nat → List RT → Nat
  | 0, q => (q.map RT.sz).sum
  | k + 1, q => ((dls q).map fun s => 3 + T k s).sum
def Dm (j : Nat) (t : RT) (R : List RT) : Nat := ((dl t).map fun s => 3 + T j (s ++ R)).sum
def seqOf (t : RT) : List RT := if t.kind = 3 then t.kids else if t.kind = 1 then [] else [t]
theorem dls_seq (t : RT) : dls (seqOf t) = dl t := by
  obtain ⟨k, s, kids⟩ := t
  unfold seqOf
  show dls (if k = 3 then kids else if k = 1 then [] else [.mk k s kids]) = _
  by_cases h3 : k = 3
  · rw [if_pos h3, dl_mk, if_neg (by omega), if_pos h3]
    rfl
  · by_cases h1 : k = 1
    · rw [if_neg h3, if_pos h1, dl_mk, if_neg (by omega), if_neg (by omega), if_neg (by omega), if_neg (by omega)]
      rfl
    · rw [if_neg h3, if_neg h1, dls_cons, dls_nil]
      simp
theorem null_seq (t : RT) : (seqOf t).all nullM = nullM t := by
  obtain ⟨k, s, kids⟩ := t
  unfold seqOf
  show (if k = 3 then kids else if k = 1 then [] else [.mk k s kids]).all nullM = _
  by_cases h3 : k = 3
  · rw [if_pos h3, null_mk, if_neg (by omega), if_pos h3]
  · by_cases h1 : k = 1
    · rw [if_neg h3, if_pos h1, null_mk, if_pos (.inl h1)]
      rfl
    · rw [if_neg h3, if_neg h1]
      simp
theorem T_seq (j : Nat) (t : RT) (R : List RT) : T (j + 1) (seqOf t ++ R) = Dm j t R + (if nullM t then T (j + 1) R else 0) := by
  have e : T (j + 1) (seqOf t ++ R) = ((dls (seqOf t ++ R)).map fun s => 3 + T j s).sum := rfl
  rw [e, dls_append, dls_seq, null_seq, List.map_append, List.sum_append, List.map_map]
  unfold Dm
  congr 1
  split
  · rfl
  · rfl
theorem T_cons (j : Nat) (t : RT) (R : List RT) : T (j + 1) (t :: R) = Dm j t R + (if nullM t then T (j + 1) R else 0) := by
  have e : T (j + 1) (t :: R) = ((dls (t :: R)).map fun s => 3 + T j s).sum := rfl
  rw [e, dls_cons, List.map_append, List.sum_append, List.map_map]
  unfold Dm
  congr 1
  split
  · rfl
  · rfl
theorem T0_append (a b : List RT) : T 0 (a ++ b) = T 0 a + T 0 b := by
  show ((a ++ b).map RT.sz).sum = _
  rw [sum_append]
  rfl
theorem seq_sz {t : RT} (hg : good t) : T 0 (seqOf t) ≤ t.sz ∧ t.sz ≤ T 0 (seqOf t) + 1 ∧ (t.kind ≠ 1 → t.kind ≠ 3 → T 0 (seqOf t) = t.sz) := by
  obtain ⟨k, s, kids⟩ := t
  have e : T 0 (seqOf (.mk k s kids)) = ((if k = 3 then kids else if k = 1 then [] else [RT.mk k s kids]).map RT.sz).sum := rfl
  rw [e, sz_mk]
  show _ ∧ _ ∧ (k ≠ 1 → k ≠ 3 → _)
  by_cases h3 : k = 3
  · rw [if_pos h3]
    exact ⟨by omega, by omega, fun _ h => absurd h3 h⟩
  · rw [if_neg h3]
    by_cases h1 : k = 1
    · rw [if_pos h1]
      have hk : kids = [] := by
        obtain ⟨⟨_, h2⟩, _⟩ := good_mk.1 hg
        rcases h2 with ⟨_, q⟩ | ⟨q, _⟩ | ⟨q, _⟩ | ⟨q, _⟩
        · exact q
        · omega
        · omega
        · omega
      subst hk
      exact ⟨by simp, by simp, fun h => absurd h1 h⟩
    · rw [if_neg h1]
      simp only [List.map_cons, List.map_nil, List.sum_cons, List.sum_nil, sz_mk]
      exact ⟨by omega, by omega, fun _ _ => by omega⟩
/-- What one costs ahead of others; None costs nothing. -/
def cost (k : Nat) (R : List RT) (x : RT) : Nat := if x.kind = 0 then 0 else T k (seqOf x ++ R) + 3

/-! ### sums -/
theorem sumg_putL (g : RT → Nat) (r : RT) : ∀ (p : Bool) (l : List RT), ((putL txt r p l).map g).sum ≤ (l.map g).sum + g r
  | true, [] => by simp [putL]
  | false, [] => by simp [putL]
  | p, a :: l => by
    have i2 := sumg_putL g r p l
    have e : putL txt r true l = l := putL_true r l
    rw [putL]
    split
    · rw [e]; simp only [List.map_cons, List.sum_cons]; omega
    · split
      · rw [e]; simp only [List.map_cons, List.sum_cons]; omega
      · simp only [List.map_cons, List.sum_cons]; omega
theorem sumg_puts (g : RT → Nat) (L : List RT) : ((putsM L).map g).sum ≤ (L.map g).sum := by
  have h : ∀ (L o : List RT), ((L.foldl (fun o r => putL txt r false o) o).map g).sum ≤ (o.map g).sum + (L.map g).sum := by
    intro L
    induction L with
    | nil => intro o; simp
    | cons a L ih =>
      intro o
      have h1 := ih (putL txt a false o)
      have h2 := sumg_putL g a false o
      simp only [List.foldl_cons, List.map_cons, List.sum_cons]
      omega
  have := h L []
  simpa [putsM] using this
theorem sum_mono {g h : RT → Nat} {l : List RT} (H : ∀ x ∈ l, g x ≤ h x) : (l.map g).sum ≤ (l.map h).sum := by
  induction l with
  | nil => simp
  | cons a l ih =>
    have h1 := H a (by simp)
    have h2 := ih fun x hx => H x (by simp [hx])
    simp only [List.map_cons, List.sum_cons]
    omega
theorem sum_more {g h : RT → Nat} {l : List RT} {c : Nat} (H : ∀ x ∈ l, g x ≤ h x) {y : RT} (hy : y ∈ l) (hc : g y + c ≤ h y) : (l.map g).sum + c ≤ (l.map h).sum := by
  induction l with
  | nil => simp at hy
  | cons a l ih =>
    have h1 := H a (by simp)
    have h2 := sum_mono (l := l) fun x hx => H x (by simp [hx])
    simp only [List.map_cons, List.sum_cons]
    rcases List.mem_cons.1 hy with rfl | hy
    · omega
    · have := ih (fun x hx => H x (by simp [hx])) hy
      omega
theorem sum_ge {g : RT → Nat} {l : List RT} {y : RT} (hy : y ∈ l) : g y ≤ (l.map g).sum := by
  induction l with
  | nil => simp at hy
  | cons a l ih =>
    simp only [List.map_cons, List.sum_cons]
    rcases List.mem_cons.1 hy with rfl | hy
    · omega
    · have := ih hy
      omega
def nz (g : RT → Nat) (x : RT) : Nat := if x.kind = 0 then 0 else g x
/-- The one Byte and the others cost no more than what they are made of. -/
theorem sum_parts {g : RT → Nat} {F : List RT} (hb : ∀ x ∈ F, x.kind = 2 → ∀ u, g (.mk 2 u []) ≤ g x) : ((byteM F ++ othersM F).map g).sum ≤ (F.map (nz g)).sum := by
  have h1 : ((othersM F).map g).sum + (F.map fun x => if x.kind = 2 then g x else 0).sum = (F.map (nz g)).sum := by
    clear hb
    induction F with
    | nil => rfl
    | cons a F ih =>
      have e : othersM (a :: F) = if (!(a.kind == 0) && !(a.kind == 2)) = true then a :: othersM F else othersM F := by unfold othersM; rw [List.filter_cons]
      rw [e]
      simp only [List.map_cons, List.sum_cons]
      by_cases a0 : a.kind = 0
      · simp [a0, nz]
        omega
      · by_cases a2 : a.kind = 2
        · simp [a2, nz]
          omega
        · simp [a0, a2, nz]
          omega
  rw [List.map_append, List.sum_append]
  have h2 : ((byteM F).map g).sum ≤ (F.map fun x => if x.kind = 2 then g x else 0).sum := by
    unfold byteM
    split
    · simp
    · rename_i hz
      have : ∃ x ∈ F, x.kind = 2 := by
        refine Classical.byContradiction fun hn => hz (union_none fun t ht hk => hn ⟨t, ht, hk⟩)
      obtain ⟨x, hx, hk⟩ := this
      have h3 := hb x hx hk (unionM F)
      have h4 := sum_ge (g := fun x => if x.kind = 2 then g x else 0) hx
      simp only [hk, if_true] at h4
      simp only [List.map_cons, List.map_nil, List.sum_cons, List.sum_nil]
      omega
  omega
theorem sum_opened {g h : RT → Nat} (k : Int) {l : List RT} (H : ∀ x ∈ l, x.kind = k → (x.kids.map g).sum ≤ h x) (H2 : ∀ x ∈ l, x.kind ≠ k → g x ≤ h x) : ((flatM k l).map g).sum ≤ (l.map h).sum := by
  induction l with
  | nil => simp [flatM]
  | cons a l ih =>
    have e : flatM k (a :: l) = (if a.kind = k then a.kids else [a]) ++ flatM k l := by simp [flatM]
    have i := ih (fun x hx => H x (by simp [hx])) (fun x hx => H2 x (by simp [hx]))
    rw [e, List.map_append, List.sum_append]
    simp only [List.map_cons, List.sum_cons]
    by_cases c : a.kind = k
    · rw [if_pos c]
      have := H a (by simp) c
      omega
    · rw [if_neg c]
      have := H2 a (by simp) c
      simp only [List.map_cons, List.map_nil, List.sum_cons, List.sum_nil]
      omega

/-! ### an Either costs no more than what it is made of -/
theorem Dm_byte (j : Nat) (R : List RT) (u : W4) (kids : List RT) : Dm j (.mk 2 u kids) R = 3 + T j R := by
  unfold Dm
  rw [dl_mk, if_pos rfl]
  simp
theorem Dm_byte' (j : Nat) (R : List RT) {x : RT} (h : x.kind = 2) : Dm j x R = 3 + T j R := by
  obtain ⟨k, s, kids⟩ := x
  simp only [RT.kind] at h
  subst h
  exact Dm_byte j R s kids
theorem flat_sum (j : Nat) (R : List RT) (l : List RT) : ((l.map dl).flatten.map fun s => 3 + T j (s ++ R)).sum = (l.map fun x => Dm j x R).sum := by
  induction l with
  | nil => rfl
  | cons a l ih =>
    rw [List.map_cons, List.flatten_cons, List.map_append, List.sum_append, ih]
    rfl
theorem Dm_either (j : Nat) (R : List RT) (s : W4) (kids : List RT) : Dm j (.mk 4 s kids) R = (kids.map fun x => Dm j x R).sum := by
  rw [← flat_sum]
  unfold Dm
  rw [dl_mk, if_neg (by decide), if_neg (by decide), if_pos rfl]
theorem Dm_either' (j : Nat) (R : List RT) {x : RT} (h : x.kind = 4) : Dm j x R = (x.kids.map fun x => Dm j x R).sum := by
  obtain ⟨k, s, kids⟩ := x
  simp only [RT.kind] at h
  subst h
  exact Dm_either j R s kids
theorem Dm_none (j : Nat) (R : List RT) {x : RT} (h : x.kind = 0) : Dm j x R = 0 := by
  obtain ⟨k, s, kids⟩ := x
  simp only [RT.kind] at h
  subst h
  unfold Dm
  rw [dl_mk]
  simp
theorem null_none {x : RT} (h : x.kind = 0) : nullM x = false := by
  obtain ⟨k, s, kids⟩ := x
  simp only [RT.kind] at h
  subst h
  rw [null_mk]
  simp
noncomputable def partsM (l : List RT) : List RT := putsM (byteM (flatM 4 l) ++ othersM (flatM 4 l))
theorem parts_mem {l : List RT} {p : RT} (h : p ∈ partsM l) : p.kind ≠ 0 ∧ ((p = .mk 2 (unionM (flatM 4 l)) [] ∧ ∃ x ∈ flatM 4 l, x.kind = 2) ∨ p ∈ flatM 4 l) := by
  have h1 := (puts_asc (byteM (flatM 4 l) ++ othersM (flatM 4 l))).2 p h
  rcases List.mem_append.1 h1 with h2 | h2
  · unfold byteM at h2
    split at h2
    · simp at h2
    · rename_i hz
      simp at h2
      subst h2
      refine ⟨by simp [RT.kind], .inl ⟨rfl, ?_⟩⟩
      refine Classical.byContradiction fun hn => hz (union_none fun t ht hk => hn ⟨t, ht, hk⟩)
  · have h3 := List.mem_filter.1 h2
    have h4 := h3.2
    simp at h4
    exact ⟨h4.1, .inr h3.1⟩
theorem Dm_parts (j : Nat) (R : List RT) (l : List RT) : ((partsM l).map fun x => Dm j x R).sum ≤ (l.map fun x => Dm j x R).sum := by
  have h1 := sumg_puts (fun x => Dm j x R) (byteM (flatM 4 l) ++ othersM (flatM 4 l))
  have h2 := sum_parts (g := fun x => Dm j x R) (F := flatM 4 l) fun x _ hk u => by rw [Dm_byte, Dm_byte' j R hk]; exact Nat.le_refl _
  have h3 := sum_opened (g := nz fun x => Dm j x R) (h := fun x => Dm j x R) 4 (l := l) (fun x _ hk => by
      rw [Dm_either' j R hk]
      refine sum_mono fun y _ => ?_
      unfold nz
      split <;> simp) (fun x _ _ => by unfold nz; split <;> simp)
  exact Nat.le_trans h1 (Nat.le_trans h2 h3)
/-- One of which a part derives the empty text does, too. -/
theorem parts_null {l : List RT} {p : RT} (h : p ∈ partsM l) (hn : nullM p = true) : ∃ x ∈ l, nullM x = true := by
  rcases (parts_mem h).2 with ⟨rfl, _⟩ | h2
  · rw [null_mk] at hn
    simp at hn
  · rcases flat_mem h2 with ⟨h3, _⟩ | ⟨y, hy, hk, hx⟩
    · exact ⟨p, h3, hn⟩
    · refine ⟨y, hy, ?_⟩
      obtain ⟨k, s, kids⟩ := y
      simp only [RT.kind] at hk
      subst hk
      rw [null_mk, if_neg (by decide), if_neg (by decide), if_pos rfl]
      exact List.any_eq_true.2 ⟨p, hx, hn⟩
theorem parts_some {l : List RT} {p : RT} (h : p ∈ partsM l) : ∃ x ∈ l, x.kind ≠ 0 := by
  obtain ⟨h0, h1⟩ := parts_mem h
  have key : ∀ q, q ∈ flatM 4 l → q.kind ≠ 0 → ∃ x ∈ l, x.kind ≠ 0 := fun q hq h0 => by
    rcases flat_mem hq with ⟨h3, _⟩ | ⟨y, hy, hk, hx⟩
    · exact ⟨q, h3, h0⟩
    · exact ⟨y, hy, by rw [hk]; decide⟩
  rcases h1 with ⟨_, x, hx, hk⟩ | h2
  · exact key x hx (by rw [hk]; decide)
  · exact key p h2 h0
/-- From the first byte on. -/
theorem cost_either_succ (j : Nat) (R : List RT) (l : List RT) : cost (j + 1) R (eitherM l) ≤ (l.map (cost (j + 1) R)).sum := by
  have hE : eitherM l = someM 4 0 (partsM l) := rfl
  rw [hE]
  have hD := Dm_parts j R l
  have hm := fun p (h : p ∈ partsM l) => (parts_mem h).1
  have hn := fun p (h : p ∈ partsM l) => parts_null (l := l) h
  have hs := fun p (h : p ∈ partsM l) => parts_some (l := l) h
  have hcost : ∀ x : RT, x.kind ≠ 0 → cost (j + 1) R x = Dm j x R + (if nullM x then T (j + 1) R else 0) + 3 := fun x h => by
    unfold cost
    rw [if_neg h, T_seq]
  have hle : ∀ x ∈ l, Dm j x R ≤ cost (j + 1) R x := fun x _ => by
    by_cases h : x.kind = 0
    · rw [Dm_none j R h]; omega
    · rw [hcost x h]; omega
  revert hD hm hn hs
  match partsM l with
  | [] => intros; simp [someM, cost, RT.kind]
  | [p] =>
    intro hD hm hn hs
    show cost (j + 1) R p ≤ _
    rw [hcost p (hm p (by simp))]
    simp only [List.map_cons, List.map_nil, List.sum_cons, List.sum_nil] at hD
    by_cases hp : nullM p = true
    · obtain ⟨x, hx, hxn⟩ := hn p (by simp) hp
      have hx0 : x.kind ≠ 0 := fun e => by rw [null_none e] at hxn; cases hxn
      have := sum_more (c := T (j + 1) R + 3) hle hx (by rw [hcost x hx0, if_pos hxn]; omega)
      rw [if_pos hp]
      omega
    · obtain ⟨x, hx, hx0⟩ := hs p (by simp)
      have := sum_more (c := 3) hle hx (by rw [hcost x hx0]; omega)
      rw [if_neg hp]
      omega
  | p :: q :: P =>
    intro hD hm hn hs
    show cost (j + 1) R (.mk 4 W4.zero (p :: q :: P)) ≤ _
    rw [hcost _ (by simp [RT.kind]), Dm_either, show nullM (.mk 4 W4.zero (p :: q :: P)) = (p :: q :: P).any nullM by rw [null_mk]; rfl]
    by_cases hp : (p :: q :: P).any nullM = true
    · obtain ⟨y, hy, hyn⟩ := List.any_eq_true.1 hp
      obtain ⟨x, hx, hxn⟩ := hn y hy hyn
      have hx0 : x.kind ≠ 0 := fun e => by rw [null_none e] at hxn; cases hxn
      have := sum_more (c := T (j + 1) R + 3) hle hx (by rw [hcost x hx0, if_pos hxn]; omega)
      rw [if_pos hp]
      omega
    · obtain ⟨x, hx, hx0⟩ := hs p (by simp)
      have := sum_more (c := 3) hle hx (by rw [hcost x hx0]; omega)
      rw [if_neg hp]
      omega
def cz (x : RT) : Nat := if x.kind = 0 then 0 else if x.kind = 4 then x.sz - 1 else x.sz
theorem cost_either_zero (R : List RT) (l : List RT) (hg : ∀ t ∈ l, good t) : cost 0 R (eitherM l) ≤ (l.map (cost 0 R)).sum := by
  have hE : eitherM l = someM 4 0 (partsM l) := rfl
  rw [hE]
  have hcost : ∀ x : RT, x.kind ≠ 0 → cost 0 R x = T 0 (seqOf x) + T 0 R + 3 := fun x h => by
    unfold cost
    rw [if_neg h, T0_append]
  have hsz : ((partsM l).map RT.sz).sum ≤ (l.map cz).sum := by
    have h1 := sumg_puts RT.sz (byteM (flatM 4 l) ++ othersM (flatM 4 l))
    have h2 := sum_parts (g := RT.sz) (F := flatM 4 l) fun x _ hk u => by have := sz_pos x; rw [sz_mk]; simp; omega
    have h3 := sum_opened (g := nz RT.sz) (h := cz) 4 (l := l) (fun x _ hk => by
        obtain ⟨k, s, kids⟩ := x
        simp only [RT.kind] at hk
        subst hk
        have : (kids.map (nz RT.sz)).sum ≤ (kids.map RT.sz).sum := sum_mono fun y _ => by unfold nz; split <;> omega
        show (kids.map (nz RT.sz)).sum ≤ cz (.mk 4 s kids)
        unfold cz
        simp only [RT.kind, sz_mk]
        simp
        omega) (fun x _ hk => by unfold nz cz; split <;> simp_all)
    exact Nat.le_trans h1 (Nat.le_trans h2 h3)
  have hle : ∀ x ∈ l, cz x ≤ cost 0 R x := fun x hx => by
    obtain ⟨q1, q2, q3⟩ := seq_sz (hg x hx)
    unfold cz
    split
    · omega
    · rename_i h0
      rw [hcost x h0]
      split <;> omega
  have h4 : ∀ x ∈ l, x.kind = 4 → cz x + (T 0 R + 4) ≤ cost 0 R x := fun x hx hk => by
    obtain ⟨q1, q2, q3⟩ := seq_sz (hg x hx)
    have := q3 (by omega) (by omega)
    have := sz_pos x
    unfold cz
    rw [hcost x (by omega), if_neg (by omega), if_pos hk]
    omega
  have hlen : (∀ x ∈ l, x.kind ≠ 4) → (partsM l).length ≤ (l.map (nz fun _ => 1)).sum := fun hno => by
    have h1 := sumg_puts (fun _ => 1) (byteM (flatM 4 l) ++ othersM (flatM 4 l))
    have h2 := sum_parts (g := fun _ => 1) (F := flatM 4 l) fun x _ hk u => Nat.le_refl _
    have e1 : ((partsM l).map fun _ => 1).sum = (partsM l).length := by
      generalize partsM l = L
      induction L with
      | nil => rfl
      | cons a L ih => simp only [List.map_cons, List.sum_cons, List.length_cons, ih]; omega
    rw [flat_same hno] at h2 h1
    have e2 : putsM (byteM l ++ othersM l) = partsM l := by unfold partsM; rw [flat_same hno]
    rw [e2, e1] at h1
    exact Nat.le_trans h1 h2
  have h2z : (l.map cz).sum + (T 0 R + 2) * (l.map (nz fun _ => 1)).sum ≤ (l.map (cost 0 R)).sum := by
    have hall : ∀ x ∈ l, cz x + (T 0 R + 2) * nz (fun _ => 1) x ≤ cost 0 R x := fun x hx => by
      obtain ⟨q1, q2, q3⟩ := seq_sz (hg x hx)
      unfold cz nz
      split
      · simp
      · rename_i h0
        rw [hcost x h0]
        simp only [Nat.mul_one]
        split <;> omega
    clear hsz hle h4 hlen hg hE
    induction l with
    | nil => simp
    | cons a l ih =>
      have i1 := ih fun x hx => hall x (by simp [hx])
      have i2 := hall a (by simp)
      simp only [List.map_cons, List.sum_cons, Nat.mul_add]
      omega
  have hone := fun p (h : p ∈ partsM l) => parts_mem (l := l) h
  have hpg : ∀ p ∈ flatM 4 l, good p := good_flat hg
  revert hsz hlen hone
  match partsM l with
  | [] => intros; simp [someM, cost, RT.kind]
  | [p] =>
    intro hsz hlen hone
    show cost 0 R p ≤ _
    obtain ⟨h0, h1⟩ := hone p (by simp)
    rw [hcost p h0]
    have key : ∀ q, q ∈ flatM 4 l → q.kind ≠ 0 → ∃ x ∈ l, x.kind ≠ 0 ∧ T 0 (seqOf q) ≤ T 0 (seqOf x) := fun q hq h0 => by
      rcases flat_mem hq with ⟨h3, _⟩ | ⟨y, hy, hk, hx⟩
      · exact ⟨q, h3, h0, Nat.le_refl _⟩
      · refine ⟨y, hy, by omega, ?_⟩
        have q1 := (seq_sz (hpg q hq)).1
        have q2 := (seq_sz (hg y hy)).2.2 (by omega) (by omega)
        have := kids_sz hx
        omega
    rcases h1 with ⟨rfl, x, hx, hk⟩ | h2
    · obtain ⟨y, hy, hy0, hyt⟩ := key x hx (by omega)
      have h3 := (seq_sz (hpg x hx)).2.2 (by omega) (by omega)
      have h4 := sz_pos x
      have h5 : T 0 (seqOf (.mk 2 (unionM (flatM 4 l)) [])) = 1 := by
        have : seqOf (.mk 2 (unionM (flatM 4 l)) []) = [.mk 2 (unionM (flatM 4 l)) []] := rfl
        rw [this]
        show ([RT.mk 2 (unionM (flatM 4 l)) []].map RT.sz).sum = 1
        simp [sz_mk]
      have h6 := sum_ge (g := cost 0 R) hy
      rw [hcost y hy0] at h6
      omega
    · obtain ⟨y, hy, hy0, hyt⟩ := key p h2 h0
      have h6 := sum_ge (g := cost 0 R) hy
      rw [hcost y hy0] at h6
      omega
  | p :: q :: P =>
    intro hsz hlen hone
    show cost 0 R (.mk 4 W4.zero (p :: q :: P)) ≤ _
    rw [hcost _ (by simp [RT.kind])]
    have e : T 0 (seqOf (.mk 4 W4.zero (p :: q :: P))) = 1 + ((p :: q :: P).map RT.sz).sum := by
      have : seqOf (.mk 4 W4.zero (p :: q :: P)) = [.mk 4 W4.zero (p :: q :: P)] := rfl
      rw [this]
      show ([RT.mk 4 W4.zero (p :: q :: P)].map RT.sz).sum = _
      rw [List.map_cons, List.map_nil, List.sum_cons, List.sum_nil, sz_mk]
      omega
    rw [e]
    by_cases h : ∃ x ∈ l, x.kind = 4
    · obtain ⟨x, hx, hk⟩ := h
      have := sum_more (c := T 0 R + 4) hle hx (h4 x hx hk)
      omega
    · have hl := hlen fun x hx hk => h ⟨x, hx, hk⟩
      simp only [List.length_cons] at hl
      have : (T 0 R + 2) * 2 ≤ (T 0 R + 2) * (l.map (nz fun _ => 1)).sum := Nat.mul_le_mul_left _ (by omega)
      omega
theorem cost_either (k : Nat) (R : List RT) (l : List RT) (hg : ∀ t ∈ l, good t) : cost k R (eitherM l) ≤ (l.map (cost k R)).sum := by
  cases k with
  | zero => exact cost_either_zero R l hg
  | succ k => exact cost_either_succ k R l

/-! ### a Cat -/
theorem cost_cat (k : Nat) (R : List RT) (x : RT) (Q : List RT) (hx : good x) (hQ : ∀ t ∈ Q, t.kind ≠ 0 ∧ t.kind ≠ 1 ∧ t.kind ≠ 3) : cost k R (catM (x :: Q)) = cost k (Q ++ R) x := by
  have hK : ∀ t ∈ seqOf x ++ Q, t.kind = 0 ∨ (t.kind ≠ 0 ∧ t.kind ≠ 1 ∧ t.kind ≠ 3) := by
    intro t ht
    rcases List.mem_append.1 ht with h | h
    · unfold seqOf at h
      split at h
      · obtain ⟨k', s, kids⟩ := x
        exact .inr ((good_kinds hx).1 (by assumption) t h)
      · split at h
        · simp at h
        · simp at h
          subst h
          omega
    · exact .inr (hQ t h)
  have hfl : flatM 3 (x :: Q) = (if x.kind = 3 then x.kids else [x]) ++ Q := by
    have e : flatM 3 (x :: Q) = (if x.kind = 3 then x.kids else [x]) ++ flatM 3 Q := by simp [flatM]
    rw [e, flat_same fun t ht => (hQ t ht).2.2]
  have hfil : ((flatM 3 (x :: Q)).filter fun r => !(r.kind == 1)) = seqOf x ++ Q := by
    rw [hfl, List.filter_append, show Q.filter (fun r => !(r.kind == 1)) = Q from List.filter_eq_self.2 fun t ht => by have := (hQ t ht).2.1; simpa using this]
    congr 1
    unfold seqOf
    split
    · rw [List.filter_eq_self]
      intro t ht
      obtain ⟨k', s, kids⟩ := x
      have := ((good_kinds hx).1 (by assumption) t ht).2.1
      simpa using this
    · split
      · simp_all
      · simp_all
  by_cases h0 : x.kind = 0
  · have : catM (x :: Q) = noneM := by
      unfold catM
      rw [if_pos]
      rw [hfl, List.any_append, if_neg (by omega)]
      simp [h0]
    rw [this]
    unfold cost
    rw [if_pos h0, if_pos (show noneM.kind = 0 from rfl)]
  · have hno : ∀ t ∈ seqOf x ++ Q, t.kind ≠ 0 := by
      intro t ht
      rcases hK t ht with h | h
      · rcases List.mem_append.1 ht with h1 | h1
        · unfold seqOf at h1
          split at h1
          · obtain ⟨k', s, kids⟩ := x
            exact ((good_kinds hx).1 (by assumption) t h1).1
          · split at h1
            · simp at h1
            · simp at h1; subst h1; exact h0
        · exact (hQ t h1).1
      · exact h.1
    have hany : ¬ ((flatM 3 (x :: Q)).any (fun r => r.kind == 0)) = true := by
      intro h
      obtain ⟨t, ht, hk⟩ := List.any_eq_true.1 h
      have hk' : t.kind = 0 := by simpa using hk
      refine hno t ?_ hk'
      rw [← hfil]
      exact List.mem_filter.2 ⟨ht, by simp [hk']⟩
    have e : catM (x :: Q) = someM 3 1 (seqOf x ++ Q) := by
      unfold catM
      rw [if_neg hany, hfil]
    rw [e]
    have e2 : cost k (Q ++ R) x = T k ((seqOf x ++ Q) ++ R) + 3 := by
      unfold cost
      rw [if_neg h0, List.append_assoc]
    rw [e2]
    revert hK hno
    match seqOf x ++ Q with
    | [] => intros; rfl
    | [y] =>
      intro hK hno
      show cost k R y = _
      have h1 := (hK y (by simp)).resolve_left (hno y (by simp))
      unfold cost seqOf
      rw [if_neg h1.1, if_neg h1.2.2, if_neg h1.2.1]
    | y :: z :: L => intros; rfl
theorem cost_star (k : Nat) (R : List RT) (d r : RT) (hd : good d) (hr : r.kind = 5) : cost k R (catM [d, r]) = cost k (r :: R) d := cost_cat k R d [r] hd fun t ht => by simp at ht; subst ht; omega

/-- What is left of one behind a byte costs no more than what may stand behind it. -/
theorem cost_deriv (b k : Nat) (r : RT) : good r → ∀ R, cost k R (derivM b r) ≤ Dm k r R := by
  induction r using RT.ind with
  | h kd s kids ih =>
    intro hg R
    have hk : ∀ t ∈ kids, good t := fun t ht => good_kid hg ht
    have hkinds := good_kinds hg
    rw [deriv_mk]
    by_cases h2 : kd = 2
    · subst h2
      rw [if_pos rfl, Dm_byte]
      split
      · have : cost k R emptyM = T k R + 3 := rfl
        omega
      · have : cost k R noneM = 0 := rfl
        omega
    rw [if_neg h2]
    by_cases h3 : kd = 3
    · subst h3
      have hq := hkinds.1 rfl
      rw [if_pos rfl]
      have hgc : ∀ t ∈ catsM (kids.map fun x => (x, derivM b x)), good t := cats_all (Q := good) (fun l hl => good_cat hl) _ fun p hp => by
        obtain ⟨x, hx, rfl⟩ := List.mem_map.1 hp
        exact ⟨hk x hx, good_deriv b x (hk x hx)⟩
      refine Nat.le_trans (cost_either k R _ hgc) ?_
      have e : Dm k (.mk 3 s kids) R = ((dls kids).map fun s => 3 + T k (s ++ R)).sum := by
        unfold Dm
        rw [dl_mk, if_neg (by decide), if_pos rfl]
        rfl
      rw [e]
      clear e hgc hg hkinds
      induction kids with
      | nil => simp [catsM]
      | cons a l ihl =>
        rw [dls_cons, List.map_append, List.sum_append, List.map_map, List.map_cons, catsM, List.map_cons, List.sum_cons]
        have e1 : (l.map fun x => (x, derivM b x)).map Prod.fst = l := by rw [List.map_map]; exact List.map_id' l
        rw [e1, cost_cat k R _ l (good_deriv b a (hk a (by simp))) fun t ht => hq t (by simp [ht])]
        have h1 := ih a (by simp) (hk a (by simp)) (l ++ R)
        have h2 : ((dl a).map ((fun s => 3 + T k (s ++ R)) ∘ fun x => x ++ l)).sum = Dm k a (l ++ R) := by
          unfold Dm
          congr 1
          refine List.map_congr_left fun s _ => ?_
          simp [List.append_assoc]
        rw [h2]
        have h3 := ihl (fun t ht => ih t (by simp [ht])) (fun t ht => hk t (by simp [ht])) (fun t ht => hq t (by simp [ht]))
        by_cases hn : nullM a = true
        · rw [if_pos hn, if_pos hn]
          omega
        · rw [if_neg hn, if_neg hn]
          simp
          exact h1
    rw [if_neg h3]
    by_cases h4 : kd = 4
    · subst h4
      rw [if_pos rfl, Dm_either]
      refine Nat.le_trans (cost_either k R _ fun u hu => ?_) ?_
      · obtain ⟨x, hx, rfl⟩ := List.mem_map.1 hu
        exact good_deriv b x (hk x hx)
      · rw [List.map_map]
        exact sum_mono fun x hx => ih x hx (hk x hx) R
    rw [if_neg h4]
    by_cases h5 : kd = 5
    · subst h5
      obtain ⟨x, rfl⟩ := hkinds.2 rfl
      rw [if_pos rfl]
      show cost k R (catM [derivM b x, .mk 5 s [x]]) ≤ _
      rw [cost_star k R _ _ (good_deriv b x (hk x (by simp))) rfl]
      refine Nat.le_trans (ih x (by simp) (hk x (by simp)) _) (Nat.le_of_eq ?_)
      unfold Dm
      rw [dl_mk, if_neg (by decide), if_neg (by decide), if_neg (by decide), if_pos rfl]
      simp [Function.comp_def]
    · rw [if_neg h5]
      exact Nat.zero_le _
/-- So each step takes one off. -/
theorem T_deriv (b k : Nat) {r : RT} (hg : good r) : T k (seqOf (derivM b r)) ≤ T (k + 1) (seqOf r) + 1 := by
  have h1 := cost_deriv b k r hg []
  have h2 := T_seq k r []
  rw [List.append_nil] at h2
  by_cases h0 : (derivM b r).kind = 0
  · have hgd := good_deriv b r hg
    have : (derivM b r).sz = 1 := by
      revert h0 hgd
      generalize derivM b r = d
      intro h0 hgd
      obtain ⟨k', s, kids⟩ := d
      simp only [RT.kind] at h0
      subst h0
      obtain ⟨⟨_, q⟩, _⟩ := good_mk.1 hgd
      rcases q with ⟨_, q⟩ | ⟨q, _⟩ | ⟨q, _⟩ | ⟨q, _⟩
      · subst q; rw [sz_mk]; rfl
      · omega
      · omega
      · omega
    cases k with
    | zero => have := (seq_sz hgd).1; omega
    | succ k =>
      have h3 := T_seq k (derivM b r) []
      rw [List.append_nil, Dm_none k [] h0, null_none h0] at h3
      rw [h3]
      simp
  · unfold cost at h1
    rw [if_neg h0, List.append_nil] at h1
    omega
theorem dep_cats {n : Nat} : ∀ l : List (RT × RT), (∀ p ∈ l, p.1.dep ≤ n ∧ p.2.dep ≤ n) → ∀ t ∈ catsM l, t.dep ≤ n + 1
  | [], _, t, ht => by simp [catsM] at ht
  | (k, d) :: l, h, t, ht => by
    rw [catsM] at ht
    rcases List.mem_cons.1 ht with rfl | ht
    · refine dep_cat fun u hu => ?_
      rcases List.mem_cons.1 hu with rfl | hu
      · exact (h (k, u) (by simp)).2
      · obtain ⟨p, hp, rfl⟩ := List.mem_map.1 hu
        exact (h p (by simp [hp])).1
    · split at ht
      · exact dep_cats l (fun p hp => h p (by simp [hp])) t ht
      · simp at ht
theorem dep_deriv (b : Nat) (r : RT) : (derivM b r).dep ≤ 2 * r.dep := by
  induction r using RT.ind with
  | h k s kids ih =>
    obtain ⟨n, hn⟩ : ∃ n, (RT.mk k s kids).dep = n + 1 := ⟨(RT.mk k s kids).dep - 1, by have := dep_pos (RT.mk k s kids); omega⟩
    have hk := dep_mk.1 (Nat.le_of_eq hn)
    have hd : ∀ t ∈ kids, (derivM b t).dep ≤ 2 * n := fun t ht => Nat.le_trans (ih t ht) (Nat.mul_le_mul_left _ (hk t ht))
    rw [hn, deriv_mk]
    split
    · split
      · rw [show emptyM.dep = 1 from dep_leaf _ _]; omega
      · rw [show noneM.dep = 1 from dep_leaf _ _]; omega
    · split
      · refine Nat.le_trans (dep_either (n := 2 * n + 1) (by omega) (dep_cats _ fun p hp => ?_)) (by omega)
        obtain ⟨x, hx, rfl⟩ := List.mem_map.1 hp
        exact ⟨by have := hk x hx; show x.dep ≤ _; omega, hd x hx⟩
      · split
        · refine Nat.le_trans (dep_either (n := 2 * n + 1) (by omega) fun u hu => ?_) (by omega)
          obtain ⟨x, hx, rfl⟩ := List.mem_map.1 hu
          have := hd x hx
          omega
        · split
          · split
            · rename_i d e
              have hdm : d ∈ kids.map (derivM b) := by rw [e]; simp
              obtain ⟨x, hx, rfl⟩ := List.mem_map.1 hdm
              refine Nat.le_trans (dep_cat (n := 2 * n + 1) fun u hu => ?_) (by omega)
              rcases List.mem_cons.1 hu with rfl | hu
              · have := hd x hx; omega
              · simp at hu
                subst hu
                rw [hn]
                have := dep_pos x
                have := hk x hx
                omega
            · rw [show noneM.dep = 1 from dep_leaf _ _]; omega
          · rw [show noneM.dep = 1 from dep_leaf _ _]; omega

end Go.Proofs.YtjeplmnjgdpgbaaGreatDoor

/-! What is left of a Byte, of an Either, of a Star. No condition but the library's table and size. -/
namespace Go.Proofs.YtjeplmnjgdpgbaaGreatDoor
open Go.RowKit Go.Lib
set_option linter.unusedVariables false
set_option linter.unusedSimpArgs false

/-- Facts in a row, with what they are of. -/
structure FactsR (W : World) (P : Nat → Prop) (p : Option Addr) (n cap : Nat) (us : List FV) (l : List (RT × Bool)) : Prop where
  rowf : RowF W (fun _ => True) p n cap us
  num : n = l.length
  each : ∀ (i : Nat) (y : FV) (r : RT × Bool), us[i]? = some y → l[i]? = some r → RAt W P y.re r.1 ∧ y.nul = r.2
theorem FactsR.under {W W' : World} {P : Nat → Prop} {p : Option Addr} {n cap : Nat} {us : List FV} {l : List (RT × Bool)} (h : FactsR W P p n cap us l) (hb : Below W.heap.size W W') : FactsR W' P p n cap us l :=
  ⟨h.rowf.under hb, h.num, fun i y r hy hr => ⟨(h.each i y r hy hr).1.under hb, (h.each i y r hy hr).2⟩⟩
theorem FactsR.weak {W : World} {P P' : Nat → Prop} {p : Option Addr} {n cap : Nat} {us : List FV} {l : List (RT × Bool)} (h : FactsR W P p n cap us l) (hk : ∀ g, P g → g < W.heap.size → P' g) : FactsR W P' p n cap us l :=
  ⟨h.rowf, h.num, fun i y r hy hr => ⟨(h.each i y r hy hr).1.weak hk, (h.each i y r hy hr).2⟩⟩
theorem FactsR.len {W : World} {P : Nat → Prop} {p : Option Addr} {n cap : Nat} {us : List FV} {l : List (RT × Bool)} (h : FactsR W P p n cap us l) : us.length = l.length := h.rowf.num.symm.trans h.num
abbrev zRe : Array Value := #[.int .i64 0, .int .u64 0, .int .u64 0, .int .u64 0, .int .u64 0, .slice none 0 0]
theorem own_new {W : World} {base : Nat} {x : ReV} {D : Nat} (hD : base ≤ D) (hh : W.heap[D]? = some (.cells x.cells.toArray 29 (0, 0))) : W.ownsRow base 29 6 (.slice (some ⟨D, 0, none⟩) 1 1) 1 ([x].flatMap ReV.cells) := by
  refine row_of_block hD hh (by unfold maxLen; omega) rfl

set_option maxRecDepth 100000 in
set_option maxHeartbeats 4000000 in
theorem ofbyte_any {P : Nat → Prop} (w : World) (b o : Nat) (x : ReV) (t : RT) (hp : PlaceR w b o x) (ht : RAt w P x t) (c : Nat) (hc : c < 256) :
    Calls Tryz.prog 38 #[.pointer (some ⟨b, o, none⟩), .int .i64 (c : Int)] w (GivesRe P (if t.set.mem c then emptyM else noneM) w) := by
  obtain ⟨vs0, et, hok, _⟩ := ht.kids
  have hset : t.set = x.w4 := by rw [et]; rfl
  have hw4 := W4.isSet hok
  rw [← hset] at hw4
  obtain ⟨f, hf⟩ : ∃ f, f = t.set.mem := ⟨_, rfl⟩
  rw [← hf] at hw4 ⊢
  obtain ⟨D, hD⟩ : ∃ D, D = w.heap.size := ⟨_, rfl⟩
  obtain ⟨w1, hw1⟩ : ∃ w1 : World, w1 = w.alloc (.cells #[.int .i64 0, .int .u64 0, .int .u64 0, .int .u64 0, .int .u64 0, .slice none 0 0] 29) := ⟨_, rfl⟩
  have hb1 : Below w.heap.size w w1 := by rw [hw1]; exact (Below.refl _ _).alloc (Nat.le_refl _) _
  have hnD : w1.heap[D]? = some (.cells #[.int .i64 0, .int .u64 0, .int .u64 0, .int .u64 0, .int .u64 0, .slice none 0 0] 29 (0, 0)) := by rw [hw1, hD]; exact heap_alloc_new _ _
  obtain ⟨k, a0, a1, a2, a3, q, n, cap⟩ := x
  obtain ⟨p0, p1, p2, p3, p4, p5⟩ := (hp.under hb1).six
  simp only at p0 p1 p2 p3 p4 p5
  have p2' : w1.cell? ⟨b, o + 1 + 1, none⟩ = some (.int .u64 a1) := p2
  have p3' : w1.cell? ⟨b, o + 1 + 2, none⟩ = some (.int .u64 a2) := p3
  have p4' : w1.cell? ⟨b, o + 1 + 3, none⟩ = some (.int .u64 a3) := p4
  have hI : IsSet a0 a1 a2 a3 f := by rw [hset] at hw4; exact hw4
  have c1 := has_any a0 a1 a2 a3 (c : Int) f w1 hI
  rw [hasB_nat f c hc] at c1
  have hDl : D < w1.heap.size := (Array.getElem?_eq_some_iff.1 hnD).1
  subst hw1
  have HDD := Lib.hid hD
  have HB1 := Lib.hid hb1
  have HND := Lib.hid hnD
  obtain ⟨B, hB⟩ : ∃ B, B = f c := ⟨_, rfl⟩
  rw [← hB] at c1 ⊢
  obtain ⟨R, hR⟩ : ∃ R, R = if B = true then emptyM else noneM := ⟨_, rfl⟩
  rw [← hR]
  have HRE := Lib.hid hR
  clear hD hb1 hnD hp ht hI hset hw4 hok et hB hf hR
  go_enter Tryz.func38, Tryz.ntmps38
  go_wp2_with fail
  rw [← HDD.out]
  ((with_reducible refine c1.mono ?_))
  rintro _ w2 ⟨rfl, hw2⟩
  have hb2 : Below w.heap.size w w2 := by rw [hw2]; exact HB1.out.alloc HB1.out.size _
  have h2D : w2.heap[D]? = some (.cells #[.int .i64 0, .int .u64 0, .int .u64 0, .int .u64 0, .int .u64 0, .slice none 0 0] 29 (0, 0)) := by rw [hw2, heap_alloc_old _ _ _ hDl]; exact HND.out
  have H2D := Lib.hid h2D
  have HB2 := Lib.hid hb2
  have d0 : w2.cell? ⟨D, 0, none⟩ = some (.int .i64 0) := by simp [World.cell?, h2D]
  have d1 : w2.cell? ⟨D, 1, none⟩ = some (.int .u64 0) := by simp [World.cell?, h2D]
  have d2 : w2.cell? ⟨D, 2, none⟩ = some (.int .u64 0) := by simp [World.cell?, h2D]
  have d3 : w2.cell? ⟨D, 3, none⟩ = some (.int .u64 0) := by simp [World.cell?, h2D]
  have d4 : w2.cell? ⟨D, 4, none⟩ = some (.int .u64 0) := by simp [World.cell?, h2D]
  have d5 : w2.cell? ⟨D, 5, none⟩ = some (.slice none 0 0) := by simp [World.cell?, h2D]
  have f0 := frozen_no h2D 0
  have f1 := frozen_no h2D 1
  have f2 := frozen_no h2D 2
  have f3 := frozen_no h2D 3
  have f4 := frozen_no h2D 4
  have f5 := frozen_no h2D 5
  have hDw : w.heap.size ≤ D := by have := HDD.out; omega
  have HDW := Lib.hid hDw
  clear h2D hb2 c1 hw2 p0 p1 p2 p3 p4 p5 p2' p3' p4' hDw
  cases B with
  | true =>
    go_wp2
    refine bodyPost_ret_by (results_cell_row rfl _ _ D 29 #[.int .i64 1, .int .u64 0, .int .u64 0, .int .u64 0, .int .u64 0, .slice none 0 0] (0, 0) _ rfl (set6_heap H2D.out _ _ _ _ _ _) Tryz.underlying29 rfl (by kernel_rfl)) rfl ?_
    exact ⟨⟨1, 0, 0, 0, 0, none, 0, 0⟩, rfl, by have e := HRE.out; simp at e; rw [e]; exact kids_empty.tree 1 W4.zero zero_ok, six_set HB2.out HDW.out _ _ _ _ _ _⟩
  | false =>
    go_wp2
    refine bodyPost_ret_by (results_cell_row rfl _ _ D 29 #[.int .i64 0, .int .u64 0, .int .u64 0, .int .u64 0, .int .u64 0, .slice none 0 0] (0, 0) _ rfl (set6_heap H2D.out _ _ _ _ _ _) Tryz.underlying29 rfl (by kernel_rfl)) rfl ?_
    exact ⟨⟨0, 0, 0, 0, 0, none, 0, 0⟩, rfl, by have e := HRE.out; simp at e; rw [e]; exact kids_empty.tree 0 W4.zero zero_ok, six_set HB2.out HDW.out _ _ _ _ _ _⟩

set_option maxRecDepth 100000 in
set_option maxHeartbeats 8000000 in
theorem ofeither_any {P : Nat → Prop} (w : World) (ptr : Value) {p : Option Addr} {n cap : Nat} {us : List FV} {l : List (RT × Bool)} (h : FactsR w P p n cap us l) (hT : Tab1 w) (hdep : ∀ r ∈ l, r.1.dep < 10000) (hsz : ((l.map Prod.fst).map RT.sz).sum ≤ 9000000000) :
    Calls Tryz.prog 39 #[ptr, .slice p n cap] w (GivesRe (fun g => P g ∨ w.heap.size ≤ g) (eitherM (l.map Prod.fst)) w) := by
  obtain ⟨R, hR⟩ : ∃ R, R = eitherM (l.map Prod.fst) := ⟨_, rfl⟩
  rw [← hR]
  have HRE := Lib.hid hR
  clear hR
  obtain ⟨i0, hi0, hz0, hz1, hz2⟩ := re_parts
  obtain ⟨D, hD⟩ : ∃ D, D = w.heap.size := ⟨_, rfl⟩
  obtain ⟨w1, hw1⟩ : ∃ w1 : World, w1 = w.alloc (.cells #[.int .i64 0, .int .u64 0, .int .u64 0, .int .u64 0, .int .u64 0, .slice none 0 0] 29) := ⟨_, rfl⟩
  have hb1 : Below w.heap.size w w1 := by rw [hw1]; exact (Below.refl _ _).alloc (Nat.le_refl _) _
  have hnD : w1.heap[D]? = some (.cells #[.int .i64 0, .int .u64 0, .int .u64 0, .int .u64 0, .int .u64 0, .slice none 0 0] 29 (0, 0)) := by rw [hw1, hD]; exact heap_alloc_new _ _
  have hs1 : w1.heap.size = D + 1 := by rw [hw1, hD]; simp
  have h0 : FactsR w (fun g => P g ∧ g < w.heap.size) p n cap us l := h.weak fun b hp hl => ⟨hp, hl⟩
  have HF := Lib.hid (h0.under hb1)
  have hnl : n ≤ 9000000000 := by
    have e : ∀ l : List RT, l.length ≤ (l.map RT.sz).sum := by
      intro l
      induction l with
      | nil => simp
      | cons a l ih => have := sz_pos a; simp only [List.length_cons, List.map_cons, List.sum_cons]; omega
    have := e (l.map Prod.fst)
    have := h.num
    simp at *
    omega
  have HNUM := Lib.hid h.num
  have HLEN := Lib.hid h.len
  have HT1 := Lib.hid (hT.stays hb1)
  have HDEP := Lib.hid hdep
  have HSZ := Lib.hid hsz
  have HB1 := Lib.hid hb1
  have HND := Lib.hid hnD
  have HW1 := Lib.hid hw1
  have HDD := Lib.hid hD
  have HS1 := Lib.hid hs1
  clear h h0 hT hdep hsz hb1 hnD hw1 hD hs1
  go_enter Tryz.func39, Tryz.ntmps39
  go_wp2
  rw [← HW1.out, ← HDD.out]
  go_loopg [5, 10] n (fun gk v vi wr => ∃ (i : Nat) (q : Option Addr) (cp : Nat), v = .slice q i cp ∧ vi = .int .i64 (i : Int) ∧ i ≤ n ∧ n - i ≤ gk ∧ Hid (Below w1.heap.size w1 wr) ∧ Hid (OwnRe w1 wr (fun g => P g ∧ g < w.heap.size) (.slice q i cp) ((us.map FV.re).take i) ((l.map Prod.fst).take i)))
  case atStart => exact ⟨0, none, 0, rfl, rfl, by omega, by omega, Below.refl _ _, ⟨World.ownsRow_nil _ _ _ _, rfl, fun i y t hy => by simp at hy⟩⟩
  case round =>
    obtain ⟨i, q, cp, rfl, rfl, hi, hgk, HB, HO⟩ := hrel
    by_cases hlt : i < n
    · have hltz : (i : Int) < (n : Int) := by omega
      obtain ⟨g, off, rfl⟩ := HF.out.rowf.some_of hlt
      have hil : i < l.length := by rw [← HNUM.out]; exact hlt
      obtain ⟨y, hy⟩ : ∃ y, us[i]? = some y := ⟨_, List.getElem?_eq_getElem (by rw [HLEN.out]; exact hil)⟩
      obtain ⟨r, hr⟩ : ∃ r, l[i]? = some r := ⟨_, List.getElem?_eq_getElem hil⟩
      have hra := (HF.out.each i y r hy hr).1
      obtain ⟨p0, p1, p2, p3, p4, p5, p6⟩ := (HF.out.rowf.under HB.out).seven hy
      have hlen : ((l.map Prod.fst).take i).length = i := by simp; omega
      have HRA := Lib.hid hra
      have HY := Lib.hid hy
      have HR := Lib.hid hr
      obtain ⟨⟨k, a, b, c, d, q2, m, cp2⟩, nb⟩ := y
      simp only at p0 p1 p2 p3 p4 p5 p6 HRA
      have HOA : Hid (((wr.alloc (.cells #[.int .i64 k, .int .u64 a, .int .u64 b, .int .u64 c, .int .u64 d, .slice q2 m cp2, .bool nb] 50)).alloc (.cells #[.int .i64 k, .int .u64 a, .int .u64 b, .int .u64 c, .int .u64 d, .slice q2 m cp2] 29)).ownsRow w1.heap.size 29 6 (.slice q i cp) i (((us.map FV.re).take i).flatMap ReV.cells)) := by
        have := (HO.out.own.alloc (.cells #[.int .i64 k, .int .u64 a, .int .u64 b, .int .u64 c, .int .u64 d, .slice q2 m cp2, .bool nb] 50)).alloc (.cells #[.int .i64 k, .int .u64 a, .int .u64 b, .int .u64 c, .int .u64 d, .slice q2 m cp2] 29)
        rw [hlen] at this
        exact this
      have HBA : Hid (Below w1.heap.size w1 ((wr.alloc (.cells #[.int .i64 k, .int .u64 a, .int .u64 b, .int .u64 c, .int .u64 d, .slice q2 m cp2, .bool nb] 50)).alloc (.cells #[.int .i64 k, .int .u64 a, .int .u64 b, .int .u64 c, .int .u64 d, .slice q2 m cp2] 29))) := (HB.out.alloc HB.out.size _).alloc (by have := HB.out.size; simp; omega) _
      have HAB := Lib.hid (own_above HOA.out)
      have hwle : w1.heap.size ≤ wr.heap.size := HB.out.size
      clear hra hy hr hil hlen
      go_wp2_with (at_builtin; go_loud (refine wpList_append_own_at _ rfl _ _ 27 rfl w1.heap.size 29 i0 _ 6 64 Tryz.underlying27 hi0 hz0 hz1 hz2 rfl (by decide) _ _ _ rfl HOA.out ⟨wr.heap.size + 1, 0, none⟩ 1 1 [.int .i64 k, .int .u64 a, .int .u64 b, .int .u64 c, .int .u64 d, .slice q2 m cp2] rfl rfl ?c1 ?c2 ?c3 ?c4 ?c5 ?_))
      case c1 =>
        have h := new3 (wr.alloc (.cells #[.int .i64 k, .int .u64 a, .int .u64 b, .int .u64 c, .int .u64 d, .slice q2 m cp2, .bool nb] 50)) #[.int .i64 k, .int .u64 a, .int .u64 b, .int .u64 c, .int .u64 d, .slice q2 m cp2] 29 [.int .i64 k, .int .u64 a, .int .u64 b, .int .u64 c, .int .u64 d, .slice q2 m cp2] rfl
        rw [show (wr.alloc (.cells #[.int .i64 k, .int .u64 a, .int .u64 b, .int .u64 c, .int .u64 d, .slice q2 m cp2, .bool nb] 50)).heap.size = wr.heap.size + 1 by simp] at h
        exact h
      case c2 => intro x hx; simp at hx; rcases hx with rfl | rfl | rfl | rfl | rfl | rfl <;> rfl
      case c3 => unfold maxLen; omega
      case c4 => omega
      case c5 => simp; omega
      intro v' w4 hown hgrow _ hat
      obtain ⟨g4, cap4, rfl⟩ := (row_forms hown).resolve_left (fun h => by cases h.2)
      have HOWN := Lib.hid hown
      have HGROW := Lib.hid hgrow
      clear hown hgrow hat
      have e1 : (us.map FV.re).take (i + 1) = (us.map FV.re).take i ++ [⟨k, a, b, c, d, q2, m, cp2⟩] := by rw [List.take_add_one, List.getElem?_map, HY.out]; rfl
      have e2 : (l.map Prod.fst).take (i + 1) = (l.map Prod.fst).take i ++ [r.1] := by rw [List.take_add_one, List.getElem?_map, HR.out]; rfl
      have E1 := Lib.hid e1
      have E2 := Lib.hid e2
      clear e1 e2
      go_wp2
      go_roundg (n - (i + 1))
      case measure => omega
      case rel =>
        refine ⟨i + 1, _, _, rfl, by go_num, by omega, Nat.le_refl _, HBA.out.grown HGROW.out (by simp; omega) HAB.out, ?_⟩
        unfold Hid
        rw [E1.out, E2.out]
        refine HO.out.app (us := [⟨k, a, b, c, d, q2, m, cp2⟩]) (m := [r.1]) rfl (fun j y t hy ht => ?_) ?_
        · cases j with
          | zero => simp at hy ht; subst hy ht; exact HRA.out
          | succ j => simp at hy
        · have : ((l.map Prod.fst).take i).length = i := by have := HNUM.out; simp; omega
          rw [this]
          exact HOWN.out
    · have hltz : ¬ (i : Int) < (n : Int) := by omega
      have ei : i = n := by omega
      subst ei
      have e1 : (us.map FV.re).take i = us.map FV.re := List.take_of_length_le (by rw [List.length_map, HLEN.out, ← HNUM.out]; omega)
      have e2 : (l.map Prod.fst).take i = l.map Prod.fst := List.take_of_length_le (by rw [List.length_map, ← HNUM.out]; omega)
      rw [e1, e2] at HO
      obtain ⟨q', cp', hv, hk⟩ := HO.out.slice HB.out
      obtain ⟨rfl, hl, rfl⟩ : q = q' ∧ i = (l.map Prod.fst).length ∧ cp = cp' := by simp at hv; simp; exact hv
      rw [← hl] at hk
      have c6 := either_any wr hk (HT1.out.stays HB.out) (fun t ht => by obtain ⟨r, hr, rfl⟩ := List.mem_map.1 ht; exact HDEP.out r hr) HSZ.out
      have hDl : D < w1.heap.size := by rw [HS1.out]; omega
      have h5D : wr.heap[D]? = some (.cells #[.int .i64 0, .int .u64 0, .int .u64 0, .int .u64 0, .int .u64 0, .slice none 0 0] 29 (0, 0)) := (HB.out.block D hDl).trans HND.out
      have H5D := Lib.hid h5D
      rw [← HRE.out] at c6
      clear hv hk e1 e2 h5D hl
      go_wp2_with fail
      ((with_reducible refine c6.mono ?_))
      rintro _ w6 ⟨x, rfl, hx, hb6⟩
      obtain ⟨k, a, b, c, d, q6, m, cp6⟩ := x
      have h6D : w6.heap[D]? = some (.cells #[.int .i64 0, .int .u64 0, .int .u64 0, .int .u64 0, .int .u64 0, .slice none 0 0] 29 (0, 0)) := (hb6.block D (Nat.lt_of_lt_of_le hDl HB.out.size)).trans H5D.out
      have H6D := Lib.hid h6D
      have d0 : w6.cell? ⟨D, 0, none⟩ = some (.int .i64 0) := by simp [World.cell?, h6D]
      have d1 : w6.cell? ⟨D, 1, none⟩ = some (.int .u64 0) := by simp [World.cell?, h6D]
      have d2 : w6.cell? ⟨D, 2, none⟩ = some (.int .u64 0) := by simp [World.cell?, h6D]
      have d3 : w6.cell? ⟨D, 3, none⟩ = some (.int .u64 0) := by simp [World.cell?, h6D]
      have d4 : w6.cell? ⟨D, 4, none⟩ = some (.int .u64 0) := by simp [World.cell?, h6D]
      have d5 : w6.cell? ⟨D, 5, none⟩ = some (.slice none 0 0) := by simp [World.cell?, h6D]
      have f0 := frozen_no h6D 0
      have f1 := frozen_no h6D 1
      have f2 := frozen_no h6D 2
      have f3 := frozen_no h6D 3
      have f4 := frozen_no h6D 4
      have f5 := frozen_no h6D 5
      have HX := Lib.hid hx
      have HB6 := Lib.hid hb6
      clear hx hb6 h6D c6
      unfold ReV.val
      go_wp2
      refine bodyPost_ret_by (results_cell_row rfl _ _ D 29 #[.int .i64 k, .int .u64 a, .int .u64 b, .int .u64 c, .int .u64 d, .slice q6 m cp6] (0, 0) _ rfl (set6_heap H6D.out _ _ _ _ _ _) Tryz.underlying29 rfl (by kernel_rfl)) rfl ?_
      have hall : Below w.heap.size w w6 := HB1.out.trans ((HB.out.trans (HB6.out.mono HB.out.size)).mono HB1.out.size)
      refine ⟨⟨k, a, b, c, d, q6, m, cp6⟩, rfl, ?_, six_set hall (by have := HDD.out; omega) _ _ _ _ _ _⟩
      refine HX.out.kept (Keeps.of (by simp [World.setCell]) fun b hp hl => ?_)
      have hbD : b ≠ D := by
        have h1 := HDD.out
        have h2 := HS1.out
        have h3 := HB.out.size
        rcases hp with (⟨_, hp⟩ | hp) | hp <;> omega
      refine ⟨six_ne hbD _ _ _ _ _ _, ?_⟩
      have h3 := HB.out.size
      have h4 := HB1.out.size
      rcases hp with (⟨hp, _⟩ | hp) | hp
      · exact .inl hp
      · exact .inr (by omega)
      · exact .inr (by omega)

end Go.Proofs.YtjeplmnjgdpgbaaGreatDoor

/-! What is left of a Star. No condition but size. -/
namespace Go.Proofs.YtjeplmnjgdpgbaaGreatDoor
open Go.RowKit Go.Lib
set_option linter.unusedVariables false
set_option linter.unusedSimpArgs false

theorem two_kids {W : World} {P : Nat → Prop} {B : Nat} {x y : ReV} {t u : RT} (hP : P B) (hh : W.heap[B]? = some (.cells (x.cells ++ y.cells).toArray 29 (0, 0))) (hx : RAt W P x t) (hy : RAt W P y u) : KidsR W P (some ⟨B, 0, none⟩) 2 2 [x, y] [t, u] := by
  refine ⟨.inr ⟨B, 0, rfl, Nat.le_refl _, by decide, hP, ⟨_, _, by decide, hh⟩, fun j v hj => ?_⟩, rfl, rfl, fun i z v hz hv => ?_⟩
  · rw [Nat.zero_add]
    simp only [World.cell?, hh]
    have e : [x, y].flatMap ReV.cells = x.cells ++ y.cells := by simp
    rw [e] at hj
    simpa using hj
  · match i with
    | 0 => simp at hz hv; subst hz hv; exact hx
    | 1 => simp at hz hv; subst hz hv; exact hy
    | i + 2 => simp at hz

theorem zero_facts {W : World} {D : Nat} (h : W.heap[D]? = some (.cells #[.int .i64 0, .int .u64 0, .int .u64 0, .int .u64 0, .int .u64 0, .slice none 0 0] 29 (0, 0))) :
    (W.cell? ⟨D, 0, none⟩ = some (.int .i64 0) ∧ W.cell? ⟨D, 1, none⟩ = some (.int .u64 0) ∧ W.cell? ⟨D, 2, none⟩ = some (.int .u64 0) ∧ W.cell? ⟨D, 3, none⟩ = some (.int .u64 0) ∧ W.cell? ⟨D, 4, none⟩ = some (.int .u64 0) ∧ W.cell? ⟨D, 5, none⟩ = some (.slice none 0 0)) ∧
    (W.frozen? ⟨D, 0, none⟩ = false ∧ W.frozen? ⟨D, 1, none⟩ = false ∧ W.frozen? ⟨D, 2, none⟩ = false ∧ W.frozen? ⟨D, 3, none⟩ = false ∧ W.frozen? ⟨D, 4, none⟩ = false ∧ W.frozen? ⟨D, 5, none⟩ = false) :=
  ⟨⟨by simp [World.cell?, h], by simp [World.cell?, h], by simp [World.cell?, h], by simp [World.cell?, h], by simp [World.cell?, h], by simp [World.cell?, h]⟩, frozen_no h 0, frozen_no h 1, frozen_no h 2, frozen_no h 3, frozen_no h 4, frozen_no h 5⟩

set_option maxRecDepth 100000 in
set_option maxHeartbeats 8000000 in
theorem ofstar_any {P : Nat → Prop} (w : World) (b o : Nat) (x : ReV) (t : RT) (hp : PlaceR w b o x) (ht : RAt w P x t) {p : Option Addr} {cap : Nat} {us : List FV} {r : RT × Bool} (h : FactsR w P p 1 cap us [r]) (hsz : r.1.sz + t.sz ≤ 9000000000) :
    Calls Tryz.prog 40 #[.pointer (some ⟨b, o, none⟩), .slice p 1 cap] w (GivesRe (fun g => P g ∨ w.heap.size ≤ g) (catM [r.1, t]) w) := by
  obtain ⟨R, hR⟩ : ∃ R, R = catM [r.1, t] := ⟨_, rfl⟩
  rw [← hR]
  have HRE := Lib.hid hR
  clear hR
  obtain ⟨g, off, rfl⟩ := h.rowf.some_of (i := 0) (by omega)
  obtain ⟨y, hy⟩ : ∃ y, us[0]? = some y := ⟨_, List.getElem?_eq_getElem (by rw [h.len]; simp)⟩
  have hra := (h.each 0 y r hy rfl).1
  obtain ⟨D, hD⟩ : ∃ D, D = w.heap.size := ⟨_, rfl⟩
  have hb1 : Below w.heap.size w (w.alloc (.cells #[.int .i64 0, .int .u64 0, .int .u64 0, .int .u64 0, .int .u64 0, .slice none 0 0] 29)) := (Below.refl _ _).alloc (Nat.le_refl _) _
  obtain ⟨a0, a1, a2, a3, a4, a5, a6⟩ := (h.rowf.under hb1).seven hy
  rw [show off + 0 * 7 = off by omega] at a0 a1 a2 a3 a4 a5
  obtain ⟨b0, b1, b2, b3, b4, b5⟩ := (hp.under hb1).six
  obtain ⟨⟨k, c0, c1, c2, c3, q, m, cp⟩, nb⟩ := y
  obtain ⟨k', d0, d1, d2, d3, q', m', cp'⟩ := x
  simp only at a0 a1 a2 a3 a4 a5 a6 b0 b1 b2 b3 b4 b5
  have HRA := Lib.hid hra
  have HT := Lib.hid ht
  have HSZ := Lib.hid hsz
  have HDD := Lib.hid hD
  obtain ⟨W2, hW2⟩ : ∃ W2 : World, W2 = ((w.alloc (.cells #[.int .i64 0, .int .u64 0, .int .u64 0, .int .u64 0, .int .u64 0, .slice none 0 0] 29)).alloc (.cells #[.int .i64 k, .int .u64 c0, .int .u64 c1, .int .u64 c2, .int .u64 c3, .slice q m cp, .int .i64 k', .int .u64 d0, .int .u64 d1, .int .u64 d2, .int .u64 d3, .slice q' m' cp'] 29)).drew := ⟨_, rfl⟩
  have hb2 : Below w.heap.size w W2 := by rw [hW2]; exact below_drawn (((Below.refl _ _).alloc (Nat.le_refl _) _).alloc (by simp) _) 1
  have h2D : W2.heap[D]? = some (.cells #[.int .i64 0, .int .u64 0, .int .u64 0, .int .u64 0, .int .u64 0, .slice none 0 0] 29 (0, 0)) := by
    rw [hW2, hD]
    exact (heap_alloc_old _ _ _ (by simp)).trans (heap_alloc_new _ _)
  have h2B : W2.heap[w.heap.size + 1]? = some (.cells (ReV.cells ⟨k, c0, c1, c2, c3, q, m, cp⟩ ++ ReV.cells ⟨k', d0, d1, d2, d3, q', m', cp'⟩).toArray 29 (0, 0)) := by
    rw [hW2]
    have := heap_alloc_new (w.alloc (.cells #[.int .i64 0, .int .u64 0, .int .u64 0, .int .u64 0, .int .u64 0, .slice none 0 0] 29)) (.cells #[.int .i64 k, .int .u64 c0, .int .u64 c1, .int .u64 c2, .int .u64 c3, .slice q m cp, .int .i64 k', .int .u64 d0, .int .u64 d1, .int .u64 d2, .int .u64 d3, .slice q' m' cp'] 29)
    rw [show (w.alloc (.cells #[.int .i64 0, .int .u64 0, .int .u64 0, .int .u64 0, .int .u64 0, .slice none 0 0] 29)).heap.size = w.heap.size + 1 by simp] at this
    exact this
  have hkr : KidsR W2 (fun g => (P g ∧ g < w.heap.size) ∨ w.heap.size < g) (some ⟨w.heap.size + 1, 0, none⟩) 2 2 [⟨k, c0, c1, c2, c3, q, m, cp⟩, ⟨k', d0, d1, d2, d3, q', m', cp'⟩] [r.1, t] :=
    two_kids (.inr (by omega)) h2B (((hra.weak fun g hg hl => (⟨hg, hl⟩ : P g ∧ g < w.heap.size)).under hb2).weak fun g hg _ => .inl hg) (((ht.weak fun g hg hl => (⟨hg, hl⟩ : P g ∧ g < w.heap.size)).under hb2).weak fun g hg _ => .inl hg)
  have con := cat_any W2 hkr (by simp; exact hsz)
  rw [← HRE.out] at con
  have h2D' := h2D
  rw [hW2] at con
  have HB2 := Lib.hid hb2
  have H2D := Lib.hid h2D
  have HW2 := Lib.hid hW2
  clear h hra ht hsz hp hb1 hb2 h2D h2B hkr hW2 hy a6 h2D'
  have hDw := hD
  clear hD
  go_enter Tryz.func40, Tryz.ntmps40
  go_wp2_with fail
  have HDN : Hid (∀ (w6 : World), Below W2.heap.size W2 w6 → w6.heap[w.heap.size]? = some (.cells #[.int .i64 0, .int .u64 0, .int .u64 0, .int .u64 0, .int .u64 0, .slice none 0 0] 29 (0, 0))) := fun w6 hb => by
    have h := H2D.out
    rw [hDw] at h
    exact (hb.block _ (Array.getElem?_eq_some_iff.1 h).1).trans h
  have HDN' := HDN.out
  rw [HW2.out] at HDN'
  have HDNH := Lib.hid HDN'
  clear HDN' HDN hDw
  go_region_law (first | (go_simp; go_at_call 52; (with_reducible (refine con.mono ?_)); rintro _ w6 ⟨x6, rfl, hx6, hb6⟩; obtain ⟨e0, e1, e2, e3, e4, q6, m6, cp6⟩ := x6; unfold ReV.val; have h6 := HDNH.out w6 hb6; obtain ⟨⟨z0, z1, z2, z3, z4, z5⟩, y0, y1, y2, y3, y4, y5⟩ := zero_facts h6; have HX6 := Lib.hid hx6; have HB6 := Lib.hid hb6; have H6 := Lib.hid h6; clear hx6 hb6 h6) | fail)
  all_goals go_wp2
  all_goals
    refine bodyPost_ret_by (results_cell_row rfl _ _ w.heap.size 29 #[.int .i64 e0, .int .u64 e1, .int .u64 e2, .int .u64 e3, .int .u64 e4, .slice q6 m6 cp6] (0, 0) _ rfl (set6_heap H6.out _ _ _ _ _ _) Tryz.underlying29 rfl (by kernel_rfl)) rfl ?_
    have hx := HX6.out
    have hb := HB6.out
    rw [← HW2.out] at hx hb
    have hall : Below w.heap.size w w6 := HB2.out.trans (hb.mono HB2.out.size)
    have hdone : Below w.heap.size w ((((((w6.setCell ⟨w.heap.size, 0, none⟩ (.int .i64 e0)).setCell ⟨w.heap.size, 1, none⟩ (.int .u64 e1)).setCell ⟨w.heap.size, 2, none⟩ (.int .u64 e2)).setCell ⟨w.heap.size, 3, none⟩ (.int .u64 e3)).setCell ⟨w.heap.size, 4, none⟩ (.int .u64 e4)).setCell ⟨w.heap.size, 5, none⟩ (.slice q6 m6 cp6)) := six_set hall (Nat.le_refl _) _ _ _ _ _ _
    refine ⟨⟨e0, e1, e2, e3, e4, q6, m6, cp6⟩, rfl, ?_, by first | exact hdone | exact below_drawn hdone 1⟩
    have hk := hx.kept (W' := ((((((w6.setCell ⟨w.heap.size, 0, none⟩ (.int .i64 e0)).setCell ⟨w.heap.size, 1, none⟩ (.int .u64 e1)).setCell ⟨w.heap.size, 2, none⟩ (.int .u64 e2)).setCell ⟨w.heap.size, 3, none⟩ (.int .u64 e3)).setCell ⟨w.heap.size, 4, none⟩ (.int .u64 e4)).setCell ⟨w.heap.size, 5, none⟩ (.slice q6 m6 cp6))) (P' := fun g => P g ∨ w.heap.size ≤ g) (Keeps.of (by simp [World.setCell]) fun b hp hl => ?_)
    · first | exact hk | exact hk.kept (Keeps.of (Nat.le_refl _) fun b hp hl => ⟨rfl, hp⟩)
    · have h2 := HB2.out.size
      have h3 : w.heap.size < W2.heap.size := by rw [HW2.out]; show w.heap.size < (((w.alloc _).alloc _).drew).heap.size; (first | (simp; done) | (simp; omega))
      have hbD : b ≠ w.heap.size := by rcases hp with (⟨_, hp⟩ | hp) | hp <;> omega
      refine ⟨six_ne hbD _ _ _ _ _ _, ?_⟩
      rcases hp with (⟨hp, _⟩ | hp) | hp
      · exact .inl hp
      · exact .inr (by omega)
      · exact .inr (by omega)

set_option maxRecDepth 100000 in
set_option maxHeartbeats 4000000 in
theorem ofstar_none {P : Nat → Prop} (w : World) (b o : Nat) (p : Option Addr) (cap : Nat) :
    Calls Tryz.prog 40 #[.pointer (some ⟨b, o, none⟩), .slice p 0 cap] w (GivesRe P noneM w) := by
  go_enter Tryz.func40, Tryz.ntmps40
  go_wp2
  refine bodyPost_ret_by (results_cell_row rfl _ _ w.heap.size 29 #[.int .i64 0, .int .u64 0, .int .u64 0, .int .u64 0, .int .u64 0, .slice none 0 0] (0, 0) _ rfl (heap_alloc_new w _) Tryz.underlying29 rfl (by kernel_rfl)) rfl ?_
  exact ⟨⟨0, 0, 0, 0, 0, none, 0, 0⟩, rfl, kids_empty.tree 0 W4.zero zero_ok, (Below.refl _ _).alloc (Nat.le_refl _) _⟩

end Go.Proofs.YtjeplmnjgdpgbaaGreatDoor

/-! A row of expressions cut in two: both pieces are rows of expressions. No condition. -/
namespace Go.Proofs.YtjeplmnjgdpgbaaGreatDoor
open Go.RowKit Go.Lib
set_option linter.unusedVariables false

theorem flat6_pre {vs : List ReV} {k j : Nat} {u : Value} (h : ((vs.take k).flatMap ReV.cells)[j]? = some u) : (vs.flatMap ReV.cells)[j]? = some u := by
  have e : vs.flatMap ReV.cells = (vs.take k).flatMap ReV.cells ++ (vs.drop k).flatMap ReV.cells := by rw [← List.flatMap_append, List.take_append_drop]
  rw [e, List.getElem?_append_left (List.getElem?_eq_some_iff.1 h).1]
  exact h
theorem flat6_post {vs : List ReV} {k j : Nat} {u : Value} (hk : k ≤ vs.length) (h : ((vs.drop k).flatMap ReV.cells)[j]? = some u) : (vs.flatMap ReV.cells)[k * 6 + j]? = some u := by
  have e : vs.flatMap ReV.cells = (vs.take k).flatMap ReV.cells ++ (vs.drop k).flatMap ReV.cells := by rw [← List.flatMap_append, List.take_append_drop]
  have hl : ((vs.take k).flatMap ReV.cells).length = k * 6 := by rw [flat6_len, List.length_take, Nat.min_eq_left hk]
  rw [e, List.getElem?_append_right (by rw [hl]; omega), hl, show k * 6 + j - k * 6 = j by omega]
  exact h
theorem KidsR.takeK {W : World} {P : Nat → Prop} {g off n cap : Nat} {vs : List ReV} {l : List RT} (h : KidsR W P (some ⟨g, off, none⟩) n cap vs l) {k : Nat} (hk : k ≤ n) : KidsR W P (some ⟨g, off, none⟩) k cap (vs.take k) (l.take k) := by
  have hn := h.num
  have hl := h.len
  refine ⟨?_, by rw [List.length_take]; omega, by rw [List.length_take, List.length_take]; omega, fun i y t hy ht => ?_⟩
  · rcases h.row with ⟨h0, h1⟩ | ⟨g', off', e, h1, h2, h3, h4, h5⟩
    · exact .inl ⟨by omega, h1⟩
    · exact .inr ⟨g', off', e, by omega, h2, h3, h4, fun j u hj => h5 j u (flat6_pre hj)⟩
  · rw [List.getElem?_take] at hy ht
    split at hy
    · rename_i hik
      rw [if_pos hik] at ht
      exact h.each i y t hy ht
    · cases hy
theorem KidsR.dropK {W : World} {P : Nat → Prop} {g off n cap : Nat} {vs : List ReV} {l : List RT} (h : KidsR W P (some ⟨g, off, none⟩) n cap vs l) {k : Nat} (hk : k < n) : KidsR W P (some ⟨g, off + k * 6, none⟩) (n - k) (cap - k) (vs.drop k) (l.drop k) := by
  have hn := h.num
  have hl := h.len
  refine ⟨?_, by rw [List.length_drop]; omega, by rw [List.length_drop, List.length_drop]; omega, fun i y t hy ht => ?_⟩
  · rcases h.row with ⟨h0, h1⟩ | ⟨g', off', e, h1, h2, h3, h4, h5⟩
    · omega
    · obtain ⟨rfl, rfl⟩ : g = g' ∧ off = off' := by simp at e; exact e
      exact .inr ⟨g, off + k * 6, rfl, by omega, by omega, h3, h4, fun j u hj => by
        rw [Nat.add_assoc]
        exact h5 _ u (flat6_post (by omega) hj)⟩
  · rw [List.getElem?_drop] at hy ht
    exact h.each _ y t hy ht

end Go.Proofs.YtjeplmnjgdpgbaaGreatDoor

/-! What is left of a Cat. No condition but the library's table and size. -/
namespace Go.Proofs.YtjeplmnjgdpgbaaGreatDoor
open Go.RowKit Go.Lib
set_option linter.unusedVariables false
set_option linter.unusedSimpArgs false

/-- An append, at a step of a region that draws its order, onto what is not empty or of what is not. -/
theorem step_append_any {w : World} {ops : Array Oper} {o : Oper} {a : Act} {K : Act → World → Prop} {Q : Exit → Act → World → Prop} {E : Prop} (hgd : o.guard = none) (s x : Operand) (t : TypeId)
    (ho : o.op = .call { callee := .builtin .append, args := #[s, x], argTypes := #[t, t] })
    (base : Nat) (e : TypeId) (i : TypeInfo) (z : Value) (size bytes : Nat) (ht : Tryz.prog.underlying t = some (.slice e)) (hi : Tryz.prog.info? e = some i) (hz : i.zero = some z)
    (hsize : i.size = size) (hby : i.bytes = bytes) (hzs : z.cells.size = size) (hsz : 0 < size)
    (v : Value) (n : Nat) (xs : List Value) (hs : a.eval s = v) (hown : w.ownsRow base e size v n xs)
    (ad : Addr) (m c : Nat) (news : List Value) (hx : a.eval x = .slice (some ad) m c) (hl : news.length = m * size) (hnews : ∀ j u, news[j]? = some u → w.cell? (ad.add j) = some u) (h1 : ∀ u ∈ news, u.oneCell' = true)
    (hm : 0 < n + m) (h63 : n + m ≤ maxLen) (hbytes : (n + m) * bytes ≤ 140737488355328) (hbase : base ≤ w.heap.size) (H : Nat) (hH : w.heap.size = H)
    (h : ∀ g cap w', w'.ownsRow base e size (.slice (some ⟨g, 0, none⟩) (n + m) cap) (n + m) (xs ++ news) → w.grownBy w' v.ownBlock → (v.ownBlock = some g ∨ g = H) → g < w'.heap.size → K (a.put o.dst (.slice (some ⟨g, 0, none⟩) (n + m) cap)) w') :
    if Region.wanted o (yielded ops a.tmps) = true then Oper.wp Tryz.prog o a w K Q else E := by
  have hw : Region.wanted o (yielded ops a.tmps) = true := by simp [Region.wanted, hgd]
  rw [if_pos hw]
  obtain ⟨v', w', hr, h2, h3, _, h5⟩ := run_append_own_at (P := Tryz.prog) w base t o.type e i z size bytes ht hi hz hsize hby hzs hsz v n xs hown ad m c news hl hnews h1 h63 hbytes hbase
  obtain ⟨g, cap, rfl⟩ := (row_forms h2).resolve_left (fun h => by omega)
  have hg : g < w'.heap.size := (row_base h2).2.2.2
  have h6 : v.ownBlock = some g ∨ g = H := by
    rcases h5 with h5 | h5
    · exact .inl (by rw [← h5]; rfl)
    · exact .inr (by have : g = w.heap.size := by simpa [Value.ownBlock] using h5
                     rw [this, hH])
  unfold Oper.wp execOp
  simp only [ho, resolve, invoke, builtin, Sem.run_bind, Sem.run_pure, Result.andThen_ok, List.map_toArray, List.map_cons, List.map_nil, hs, hx, hr]
  exact h g cap w' h2 h3 h6 hg

/-! ### the Cats -/
def catAt (kids : List RT) (l : List RT) (j : Nat) : List RT := if (l.getD j noneM).kind = 0 then [] else [catM (l.getD j noneM :: kids.drop (j + 1))]
def catTo (kids l : List RT) (i : Nat) : List RT := (List.range i).flatMap (catAt kids l)
theorem catTo_succ (kids l : List RT) (i : Nat) : catTo kids l (i + 1) = catTo kids l i ++ catAt kids l i := by
  unfold catTo
  rw [List.range_succ, List.flatMap_append]
  simp
theorem catTo_len (kids l : List RT) : ∀ i, (catTo kids l i).length ≤ i
  | 0 => by simp [catTo]
  | i + 1 => by
    have := catTo_len kids l i
    rw [catTo_succ, List.length_append]
    unfold catAt
    split <;> simp <;> omega
/-- None is nothing in an Either. -/
theorem either_nz (l : List RT) : eitherM l = eitherM (l.filter fun t => !(t.kind == 0)) := by
  have hf : ∀ l : List RT, (flatM 4 l).filter (fun t => !(t.kind == 0)) = (flatM 4 (l.filter fun t => !(t.kind == 0))).filter fun t => !(t.kind == 0) := by
    intro l
    induction l with
    | nil => rfl
    | cons a l ih =>
      have e : ∀ l, flatM 4 (a :: l) = (if a.kind = 4 then a.kids else [a]) ++ flatM 4 l := fun l => by simp [flatM]
      rw [e, List.filter_append, ih, List.filter_cons]
      by_cases h : a.kind = 0
      · simp [h]
      · have h0 : (!(a.kind == 0)) = true := by simp [h]
        rw [if_pos h0, e, List.filter_append]
  have hu : ∀ F : List RT, unionM F = unionM (F.filter fun t => !(t.kind == 0)) := by
    intro F
    unfold unionM
    refine of_congr fun b _ => ?_
    rw [List.any_filter]
    congr 1
    funext t
    by_cases h : t.kind = 2
    · simp [h]
    · simp [h]
  have ho : ∀ F : List RT, othersM F = othersM (F.filter fun t => !(t.kind == 0)) := by
    intro F
    unfold othersM
    rw [List.filter_filter]
    congr 1
    funext t
    by_cases h : t.kind = 0 <;> simp [h]
  have hb : ∀ F : List RT, byteM F = byteM (F.filter fun t => !(t.kind == 0)) := by
    intro F
    unfold byteM
    rw [← hu]
  unfold eitherM
  rw [hb (flatM 4 l), ho (flatM 4 l), hf l, ← hb, ← ho]
theorem cat_none {d : RT} (h : d.kind = 0) (l : List RT) : catM (d :: l) = noneM := by
  unfold catM
  rw [if_pos]
  have e : flatM 3 (d :: l) = (if d.kind = 3 then d.kids else [d]) ++ flatM 3 l := by simp [flatM]
  rw [e, if_neg (by omega)]
  simp [h]
/-- The needed kids: up to the first that does not derive the empty text. -/
def needed : List RT → List RT
  | [] => []
  | k :: l => k :: (if nullM k then needed l else [])
theorem cats_needed (b : Nat) (kids : List RT) : (catsM (kids.map fun x => (x, derivM b x))).filter (fun t => !(t.kind == 0)) = (catTo kids ((needed kids).map (derivM b)) (needed kids).length).filter fun t => !(t.kind == 0) := by
  have shift : ∀ (k : RT) (kids l : List RT) (d : RT) (i : Nat), catTo (k :: kids) (d :: l) (i + 1) = catAt (k :: kids) (d :: l) 0 ++ catTo kids l i := by
    intro k kids l d i
    induction i with
    | zero => rw [catTo_succ]; simp [catTo]
    | succ i ih =>
      rw [catTo_succ, ih, catTo_succ, List.append_assoc]
      rfl
  induction kids with
  | nil => rfl
  | cons k kids ih =>
    have e1 : (kids.map fun x => (x, derivM b x)).map Prod.fst = kids := by rw [List.map_map]; exact List.map_id' kids
    rw [List.map_cons, catsM, e1, needed, List.map_cons, List.length_cons, shift]
    have e2 : (catAt (k :: kids) (derivM b k :: (if nullM k = true then needed kids else []).map (derivM b)) 0).filter (fun t => !(t.kind == 0)) = [catM (derivM b k :: kids)].filter fun t => !(t.kind == 0) := by
      unfold catAt
      show (if (derivM b k).kind = 0 then [] else [catM (derivM b k :: kids)]).filter _ = _
      split
      · rename_i h
        rw [cat_none h]
        rfl
      · rfl
    rw [List.filter_append, e2]
    by_cases hn : nullM k = true
    · rw [if_pos hn, if_pos hn, ← ih, List.filter_cons, List.filter_cons]
      split <;> rfl
    · rw [if_neg hn, if_neg hn]
      simp [catTo]
theorem either_needed (b : Nat) (kids : List RT) : eitherM (catsM (kids.map fun x => (x, derivM b x))) = eitherM (catTo kids ((needed kids).map (derivM b)) (needed kids).length) := by
  rw [either_nz, cats_needed, ← either_nz]

end Go.Proofs.YtjeplmnjgdpgbaaGreatDoor

/-! The program's Cat of what is left of its kids: the walk. No condition but the library's table and size. -/
namespace Go.Proofs.YtjeplmnjgdpgbaaGreatDoor
open Go.RowKit Go.Lib
set_option linter.unusedVariables false
set_option linter.unusedSimpArgs false

/-- A row of expressions of the call's own, their kids in other blocks than its own. -/
structure OwnNew (base : Nat) (W : World) (Q : Nat → Prop) (v : Value) (us : List ReV) (l : List RT) : Prop where
  own : W.ownsRow base 29 6 v l.length (us.flatMap ReV.cells)
  len : us.length = l.length
  each : ∀ (i : Nat) (y : ReV) (t : RT), us[i]? = some y → l[i]? = some t → RAt W (fun g => Q g ∧ v.ownBlock ≠ some g) y t
theorem OwnNew.under {base : Nat} {W W' : World} {Q : Nat → Prop} {v : Value} {us : List ReV} {l : List RT} (h : OwnNew base W Q v us l) (hb : Below W.heap.size W W') : OwnNew base W' Q v us l := by
  refine ⟨?_, h.len, fun i y t hy ht => (h.each i y t hy ht).under hb⟩
  rcases row_forms h.own with ⟨rfl, h0⟩ | ⟨g, cp, rfl⟩
  · exact ⟨h.own.1, .inl ⟨rfl, h0⟩⟩
  · exact own_at h.own (hb.block g (row_base h.own).2.2.2)
theorem OwnNew.slice {base : Nat} {W : World} {Q : Nat → Prop} {v : Value} {us : List ReV} {l : List RT} (h : OwnNew base W Q v us l) (hQ : ∀ g, base ≤ g → Q g) : ∃ q cp, v = .slice q l.length cp ∧ KidsR W Q q l.length cp us l := by
  have he : ∀ (i : Nat) (y : ReV) (t : RT), us[i]? = some y → l[i]? = some t → RAt W Q y t := fun i y t hy ht => (h.each i y t hy ht).weak fun g hg _ => hg.1
  rcases row_forms h.own with ⟨rfl, h0⟩ | ⟨g, cp, rfl⟩
  · exact ⟨none, 0, by rw [h0], .inl ⟨h0, fun _ => rfl⟩, rfl, h.len, he⟩
  · refine ⟨_, cp, rfl, ?_, rfl, h.len, he⟩
    obtain ⟨r1, r2, r3, r4⟩ := row_base h.own
    rcases h.own.2 with ⟨h2, _⟩ | ⟨g', cap', cur, hv, hb, hh, hc, hm, hsz, ht⟩
    · cases h2
    · obtain rfl : g = g' := by simp at hv; omega
      exact .inr ⟨g, 0, rfl, r2, r3, hQ _ r1, ⟨cur, _, by decide, hh⟩, fun j u hj => by rw [Nat.zero_add]; exact row_cell h.own hj⟩
/-- One more, in the row's block or a new one. -/
theorem OwnNew.add {base : Nat} {W W' : World} {Q : Nat → Prop} {v : Value} {us : List ReV} {l : List RT} (h : OwnNew base W Q v us l) {x : ReV} {t : RT} {gb cp : Nat} (hx : RAt W (fun g => Q g ∧ v.ownBlock ≠ some g) x t)
    (ho : W'.ownsRow base 29 6 (.slice (some ⟨gb, 0, none⟩) (l.length + 1) cp) (l.length + 1) (us.flatMap ReV.cells ++ x.cells)) (hg : W.grownBy W' v.ownBlock) (hat : v.ownBlock = some gb ∨ W.heap.size ≤ gb) : OwnNew base W' Q (.slice (some ⟨gb, 0, none⟩) (l.length + 1) cp) (us ++ [x]) (l ++ [t]) := by
  have hk : Keeps W W' (fun g => Q g ∧ v.ownBlock ≠ some g) (fun g => Q g ∧ (Value.slice (some ⟨gb, 0, none⟩) (l.length + 1) cp).ownBlock ≠ some g) := Keeps.of hg.size fun b hb hl => ⟨hg.block b hl fun e => hb.2 e.symm, hb.1, by
    simp only [Value.ownBlock]
    intro e
    have e : gb = b := by simpa using e
    rcases hat with h1 | h1
    · exact hb.2 (by rw [h1, e])
    · omega⟩
  refine ⟨by rw [List.length_append, List.flatMap_append]; simpa using ho, by rw [List.length_append, List.length_append, h.len]; rfl, fun i y u hy hu => ?_⟩
  by_cases hi : i < us.length
  · rw [List.getElem?_append_left hi] at hy
    rw [List.getElem?_append_left (by rw [← h.len]; exact hi)] at hu
    exact (h.each i y u hy hu).kept hk
  · rw [List.getElem?_append_right (by omega)] at hy
    rw [List.getElem?_append_right (by rw [← h.len]; omega), ← h.len] at hu
    cases hi2 : i - us.length with
    | zero => rw [hi2] at hy hu; simp at hy hu; subst hy hu; exact hx.kept hk
    | succ k => rw [hi2] at hy; simp at hy

/-- The row that is handed to Cat. -/
theorem cat_kids {w1 W : World} {PQ : Nat → Prop} {gk offk xn xcap base i m g3 cp3 : Nat} {ks : List ReV} {kids : List RT} {x0 : ReV} {rt : RT} (hK : KidsR w1 PQ (some ⟨gk, offk, none⟩) xn xcap ks kids) (hr : RAt w1 PQ x0 rt) (hb : Below w1.heap.size w1 W)
    (hm : m = xn - (i + 1)) (hi : i < xn) (ho : W.ownsRow base 29 6 (.slice (some ⟨g3, 0, none⟩) (1 + m) cp3) (1 + m) (x0.cells ++ (ks.drop (i + 1)).flatMap ReV.cells)) :
    KidsR W (fun g => PQ g ∨ base ≤ g) (some ⟨g3, 0, none⟩) (1 + m) cp3 (x0 :: ks.drop (i + 1)) (rt :: kids.drop (i + 1)) := by
  have hn := hK.num
  have hl := hK.len
  obtain ⟨r1, r2, r3, r4⟩ := row_base ho
  refine ⟨?_, by rw [List.length_cons, List.length_drop]; omega, by rw [List.length_cons, List.length_cons, List.length_drop, List.length_drop]; omega, fun j y t hy ht => ?_⟩
  · rcases ho.2 with ⟨h2, _⟩ | ⟨g', cap', cur, hv, hb', hh, hc, hm', hsz, htk⟩
    · cases h2
    · obtain rfl : g3 = g' := by simp at hv; omega
      exact .inr ⟨g3, 0, rfl, r2, r3, .inr r1, ⟨cur, _, by decide, hh⟩, fun j u hj => by rw [Nat.zero_add]; exact row_cell ho (by simpa using hj)⟩
  · cases j with
    | zero => simp at hy ht; subst hy ht; exact (hr.under hb).weak fun g hg _ => .inl hg
    | succ j =>
      simp at hy ht
      exact ((hK.each _ y t hy ht).under hb).weak fun g hg _ => .inl hg

set_option maxRecDepth 100000 in
set_option maxHeartbeats 8000000 in
theorem ofcat_any {P : Nat → Prop} (w : World) (b o : Nat) (x : ReV) (t : RT) (hp : PlaceR w b o x) (ht : RAt w P x t) {p : Option Addr} {n cap : Nat} {us : List FV} {l : List (RT × Bool)} (h : FactsR w P p n cap us l) (hnk : n ≤ t.kids.length) (hT : Tab1 w)
    (hc : ∀ j, j < n → ((l.map Prod.fst).getD j noneM).sz + ((t.kids.drop (j + 1)).map RT.sz).sum ≤ 9000000000) (hdep : ∀ u ∈ catTo t.kids (l.map Prod.fst) n, u.dep < 10000) (hsz : ((catTo t.kids (l.map Prod.fst) n).map RT.sz).sum ≤ 9000000000) (hn9 : t.kids.length ≤ 9000000000) :
    Calls Tryz.prog 41 #[.pointer (some ⟨b, o, none⟩), .slice p n cap] w (GivesRe (fun g => P g ∨ w.heap.size ≤ g) (eitherM (catTo t.kids (l.map Prod.fst) n)) w) := by
  obtain ⟨R, hR⟩ : ∃ R, R = eitherM (catTo t.kids (l.map Prod.fst) n) := ⟨_, rfl⟩
  rw [← hR]
  have HRE := Lib.hid hR
  clear hR
  obtain ⟨i0, hi0, hz0, hz1, hz2⟩ := re_parts
  obtain ⟨D, hD⟩ : ∃ D, D = w.heap.size := ⟨_, rfl⟩
  obtain ⟨w1, hw1⟩ : ∃ w1 : World, w1 = w.alloc (.cells #[.int .i64 0, .int .u64 0, .int .u64 0, .int .u64 0, .int .u64 0, .slice none 0 0] 29) := ⟨_, rfl⟩
  have hb1 : Below w.heap.size w w1 := by rw [hw1]; exact (Below.refl _ _).alloc (Nat.le_refl _) _
  have hnD : w1.heap[D]? = some (.cells #[.int .i64 0, .int .u64 0, .int .u64 0, .int .u64 0, .int .u64 0, .slice none 0 0] 29 (0, 0)) := by rw [hw1, hD]; exact heap_alloc_new _ _
  have hs1 : w1.heap.size = D + 1 := by rw [hw1, hD]; simp
  have h0 : FactsR w (fun g => P g ∧ g < w.heap.size) p n cap us l := h.weak fun b hp hl => ⟨hp, hl⟩
  have HF := Lib.hid (h0.under hb1)
  have ht1 : RAt w1 (fun g => P g ∧ g < w.heap.size) x t := (ht.weak fun g hg hl => (⟨hg, hl⟩ : P g ∧ g < w.heap.size)).under hb1
  have HPL := Lib.hid (hp.under hb1)
  obtain ⟨ks, et, _, hkids⟩ := ht1.kids
  have HK := Lib.hid hkids
  have hxn : x.n = t.kids.length := hkids.num
  have HNUM := Lib.hid h.num
  have HLEN := Lib.hid h.len
  have HT1 := Lib.hid (hT.stays hb1)
  have HDEP := Lib.hid hdep
  have HSZ := Lib.hid hsz
  have HC := Lib.hid hc
  have HB1 := Lib.hid hb1
  have HND := Lib.hid hnD
  have HW1 := Lib.hid hw1
  have HDD := Lib.hid hD
  have HS1 := Lib.hid hs1
  obtain ⟨Q, hQ⟩ : ∃ Q : Nat → Prop, Q = fun g => (P g ∧ g < w.heap.size) ∨ w1.heap.size ≤ g := ⟨_, rfl⟩
  have HQ := Lib.hid hQ
  obtain ⟨xk, xa, xb, xc, xd, xp, xn, xcap⟩ := x
  simp only at hxn
  have hxb : xn ≤ 9000000000 := by omega
  have hnx : n ≤ xn := by omega
  have HXN := Lib.hid hxn
  clear h h0 hT hdep hsz hc hb1 hnD hw1 hD hs1 hp ht ht1 et hkids hnk hn9 hxn hQ
  go_enter Tryz.func41, Tryz.ntmps41
  go_wp2
  rw [← HW1.out, ← HDD.out]
  go_loopg [5, 10] n (fun gk v vi wr => ∃ (i : Nat) (q : Option Addr) (N cp : Nat) (vs : List ReV), v = .slice q N cp ∧ vi = .int .i64 (i : Int) ∧ i ≤ n ∧ n - i ≤ gk ∧ N ≤ i ∧ Hid (N = (catTo t.kids (l.map Prod.fst) i).length) ∧ Hid (Below w1.heap.size w1 wr) ∧ Hid (OwnNew w1.heap.size wr Q (.slice q N cp) vs (catTo t.kids (l.map Prod.fst) i)))
  case atStart => exact ⟨0, none, 0, 0, [], rfl, rfl, by omega, by omega, by omega, rfl, Below.refl _ _, ⟨World.ownsRow_nil _ _ _ _, rfl, fun i y t hy => by simp at hy⟩⟩
  case round =>
    obtain ⟨i, q, N, cp, vs, rfl, rfl, hi, hgk, hNi, HN, HB, HO⟩ := hrel
    by_cases hlt : i < n
    · have hltz : (i : Int) < (n : Int) := by omega
      obtain ⟨g, off, rfl⟩ := HF.out.rowf.some_of hlt
      have hil : i < l.length := by rw [← HNUM.out]; exact hlt
      obtain ⟨y, hy⟩ : ∃ y, us[i]? = some y := ⟨_, List.getElem?_eq_getElem (by rw [HLEN.out]; exact hil)⟩
      obtain ⟨r, hr⟩ : ∃ r, l[i]? = some r := ⟨_, List.getElem?_eq_getElem hil⟩
      have hra := (HF.out.each i y r hy hr).1
      have hrd : (l.map Prod.fst).getD i noneM = r.1 := by rw [List.getD_eq_getElem?_getD, List.getElem?_map, hr]; rfl
      have hkind : r.1.kind = y.re.kind := by
        obtain ⟨_, e, _⟩ := hra.kids
        rw [e]
        rfl
      obtain ⟨p0, p1, p2, p3, p4, p5, p6⟩ := (HF.out.rowf.under HB.out).seven hy
      obtain ⟨⟨k, a, b', c, d, q2, m, cp2⟩, nb⟩ := y
      simp only at p0 p1 p2 p3 p4 p5 p6 hra hkind
      have HRA := Lib.hid hra
      have HRD := Lib.hid hrd
      have HKIND := Lib.hid hkind
      have hwle : w1.heap.size ≤ wr.heap.size := HB.out.size
      clear hra hy hr hil hrd hkind
      by_cases hk : k = 0
      · subst hk
        have HCA : Hid (catTo t.kids (l.map Prod.fst) (i + 1) = catTo t.kids (l.map Prod.fst) i) := by
          unfold Hid
          rw [catTo_succ, catAt, HRD.out, if_pos HKIND.out, List.append_nil]
        have hb2 : Below wr.heap.size wr (wr.alloc (.cells #[.int .i64 0, .int .u64 a, .int .u64 b', .int .u64 c, .int .u64 d, .slice q2 m cp2, .bool nb] 50)) := (Below.refl _ _).alloc (Nat.le_refl _) _
        have HB2 := Lib.hid hb2
        clear hb2
        go_wp2
        go_roundg (n - (i + 1))
        case measure => omega
        case rel => exact ⟨i + 1, q, N, cp, vs, rfl, by go_num, by omega, Nat.le_refl _, by omega, by unfold Hid; rw [HCA.out]; exact HN.out, HB.out.trans (HB2.out.mono HB.out.size), by unfold Hid; rw [HCA.out]; exact HO.out.under HB2.out⟩
      · have hkz : (k == 0) = false := by simpa using hk
        have hil : i < xn := by omega
        obtain ⟨gk, offk, hxp⟩ := HK.out.rowv.some_of hil
        have hxp : xp = some ⟨gk, offk, none⟩ := hxp
        subst hxp
        have hcap : xn ≤ xcap := by
          rcases HK.out.row with ⟨h0, _⟩ | ⟨_, _, _, h1, _⟩
          · have h0 : xn = 0 := h0
            omega
          · exact h1
        obtain ⟨w2, hw2⟩ : ∃ w2 : World, w2 = wr.alloc (.cells #[.int .i64 k, .int .u64 a, .int .u64 b', .int .u64 c, .int .u64 d, .slice q2 m cp2, .bool nb] 50) := ⟨_, rfl⟩
        have hb2 : Below wr.heap.size wr w2 := by rw [hw2]; exact (Below.refl _ _).alloc (Nat.le_refl _) _
        have hs2 : w2.heap.size = wr.heap.size + 1 := by rw [hw2]; simp
        have hn2 : w2.heap[wr.heap.size]? = some (.cells #[.int .i64 k, .int .u64 a, .int .u64 b', .int .u64 c, .int .u64 d, .slice q2 m cp2, .bool nb] 50 (0, 0)) := by rw [hw2]; exact heap_alloc_new _ _
        obtain ⟨w3, hw3⟩ : ∃ w3 : World, w3 = (w2.alloc (.cells #[.int .i64 k, .int .u64 a, .int .u64 b', .int .u64 c, .int .u64 d, .slice q2 m cp2] 29)).drew := ⟨_, rfl⟩
        have hb3 : Below w2.heap.size w2 w3 := by rw [hw3]; exact below_drawn ((Below.refl _ _).alloc (Nat.le_refl _) _) 1
        have hs3 : w3.heap.size = wr.heap.size + 2 := by rw [hw3]; show (w2.alloc _).heap.size = _; simp [hs2]
        have hn3 : w3.heap[wr.heap.size + 1]? = some (.cells #[.int .i64 k, .int .u64 a, .int .u64 b', .int .u64 c, .int .u64 d, .slice q2 m cp2] 29 (0, 0)) := by
          rw [hw3, ← hs2]
          exact heap_alloc_new _ _
        obtain ⟨B, hB⟩ : ∃ B, B = wr.heap.size := ⟨_, rfl⟩
        have hb12 : Below w1.heap.size w1 w2 := HB.out.trans (hb2.mono hwle)
        have hb13 : Below w1.heap.size w1 w3 := hb12.trans (hb3.mono (by omega))
        have e5 := (HPL.out.under hb12).six.2.2.2.2.2
        have e5' : ((w2.alloc (.cells #[.int .i64 k, .int .u64 a, .int .u64 b', .int .u64 c, .int .u64 d, .slice q2 m cp2] 29)).drew).cell? ⟨b, o + 5, none⟩ = some (.slice (some ⟨gk, offk, none⟩) xn xcap) := by
          rw [← hw3]
          exact (HPL.out.under hb13).six.2.2.2.2.2
        rw [← hB] at hn2 hs2 hs3 hn3
        have b0 : w2.cell? ⟨B, 0, none⟩ = some (.int .i64 k) := by simp [World.cell?, hn2]
        have b1 : w2.cell? ⟨B, 1, none⟩ = some (.int .u64 a) := by simp [World.cell?, hn2]
        have b2 : w2.cell? ⟨B, 2, none⟩ = some (.int .u64 b') := by simp [World.cell?, hn2]
        have b3 : w2.cell? ⟨B, 3, none⟩ = some (.int .u64 c) := by simp [World.cell?, hn2]
        have b4 : w2.cell? ⟨B, 4, none⟩ = some (.int .u64 d) := by simp [World.cell?, hn2]
        have b5 : w2.cell? ⟨B, 5, none⟩ = some (.slice q2 m cp2) := by simp [World.cell?, hn2]
        have HW2 := Lib.hid hw2
        have HW3 := Lib.hid hw3
        have HB2 := Lib.hid hb2
        have HB3 := Lib.hid hb3
        have HB13 := Lib.hid hb13
        have HN3 := Lib.hid hn3
        have HBB := Lib.hid hB
        have HS2 := Lib.hid hs2
        have HS3 := Lib.hid hs3
        have hwd : IntKind.i64.wrap ((i : Int) + 1) = (i : Int) + 1 := by rw [IntKind.wrap_i64]; omega
        clear hw2 hw3 hb2 hb3 hb12 hb13 hn2 hn3 hs2 hs3 hB
        go_wp2_with fail
        rw [← HW2.out, ← HBB.out]
        by_cases hcc : xcap = i + 1
        · have z1 : ((i : Int) + 1) ≤ (xn : Int) := by omega
          have z2 : (0 : Int) ≤ (i : Int) + 1 := by omega
          have z3 : (xn : Int) ≤ (xcap : Int) := by omega
          have z6 : xn = i + 1 := by omega
          subst z6
          subst hcc
          have z5 : ((i : Int) + 1).toNat = i + 1 := by omega
          have HROWA : Hid (((w2.alloc (.cells #[.int .i64 k, .int .u64 a, .int .u64 b', .int .u64 c, .int .u64 d, .slice q2 m cp2] 29)).drew).ownsRow B 29 6 (.slice (some ⟨w2.heap.size, 0, none⟩) 1 1) 1 [.int .i64 k, .int .u64 a, .int .u64 b', .int .u64 c, .int .u64 d, .slice q2 m cp2]) := by
            have h := HN3.out
            rw [HW3.out, ← HS2.out] at h
            exact row_of_block (by rw [HS2.out]; omega) h (by unfold maxLen; omega) rfl
          have hkl := HK.out.len
          have hkn : (i + 1) = t.kids.length := HK.out.num
          have HLNEW : Hid (((ks.drop (i + 1)).flatMap ReV.cells).length = 0 * 6) := by
            unfold Hid
            rw [flat6_len, List.length_drop, hkl, ← hkn]
            omega
          have HNEWS : Hid (∀ (j : Nat) (u : Value), ((ks.drop (i + 1)).flatMap ReV.cells)[j]? = some u → ((w2.alloc (.cells #[.int .i64 k, .int .u64 a, .int .u64 b', .int .u64 c, .int .u64 d, .slice q2 m cp2] 29)).drew).cell? ((⟨gk, offk, none⟩ : Addr).add j) = some u) := fun j u hj => by
            exfalso
            have hz : ((ks.drop (i + 1)).flatMap ReV.cells).length = 0 := by rw [flat6_len, List.length_drop, hkl, ← hkn]; omega
            have := (List.getElem?_eq_some_iff.1 hj).1
            omega
          have HONE : Hid (∀ u ∈ (ks.drop (i + 1)).flatMap ReV.cells, u.oneCell' = true) := flat6_one _
          have HBAS : Hid (B ≤ ((w2.alloc (.cells #[.int .i64 k, .int .u64 a, .int .u64 b', .int .u64 c, .int .u64 d, .slice q2 m cp2] 29)).drew).heap.size) := by
            unfold Hid
            rw [← HW3.out, HS3.out]
            omega
          have HSIZ : Hid (((w2.alloc (.cells #[.int .i64 k, .int .u64 a, .int .u64 b', .int .u64 c, .int .u64 d, .slice q2 m cp2] 29)).drew).heap.size = B + 2) := by
            unfold Hid
            rw [← HW3.out, HS3.out]
          have hBw : w1.heap.size ≤ B := by rw [HBB.out]; exact hwle
          have HCON : Hid (∀ (g3 cp3 : Nat) (w4 : World), w4.ownsRow B 29 6 (.slice (some ⟨g3, 0, none⟩) 1 cp3) 1 ([.int .i64 k, .int .u64 a, .int .u64 b', .int .u64 c, .int .u64 d, .slice q2 m cp2] ++ (ks.drop (i + 1)).flatMap ReV.cells) →
              ((w2.alloc (.cells #[.int .i64 k, .int .u64 a, .int .u64 b', .int .u64 c, .int .u64 d, .slice q2 m cp2] 29)).drew).grownBy w4 (Value.slice (some ⟨w2.heap.size, 0, none⟩) 1 1).ownBlock → ((Value.slice (some ⟨w2.heap.size, 0, none⟩) 1 1).ownBlock = some g3 ∨ g3 = B + 2) →
              Calls Tryz.prog 52 #[.slice (some ⟨g3, 0, none⟩) 1 cp3] w4 (GivesRe (fun g => ((P g ∧ g < w.heap.size) ∨ B ≤ g) ∨ w4.heap.size ≤ g) (catM (r.1 :: t.kids.drop (i + 1))) w4) ∧
              ∀ w6, Below w4.heap.size w4 w6 → Below w1.heap.size w1 w6 ∧ OwnNew w1.heap.size w6 Q (.slice q N cp) vs (catTo t.kids (l.map Prod.fst) i)) := fun g3 cp3 w4 ho hg hat => by
            rw [← HW3.out] at hg
            have hb34 : Below B w3 w4 := (Below.refl _ _).grown hg (by rw [HS3.out]; omega) fun z hz => by
              simp [Value.ownBlock] at hz
              have := HS2.out
              omega
            have hb14 : Below w1.heap.size w1 w4 := HB13.out.trans (hb34.mono hBw)
            refine ⟨?_, fun w6 hb6 => ?_⟩
            · have hkk := cat_kids (m := 0) HK.out HRA.out hb14 (by omega) hil ho
              refine cat_any w4 hkk ?_
              have h1 := HC.out i hlt
              rw [HRD.out] at h1
              simpa using h1
            · have h46 : w4.heap.size ≤ w6.heap.size := hb6.size
              have hB4 : B ≤ w4.heap.size := Nat.le_trans (by rw [HS3.out]; omega) hb34.size
              refine ⟨hb14.trans (hb6.mono hb14.size), ?_⟩
              have hO2 := HO.out.under HB2.out
              refine HO.out.under ?_
              rw [← HBB.out]
              have h23 : Below B w2 w3 := HB3.out.mono (by rw [HS2.out]; omega)
              have hr2 : Below B wr w2 := by rw [HBB.out]; exact HB2.out
              exact hr2.trans ((h23.trans (hb34.trans (hb6.mono hB4))))
          have HIL := Lib.hid hil
          have hN9 : N ≤ 9000000000 := by omega
          clear e5' 
          have e5' : ((w2.alloc (.cells #[.int .i64 k, .int .u64 a, .int .u64 b', .int .u64 c, .int .u64 d, .slice q2 m cp2] 29)).drew).cell? ⟨b, o + 5, none⟩ = some (.slice (some ⟨gk, offk, none⟩) (i + 1) (i + 1)) := by
            rw [← HW3.out]
            exact (HPL.out.under HB13.out).six.2.2.2.2.2
          clear hkl hkn
          go_region_law (first | (refine step_append_any (by rfl) _ _ _ (by rfl) B 29 i0 _ 6 64 Tryz.underlying27 hi0 hz0 hz1 hz2 rfl (by omega) (.slice (some ⟨w2.heap.size, 0, none⟩) 1 1) 1 [.int .i64 k, .int .u64 a, .int .u64 b', .int .u64 c, .int .u64 d, .slice q2 m cp2] (by rfl) HROWA.out ⟨gk, offk, none⟩ 0 0 ((ks.drop (i + 1)).flatMap ReV.cells) (by rfl) HLNEW.out HNEWS.out HONE.out (by omega) (by unfold maxLen; omega) (by omega) HBAS.out (B + 2) HSIZ.out ?_; intro g3 cp3 w4 hown hgrow hat hlt4; have HCALL := HCON.out g3 cp3 w4 hown hgrow hat; have hs4 : B ≤ w4.heap.size := Nat.le_of_lt (Nat.lt_of_le_of_lt (row_base hown).1 hlt4); clear hown hgrow hat hlt4) | (go_simp; go_at_call 52; (with_reducible (refine HCALL.1.mono ?_)); rintro _ w6 ⟨x6, rfl, hx6, hb6⟩; obtain ⟨e0, e1, e2, e3, e4, q6, m6, cp6⟩ := x6; unfold ReV.val; have HK6 := HCALL.2 w6 hb6; have HX6 := Lib.hid hx6; have HB6 := Lib.hid hb6; have HROW6 := Lib.hid (HK6.2.own.alloc (.cells #[.int .i64 e0, .int .u64 e1, .int .u64 e2, .int .u64 e3, .int .u64 e4, .slice q6 m6 cp6] 29)); rw [← HN.out] at HROW6; have hsz6 : w1.heap.size ≤ w6.heap.size := HK6.1.size; have HKK := Lib.hid HK6; clear hx6 hb6 HK6 HCALL) | (refine step_append_any (by rfl) _ _ _ (by rfl) w1.heap.size 29 i0 _ 6 64 Tryz.underlying27 hi0 hz0 hz1 hz2 rfl (by omega) (.slice q N cp) N (vs.flatMap ReV.cells) (by rfl) HROW6.out ⟨w6.heap.size, 0, none⟩ 1 1 [.int .i64 e0, .int .u64 e1, .int .u64 e2, .int .u64 e3, .int .u64 e4, .slice q6 m6 cp6] (by rfl) (by rfl) (new3 _ _ _ _ rfl) (by intro u hu; simp at hu; rcases hu with rfl | rfl | rfl | rfl | rfl | rfl <;> rfl) (by omega) (by unfold maxLen; omega) (by omega) (by simp; omega) (w6.heap.size + 1) (by simp) ?_; intro g5 cp5 w8 hown5 hgrow5 hat5 hlt8; have HOWN5 := Lib.hid hown5; have HGROW5 := Lib.hid hgrow5; have HAT5 := Lib.hid hat5; clear hown5 hgrow5 hat5) | fail)
          all_goals go_wp2
          all_goals
            go_roundg (n - (i + 1))
            case measure => omega
            case rel =>
              have hcat : catTo t.kids (l.map Prod.fst) (i + 1) = catTo t.kids (l.map Prod.fst) i ++ [catM (r.1 :: t.kids.drop (i + 1))] := by
                rw [catTo_succ, catAt, HRD.out, if_neg (by rw [HKIND.out]; exact hk)]
              have hN := HN.out
              subst hN
              have hba : Below w6.heap.size w6 (w6.alloc (.cells #[.int .i64 e0, .int .u64 e1, .int .u64 e2, .int .u64 e3, .int .u64 e4, .slice q6 m6 cp6] 29)) := (Below.refl _ _).alloc (Nat.le_refl _) _
              have hqb : ∀ z, (Value.slice q (catTo t.kids (l.map Prod.fst) i).length cp).ownBlock = some z → w1.heap.size ≤ z ∧ z < B := fun z hz => by
                rcases row_forms HO.out.own with ⟨h, _⟩ | ⟨gq, cq, h⟩
                · rw [h] at hz; simp [Value.ownBlock] at hz
                · have ho := HO.out.own
                  rw [h] at hz ho
                  have h1 := row_base ho
                  have h2 : gq = z := by simpa [Value.ownBlock] using hz
                  have h3 := HBB.out
                  omega
              have hx : RAt (w6.alloc (.cells #[.int .i64 e0, .int .u64 e1, .int .u64 e2, .int .u64 e3, .int .u64 e4, .slice q6 m6 cp6] 29)) (fun g => Q g ∧ (Value.slice q (catTo t.kids (l.map Prod.fst) i).length cp).ownBlock ≠ some g) ⟨e0, e1, e2, e3, e4, q6, m6, cp6⟩ (catM (r.1 :: t.kids.drop (i + 1))) := by
                refine (HX6.out.under hba).weak fun z hz _ => ?_
                have h1 := HS1.out
                have h2 := HDD.out
                rw [HQ.out]
                refine ⟨?_, fun e => ?_⟩
                · rcases hz with (hz | hz) | hz
                  · exact .inl hz
                  · exact .inr (by omega)
                  · exact .inr (by omega)
                · have h3 := hqb z e
                  rcases hz with (⟨_, hz⟩ | hz) | hz <;> omega
              refine ⟨i + 1, some ⟨g5, 0, none⟩, _, cp5, vs ++ [⟨e0, e1, e2, e3, e4, q6, m6, cp6⟩], rfl, by go_num, by omega, Nat.le_refl _, by omega, ?_, ?_, ?_⟩
              · unfold Hid
                rw [hcat, List.length_append]
                rfl
              · exact (HKK.out.1.alloc (by omega) _).grown HGROW5.out (by simp; omega) fun z hz => (hqb z hz).1
              · unfold Hid
                rw [hcat]
                exact OwnNew.add (HKK.out.2.under hba) hx HOWN5.out HGROW5.out (HAT5.out.imp id fun h => by rw [h]; simp)
        · have z1 : ((i : Int) + 1) ≤ (xn : Int) := by omega
          have z2 : (0 : Int) ≤ (i : Int) + 1 := by omega
          have z3 : (xn : Int) ≤ (xcap : Int) := by omega
          have z4 : ¬ xcap = i + 1 := hcc
          have z5 : ((i : Int) + 1).toNat = i + 1 := by omega
          have HROWA : Hid (((w2.alloc (.cells #[.int .i64 k, .int .u64 a, .int .u64 b', .int .u64 c, .int .u64 d, .slice q2 m cp2] 29)).drew).ownsRow B 29 6 (.slice (some ⟨w2.heap.size, 0, none⟩) 1 1) 1 [.int .i64 k, .int .u64 a, .int .u64 b', .int .u64 c, .int .u64 d, .slice q2 m cp2]) := by
            have h := HN3.out
            rw [HW3.out, ← HS2.out] at h
            exact row_of_block (by rw [HS2.out]; omega) h (by unfold maxLen; omega) rfl
          have hkl := HK.out.len
          have hkn : xn = t.kids.length := HK.out.num
          have HLNEW : Hid (((ks.drop (i + 1)).flatMap ReV.cells).length = (xn - (i + 1)) * 6) := by
            unfold Hid
            rw [flat6_len, List.length_drop, hkl, ← hkn]
          have HNEWS : Hid (∀ (j : Nat) (u : Value), ((ks.drop (i + 1)).flatMap ReV.cells)[j]? = some u → ((w2.alloc (.cells #[.int .i64 k, .int .u64 a, .int .u64 b', .int .u64 c, .int .u64 d, .slice q2 m cp2] 29)).drew).cell? ((⟨gk, offk + (i + 1) * 6, none⟩ : Addr).add j) = some u) := fun j u hj => by
            rw [addr_add, ← HW3.out, Nat.add_assoc]
            rcases (HK.out.under HB13.out).row with ⟨h0, _⟩ | ⟨g', off', h1, _, _, _, _, h6⟩
            · have h0 : xn = 0 := h0
              omega
            · have h1 : (⟨gk, offk, none⟩ : Addr) = ⟨g', off', none⟩ := Option.some.inj h1
              obtain ⟨rfl, rfl⟩ : gk = g' ∧ offk = off' := by simpa using h1
              exact h6 _ u (flat6_post (by rw [hkl, ← hkn]; omega) hj)
          have HONE : Hid (∀ u ∈ (ks.drop (i + 1)).flatMap ReV.cells, u.oneCell' = true) := flat6_one _
          have HBAS : Hid (B ≤ ((w2.alloc (.cells #[.int .i64 k, .int .u64 a, .int .u64 b', .int .u64 c, .int .u64 d, .slice q2 m cp2] 29)).drew).heap.size) := by
            unfold Hid
            rw [← HW3.out, HS3.out]
            omega
          have HSIZ : Hid (((w2.alloc (.cells #[.int .i64 k, .int .u64 a, .int .u64 b', .int .u64 c, .int .u64 d, .slice q2 m cp2] 29)).drew).heap.size = B + 2) := by
            unfold Hid
            rw [← HW3.out, HS3.out]
          have hBw : w1.heap.size ≤ B := by rw [HBB.out]; exact hwle
          have HCON : Hid (∀ (g3 cp3 : Nat) (w4 : World), w4.ownsRow B 29 6 (.slice (some ⟨g3, 0, none⟩) (1 + (xn - (i + 1))) cp3) (1 + (xn - (i + 1))) ([.int .i64 k, .int .u64 a, .int .u64 b', .int .u64 c, .int .u64 d, .slice q2 m cp2] ++ (ks.drop (i + 1)).flatMap ReV.cells) →
              ((w2.alloc (.cells #[.int .i64 k, .int .u64 a, .int .u64 b', .int .u64 c, .int .u64 d, .slice q2 m cp2] 29)).drew).grownBy w4 (Value.slice (some ⟨w2.heap.size, 0, none⟩) 1 1).ownBlock → ((Value.slice (some ⟨w2.heap.size, 0, none⟩) 1 1).ownBlock = some g3 ∨ g3 = B + 2) →
              Calls Tryz.prog 52 #[.slice (some ⟨g3, 0, none⟩) (1 + (xn - (i + 1))) cp3] w4 (GivesRe (fun g => ((P g ∧ g < w.heap.size) ∨ B ≤ g) ∨ w4.heap.size ≤ g) (catM (r.1 :: t.kids.drop (i + 1))) w4) ∧
              ∀ w6, Below w4.heap.size w4 w6 → Below w1.heap.size w1 w6 ∧ OwnNew w1.heap.size w6 Q (.slice q N cp) vs (catTo t.kids (l.map Prod.fst) i)) := fun g3 cp3 w4 ho hg hat => by
            rw [← HW3.out] at hg
            have hb34 : Below B w3 w4 := (Below.refl _ _).grown hg (by rw [HS3.out]; omega) fun z hz => by
              simp [Value.ownBlock] at hz
              have := HS2.out
              omega
            have hb14 : Below w1.heap.size w1 w4 := HB13.out.trans (hb34.mono hBw)
            refine ⟨?_, fun w6 hb6 => ?_⟩
            · have hkk := cat_kids HK.out HRA.out hb14 rfl hil ho
              refine cat_any w4 hkk ?_
              have h1 := HC.out i hlt
              rw [HRD.out] at h1
              simpa using h1
            · have h46 : w4.heap.size ≤ w6.heap.size := hb6.size
              have hB4 : B ≤ w4.heap.size := Nat.le_trans (by rw [HS3.out]; omega) hb34.size
              refine ⟨hb14.trans (hb6.mono hb14.size), ?_⟩
              have hO2 := HO.out.under HB2.out
              refine HO.out.under ?_
              rw [← HBB.out]
              have h23 : Below B w2 w3 := HB3.out.mono (by rw [HS2.out]; omega)
              have hr2 : Below B wr w2 := by rw [HBB.out]; exact HB2.out
              exact hr2.trans ((h23.trans (hb34.trans (hb6.mono hB4))))
          have HIL := Lib.hid hil
          have hN9 : N ≤ 9000000000 := by omega
          clear e5' 
          have e5' : ((w2.alloc (.cells #[.int .i64 k, .int .u64 a, .int .u64 b', .int .u64 c, .int .u64 d, .slice q2 m cp2] 29)).drew).cell? ⟨b, o + 5, none⟩ = some (.slice (some ⟨gk, offk, none⟩) xn xcap) := by
            rw [← HW3.out]
            exact (HPL.out.under HB13.out).six.2.2.2.2.2
          clear hkl hkn
          go_region_law (first | (refine step_append_any (by rfl) _ _ _ (by rfl) B 29 i0 _ 6 64 Tryz.underlying27 hi0 hz0 hz1 hz2 rfl (by omega) (.slice (some ⟨w2.heap.size, 0, none⟩) 1 1) 1 [.int .i64 k, .int .u64 a, .int .u64 b', .int .u64 c, .int .u64 d, .slice q2 m cp2] (by rfl) HROWA.out ⟨gk, offk + (i + 1) * 6, none⟩ (xn - (i + 1)) (xcap - (i + 1)) ((ks.drop (i + 1)).flatMap ReV.cells) (by rfl) HLNEW.out HNEWS.out HONE.out (by omega) (by unfold maxLen; omega) (by omega) HBAS.out (B + 2) HSIZ.out ?_; intro g3 cp3 w4 hown hgrow hat hlt4; have HCALL := HCON.out g3 cp3 w4 hown hgrow hat; have hs4 : B ≤ w4.heap.size := Nat.le_of_lt (Nat.lt_of_le_of_lt (row_base hown).1 hlt4); clear hown hgrow hat hlt4) | (go_simp; go_at_call 52; (with_reducible (refine HCALL.1.mono ?_)); rintro _ w6 ⟨x6, rfl, hx6, hb6⟩; obtain ⟨e0, e1, e2, e3, e4, q6, m6, cp6⟩ := x6; unfold ReV.val; have HK6 := HCALL.2 w6 hb6; have HX6 := Lib.hid hx6; have HB6 := Lib.hid hb6; have HROW6 := Lib.hid (HK6.2.own.alloc (.cells #[.int .i64 e0, .int .u64 e1, .int .u64 e2, .int .u64 e3, .int .u64 e4, .slice q6 m6 cp6] 29)); rw [← HN.out] at HROW6; have hsz6 : w1.heap.size ≤ w6.heap.size := HK6.1.size; have HKK := Lib.hid HK6; clear hx6 hb6 HK6 HCALL) | (refine step_append_any (by rfl) _ _ _ (by rfl) w1.heap.size 29 i0 _ 6 64 Tryz.underlying27 hi0 hz0 hz1 hz2 rfl (by omega) (.slice q N cp) N (vs.flatMap ReV.cells) (by rfl) HROW6.out ⟨w6.heap.size, 0, none⟩ 1 1 [.int .i64 e0, .int .u64 e1, .int .u64 e2, .int .u64 e3, .int .u64 e4, .slice q6 m6 cp6] (by rfl) (by rfl) (new3 _ _ _ _ rfl) (by intro u hu; simp at hu; rcases hu with rfl | rfl | rfl | rfl | rfl | rfl <;> rfl) (by omega) (by unfold maxLen; omega) (by omega) (by simp; omega) (w6.heap.size + 1) (by simp) ?_; intro g5 cp5 w8 hown5 hgrow5 hat5 hlt8; have HOWN5 := Lib.hid hown5; have HGROW5 := Lib.hid hgrow5; have HAT5 := Lib.hid hat5; clear hown5 hgrow5 hat5) | fail)
          all_goals go_wp2
          all_goals
            go_roundg (n - (i + 1))
            case measure => omega
            case rel =>
              have hcat : catTo t.kids (l.map Prod.fst) (i + 1) = catTo t.kids (l.map Prod.fst) i ++ [catM (r.1 :: t.kids.drop (i + 1))] := by
                rw [catTo_succ, catAt, HRD.out, if_neg (by rw [HKIND.out]; exact hk)]
              have hN := HN.out
              subst hN
              have hba : Below w6.heap.size w6 (w6.alloc (.cells #[.int .i64 e0, .int .u64 e1, .int .u64 e2, .int .u64 e3, .int .u64 e4, .slice q6 m6 cp6] 29)) := (Below.refl _ _).alloc (Nat.le_refl _) _
              have hqb : ∀ z, (Value.slice q (catTo t.kids (l.map Prod.fst) i).length cp).ownBlock = some z → w1.heap.size ≤ z ∧ z < B := fun z hz => by
                rcases row_forms HO.out.own with ⟨h, _⟩ | ⟨gq, cq, h⟩
                · rw [h] at hz; simp [Value.ownBlock] at hz
                · have ho := HO.out.own
                  rw [h] at hz ho
                  have h1 := row_base ho
                  have h2 : gq = z := by simpa [Value.ownBlock] using hz
                  have h3 := HBB.out
                  omega
              have hx : RAt (w6.alloc (.cells #[.int .i64 e0, .int .u64 e1, .int .u64 e2, .int .u64 e3, .int .u64 e4, .slice q6 m6 cp6] 29)) (fun g => Q g ∧ (Value.slice q (catTo t.kids (l.map Prod.fst) i).length cp).ownBlock ≠ some g) ⟨e0, e1, e2, e3, e4, q6, m6, cp6⟩ (catM (r.1 :: t.kids.drop (i + 1))) := by
                refine (HX6.out.under hba).weak fun z hz _ => ?_
                have h1 := HS1.out
                have h2 := HDD.out
                rw [HQ.out]
                refine ⟨?_, fun e => ?_⟩
                · rcases hz with (hz | hz) | hz
                  · exact .inl hz
                  · exact .inr (by omega)
                  · exact .inr (by omega)
                · have h3 := hqb z e
                  rcases hz with (⟨_, hz⟩ | hz) | hz <;> omega
              refine ⟨i + 1, some ⟨g5, 0, none⟩, _, cp5, vs ++ [⟨e0, e1, e2, e3, e4, q6, m6, cp6⟩], rfl, by go_num, by omega, Nat.le_refl _, by omega, ?_, ?_, ?_⟩
              · unfold Hid
                rw [hcat, List.length_append]
                rfl
              · exact (HKK.out.1.alloc (by omega) _).grown HGROW5.out (by simp; omega) fun z hz => (hqb z hz).1
              · unfold Hid
                rw [hcat]
                exact OwnNew.add (HKK.out.2.under hba) hx HOWN5.out HGROW5.out (HAT5.out.imp id fun h => by rw [h]; simp)
    · have hltz : ¬ (i : Int) < (n : Int) := by omega
      have ei : i = n := by omega
      subst ei
      obtain ⟨q', cp', hv, hkr⟩ := HO.out.slice fun g hg => by rw [HQ.out]; exact .inr hg
      obtain ⟨rfl, hl, rfl⟩ : q = q' ∧ N = (catTo t.kids (l.map Prod.fst) i).length ∧ cp = cp' := by simpa using hv
      rw [← hl] at hkr
      have c6 := either_any wr hkr (HT1.out.stays HB.out) HDEP.out HSZ.out
      have hDl : D < w1.heap.size := by rw [HS1.out]; omega
      have h5D : wr.heap[D]? = some (.cells #[.int .i64 0, .int .u64 0, .int .u64 0, .int .u64 0, .int .u64 0, .slice none 0 0] 29 (0, 0)) := (HB.out.block D hDl).trans HND.out
      have H5D := Lib.hid h5D
      rw [← HRE.out] at c6
      clear hv hkr h5D hl
      go_wp2_with fail
      ((with_reducible refine c6.mono ?_))
      rintro _ w6 ⟨x, rfl, hx, hb6⟩
      obtain ⟨k, a, b, c, d, q6, m, cp6⟩ := x
      have h6D : w6.heap[D]? = some (.cells #[.int .i64 0, .int .u64 0, .int .u64 0, .int .u64 0, .int .u64 0, .slice none 0 0] 29 (0, 0)) := (hb6.block D (Nat.lt_of_lt_of_le hDl HB.out.size)).trans H5D.out
      have H6D := Lib.hid h6D
      obtain ⟨⟨d0, d1, d2, d3, d4, d5⟩, f0, f1, f2, f3, f4, f5⟩ := zero_facts h6D
      have HX := Lib.hid hx
      have HB6 := Lib.hid hb6
      clear hx hb6 h6D c6
      unfold ReV.val
      go_wp2
      refine bodyPost_ret_by (results_cell_row rfl _ _ D 29 #[.int .i64 k, .int .u64 a, .int .u64 b, .int .u64 c, .int .u64 d, .slice q6 m cp6] (0, 0) _ rfl (set6_heap H6D.out _ _ _ _ _ _) Tryz.underlying29 rfl (by kernel_rfl)) rfl ?_
      have hall : Below w.heap.size w w6 := HB1.out.trans ((HB.out.trans (HB6.out.mono HB.out.size)).mono HB1.out.size)
      refine ⟨⟨k, a, b, c, d, q6, m, cp6⟩, rfl, ?_, six_set hall (by have := HDD.out; omega) _ _ _ _ _ _⟩
      refine HX.out.kept (Keeps.of (by simp [World.setCell]) fun b hp hl => ?_)
      rw [HQ.out] at hp
      have h1 := HDD.out
      have h2 := HS1.out
      have h3 := HB.out.size
      have h4 := HB1.out.size
      have hbD : b ≠ D := by rcases hp with (⟨_, hp⟩ | hp) | hp <;> omega
      refine ⟨six_ne hbD _ _ _ _ _ _, ?_⟩
      rcases hp with (⟨hp, _⟩ | hp) | hp
      · exact .inl hp
      · exact .inr (by omega)
      · exact .inr (by omega)

end Go.Proofs.YtjeplmnjgdpgbaaGreatDoor

/-! What is found out about an expression, by that of the kids that it needs. No condition but the library's table and size. -/
namespace Go.Proofs.YtjeplmnjgdpgbaaGreatDoor
open Go.RowKit Go.Lib
set_option linter.unusedVariables false
set_option linter.unusedSimpArgs false

/-- One more kid is wanted, behind the first i. -/
def moreD (t : RT) (i : Nat) : Bool := if t.kind = 4 then decide (i < t.kids.length) else if t.kind = 5 then decide (i = 0) && decide (t.kids.length = 1) else if t.kind = 3 then decide (i < t.kids.length) && (decide (i = 0) || nullM (t.kids.getD (i - 1) noneM)) else false

set_option maxRecDepth 100000 in
set_option maxHeartbeats 4000000 in
theorem needsmore_any {P PF : Nat → Prop} (W : World) (b o : Nat) (x : ReV) (t : RT) (hp : PlaceR W b o x) (ht : RAt W P x t) {p : Option Addr} {i cap : Nat} {us : List FV} (h : RowF W PF p i cap us) (hb : i ≤ 9000000000)
    (hl : 0 < i → ∃ y, us[i - 1]? = some y ∧ y.nul = nullM (t.kids.getD (i - 1) noneM)) :
    Calls Tryz.prog 21 #[.pointer (some ⟨b, o, none⟩), .slice p i cap] W fun e w' => e = .returned (.bool (moreD t i)) ∧ W = w' := by
  obtain ⟨R, hR⟩ : ∃ R, R = moreD t i := ⟨_, rfl⟩
  rw [← hR]
  obtain ⟨vs0, et, _, hk⟩ := ht.kids
  have hkd : t.kind = x.kind := by rw [et]; rfl
  have hnn : x.n = t.kids.length := hk.num
  obtain ⟨c0, _, _, _, _, c5⟩ := hp.six
  obtain ⟨k, hkk⟩ : ∃ k, k = x.kind := ⟨_, rfl⟩
  obtain ⟨n, hn⟩ : ∃ n, n = x.n := ⟨_, rfl⟩
  obtain ⟨xp, hxp⟩ : ∃ xp, xp = x.p := ⟨_, rfl⟩
  obtain ⟨xc, hxc⟩ : ∃ xc, xc = x.cap := ⟨_, rfl⟩
  rw [← hkk] at c0 hkd
  rw [← hn, ← hxp, ← hxc] at c5
  rw [← hn] at hnn
  unfold moreD at hR
  rw [hkd, ← hnn] at hR
  have HR := Lib.hid hR
  have HL := Lib.hid hl
  have HF := Lib.hid h
  clear hR hkk hn hxp hxc hp ht et hk hl h hkd hnn
  by_cases k4 : k = 4
  · subst k4
    have e : R = decide (i < n) := by rw [HR.out]; simp
    have HE := Lib.hid e
    clear e
    go_enter Tryz.func21, Tryz.ntmps21
    go_wp2
    go_ret
    exact ⟨by rw [HE.out]; first | rfl | (simp; done), rfl⟩
  have q4 : (k == 4) = false := by simpa using k4
  by_cases k5 : k = 5
  · subst k5
    by_cases hi : i = 0
    · subst hi
      have e : R = decide (n = 1) := by rw [HR.out]; simp
      have HE := Lib.hid e
      clear e
      have h1 : ((n : Int) == 1) = decide (n = 1) := by rw [Bool.eq_iff_iff]; simp; omega
      have H1 := Lib.hid h1
      clear h1
      go_enter Tryz.func21, Tryz.ntmps21
      go_wp2
      go_ret
      refine ⟨?_, rfl⟩
      rw [HE.out, ← H1.out]
      rfl
    · have hiz : ((i : Int) == 0) = false := by simp; omega
      have e : R = false := by rw [HR.out]; simp [hi]
      have HE := Lib.hid e
      clear e
      go_enter Tryz.func21, Tryz.ntmps21
      go_wp2
      go_ret
      exact ⟨by rw [HE.out]; rfl, rfl⟩
  have q5 : (k == 5) = false := by simpa using k5
  by_cases k3 : k = 3
  · subst k3
    by_cases hlt : i < n
    · have hltz : (i : Int) < (n : Int) := by omega
      by_cases hi : i = 0
      · subst hi
        have e : R = true := by rw [HR.out]; simp [hlt]
        have HE := Lib.hid e
        clear e
        go_enter Tryz.func21, Tryz.ntmps21
        go_wp2
        go_ret
        exact ⟨by rw [HE.out]; rfl, rfl⟩
      · have hiz : ((i : Int) == 0) = false := by simp; omega
        obtain ⟨g, off, rfl⟩ := HF.out.some_of (i := 0) (by omega)
        obtain ⟨y, hy, hyn⟩ := HL.out (by omega)
        have c6 := (HF.out.seven hy).2.2.2.2.2.2
        have HYN := Lib.hid hyn
        have hi1 : ((i : Int) - 1) = ((i - 1 : Nat) : Int) := by omega
        have hi2 : i - 1 < i := by omega
        obtain ⟨j, hj⟩ : ∃ j, j = i - 1 := ⟨_, rfl⟩
        rw [← hj] at c6 hi1 hi2
        have HJ := Lib.hid hj
        have hw1 : IntKind.i64.wrap ((i : Int) - 1) = (j : Int) := by rw [IntKind.wrap_i64]; omega
        have hjz : (j : Int) < (i : Int) := by omega
        obtain ⟨v, hv⟩ : ∃ v, v = y.nul := ⟨_, rfl⟩
        rw [← hv] at c6
        have e : R = v := by rw [HR.out, hv, hyn]; simp [hi, hlt]
        have HE := Lib.hid e
        clear hy hyn hj hv e
        go_enter Tryz.func21, Tryz.ntmps21
        go_wp2
        go_ret
        exact ⟨by rw [HE.out]; rfl, rfl⟩
    · have hltz : ¬ (i : Int) < (n : Int) := by omega
      have e : R = false := by rw [HR.out]; simp [hlt]
      have HE := Lib.hid e
      clear e
      go_enter Tryz.func21, Tryz.ntmps21
      go_wp2
      go_ret
      exact ⟨by rw [HE.out]; rfl, rfl⟩
  have q3 : (k == 3) = false := by simpa using k3
  have e : R = false := by rw [HR.out, if_neg k4, if_neg k5, if_neg k3]
  subst e
  clear k3 k4 k5
  go_enter Tryz.func21, Tryz.ntmps21
  go_wp2
  go_ret
  exact ⟨rfl, rfl⟩

end Go.Proofs.YtjeplmnjgdpgbaaGreatDoor

/-! What is found out about an expression: the walk. No condition but the library's table and size. -/
namespace Go.Proofs.YtjeplmnjgdpgbaaGreatDoor
open Go.RowKit Go.Lib
set_option linter.unusedVariables false
set_option linter.unusedSimpArgs false

/-- The kids that are needed. -/
def need (t : RT) : List RT := if t.kind = 3 then needed t.kids else if t.kind = 4 then t.kids else if t.kind = 5 then (if t.kids.length = 1 then t.kids else []) else []
theorem needed_pre : ∀ l : List RT, ∃ m, needed l = l.take m ∧ m ≤ l.length
  | [] => ⟨0, rfl, by simp⟩
  | k :: l => by
    obtain ⟨m, h1, h2⟩ := needed_pre l
    rw [needed]
    by_cases h : nullM k = true
    · rw [if_pos h, h1]
      exact ⟨m + 1, rfl, by simp; omega⟩
    · rw [if_neg h]
      exact ⟨1, rfl, by simp⟩
theorem needed_take (l : List RT) (i : Nat) (hi : ∀ j, j < i → j < l.length ∧ (j = 0 ∨ nullM (l.getD (j - 1) noneM) = true)) (hn : ¬ (i < l.length ∧ (i = 0 ∨ nullM (l.getD (i - 1) noneM) = true))) : l.take i = needed l := by
  induction l generalizing i with
  | nil => simp [needed]
  | cons k l ih =>
    cases i with
    | zero => exact absurd ⟨by simp, .inl rfl⟩ hn
    | succ i =>
      rw [List.take_succ_cons, needed]
      by_cases h : nullM k = true
      · rw [if_pos h, ih i (fun j hj => ?_) (fun q => ?_)]
        · have := hi (j + 1) (by omega)
          refine ⟨by have := this.1; simp at this; omega, ?_⟩
          rcases this.2 with h1 | h1
          · omega
          · by_cases hj0 : j = 0
            · exact .inl hj0
            · right
              obtain ⟨j', rfl⟩ : ∃ j', j = j' + 1 := ⟨j - 1, by omega⟩
              simpa using h1
        · refine hn ⟨by have := q.1; simp; omega, .inr ?_⟩
          rcases q.2 with h1 | h1
          · subst h1
            simpa using h
          · by_cases hi0 : i = 0
            · subst hi0
              simpa using h
            · obtain ⟨i', rfl⟩ : ∃ i', i = i' + 1 := ⟨i - 1, by omega⟩
              simpa using h1
      · rw [if_neg h]
        cases i with
        | zero => simp
        | succ i =>
          exfalso
          have := (hi 1 (by omega)).2
          rcases this with h1 | h1
          · omega
          · exact h (by simpa using h1)
/-- When no more is wanted, all that is needed is there. -/
theorem take_need (t : RT) (i : Nat) (hi : ∀ j, j < i → moreD t j = true) (hn : moreD t i = false) : t.kids.take i = need t ∧ i = (need t).length := by
  have key : t.kids.take i = need t → i ≤ t.kids.length → t.kids.take i = need t ∧ i = (need t).length := fun h hl => ⟨h, by rw [← h, List.length_take]; omega⟩
  unfold moreD at hi hn
  by_cases h4 : t.kind = 4
  · simp only [h4, if_true] at hi hn
    have hl : t.kids.length ≤ i := by simpa using hn
    have hle : i ≤ t.kids.length := by
      cases i with
      | zero => omega
      | succ i => have := hi i (by omega); simp at this; omega
    refine key ?_ hle
    unfold need
    rw [if_neg (by omega), if_pos h4, List.take_of_length_le hl]
  · simp only [h4, if_false] at hi hn
    by_cases h5 : t.kind = 5
    · simp only [h5, if_true] at hi hn
      by_cases hone : t.kids.length = 1
      · have hi1 : i = 1 := by
          cases i with
          | zero => simp [hone] at hn
          | succ i =>
            have := hi i (by omega)
            simp at this
            omega
        subst hi1
        refine key ?_ (by omega)
        unfold need
        rw [if_neg (by omega), if_neg h4, if_pos h5, if_pos hone, List.take_of_length_le (by omega)]
      · have hi0 : i = 0 := by
          cases i with
          | zero => rfl
          | succ i =>
            have := hi i (by omega)
            simp [hone] at this
        subst hi0
        refine key ?_ (by omega)
        unfold need
        rw [if_neg (by omega), if_neg h4, if_pos h5, if_neg hone]
        rfl
    · simp only [h5, if_false] at hi hn
      by_cases h3 : t.kind = 3
      · simp only [h3, if_true] at hi hn
        have hle : i ≤ t.kids.length := by
          cases i with
          | zero => omega
          | succ i => have := hi i (by omega); simp at this; omega
        refine key ?_ hle
        unfold need
        rw [if_pos h3]
        refine needed_take t.kids i (fun j hj => ?_) fun q => ?_
        · have := hi j hj
          simpa using this
        · have : (decide (i < t.kids.length) && (decide (i = 0) || nullM (t.kids.getD (i - 1) noneM))) = true := by simpa using q
          rw [this] at hn
          cases hn
      · simp only [h3, if_false] at hi hn
        have hi0 : i = 0 := by
          cases i with
          | zero => rfl
          | succ i => have := hi i (by omega); cases this
        subst hi0
        refine key ?_ (by omega)
        unfold need
        rw [if_neg h3, if_neg h4, if_neg h5]
        rfl
/-- By what the needed kids say. -/
theorem null_need (t : RT) : nullM t = if t.kind = 1 ∨ t.kind = 5 then true else if t.kind = 3 then (need t).all nullM else if t.kind = 4 then (need t).any nullM else false := by
  have hna : ∀ l : List RT, (needed l).all nullM = l.all nullM := by
    intro l
    induction l with
    | nil => rfl
    | cons k l ih =>
      rw [needed]
      by_cases h : nullM k = true
      · rw [if_pos h, List.all_cons, List.all_cons, ih]
      · rw [if_neg h]
        simp [h]
  obtain ⟨k, s, kids⟩ := t
  rw [null_mk]
  show _ = if k = 1 ∨ k = 5 then true else if k = 3 then (need (.mk k s kids)).all nullM else if k = 4 then (need (.mk k s kids)).any nullM else false
  by_cases h1 : k = 1 ∨ k = 5
  · rw [if_pos h1, if_pos h1]
  · rw [if_neg h1, if_neg h1]
    by_cases h3 : k = 3
    · rw [if_pos h3, if_pos h3]
      unfold need
      show kids.all nullM = (if k = 3 then needed kids else _).all nullM
      rw [if_pos h3, hna]
    · rw [if_neg h3, if_neg h3]
      by_cases h4 : k = 4
      · rw [if_pos h4, if_pos h4]
        unfold need
        show kids.any nullM = (if k = 3 then needed kids else if k = 4 then kids else _).any nullM
        rw [if_neg h3, if_pos h4]
      · rw [if_neg h4, if_neg h4]
theorem deriv_need (c : Nat) (t : RT) : derivM c t = if t.kind = 2 then (if t.set.mem c then emptyM else noneM) else if t.kind = 4 then eitherM ((need t).map (derivM c)) else if t.kind = 5 then (match (need t).map (derivM c) with | [d] => catM [d, t] | _ => noneM)
    else if t.kind = 3 then eitherM (catTo t.kids ((need t).map (derivM c)) (need t).length) else noneM := by
  obtain ⟨k, s, kids⟩ := t
  rw [deriv_mk]
  show _ = if k = 2 then (if s.mem c then emptyM else noneM) else if k = 4 then eitherM ((need (.mk k s kids)).map (derivM c)) else if k = 5 then (match (need (.mk k s kids)).map (derivM c) with | [d] => catM [d, .mk k s kids] | _ => noneM)
    else if k = 3 then eitherM (catTo kids ((need (.mk k s kids)).map (derivM c)) (need (.mk k s kids)).length) else noneM
  by_cases h2 : k = 2
  · rw [if_pos h2, if_pos h2]
  rw [if_neg h2, if_neg h2]
  by_cases h3 : k = 3
  · subst h3
    rw [if_pos rfl, if_neg (by decide), if_neg (by decide), if_pos rfl, either_needed]
    rfl
  rw [if_neg h3]
  by_cases h4 : k = 4
  · subst h4
    rw [if_pos rfl, if_pos rfl]
    rfl
  rw [if_neg h4, if_neg h4]
  by_cases h5 : k = 5
  · subst h5
    rw [if_pos rfl, if_pos rfl]
    show _ = match (if kids.length = 1 then kids else []).map (derivM c) with | [d] => catM [d, .mk 5 s kids] | _ => noneM
    match kids with
    | [] => rfl
    | [x] => rfl
    | x :: y :: l => rfl
  rw [if_neg h5, if_neg h5, if_neg h3]
/-- What the calls want of sizes and depths. -/
structure FitD (c : Nat) (t : RT) : Prop where
  cat : t.kind = 3 → (∀ j, j < (need t).length → (((need t).map (derivM c)).getD j noneM).sz + ((t.kids.drop (j + 1)).map RT.sz).sum ≤ 9000000000) ∧ (∀ u ∈ catTo t.kids ((need t).map (derivM c)) (need t).length, u.dep < 10000) ∧
    ((catTo t.kids ((need t).map (derivM c)) (need t).length).map RT.sz).sum ≤ 9000000000 ∧ t.kids.length ≤ 9000000000
  either : t.kind = 4 → (∀ u ∈ (need t).map (derivM c), u.dep < 10000) ∧ (((need t).map (derivM c)).map RT.sz).sum ≤ 9000000000
  star : t.kind = 5 → ∀ d ∈ (need t).map (derivM c), d.sz + t.sz ≤ 9000000000
/-- The call returns what is found out. -/
def GivesFact (P : Nat → Prop) (c : Nat) (t : RT) (w : World) (e : Ending) (w' : World) : Prop := ∃ y : FV, e = .returned y.val ∧ RAt w' P y.re (derivM c t) ∧ y.nul = nullM t ∧ Below w.heap.size w w'
noncomputable def factOf (c : Nat) (k : RT) : RT × Bool := (derivM c k, nullM k)
theorem FactsR.bools {W : World} {P : Nat → Prop} {p : Option Addr} {n cap : Nat} {us : List FV} {c : Nat} {L : List RT} (h : FactsR W P p n cap us (L.map (factOf c))) : us.map FV.nul = L.map nullM := by
  apply List.ext_getElem?
  intro i
  have hl := h.len
  rw [List.length_map] at hl
  by_cases hi : i < L.length
  · have h1 : us[i]? = some us[i] := List.getElem?_eq_getElem (by omega)
    have h2 : L[i]? = some L[i] := List.getElem?_eq_getElem hi
    have := (h.each i _ _ h1 (by rw [List.getElem?_map, h2]; rfl)).2
    rw [List.getElem?_map, List.getElem?_map, h1, h2]
    simp [this, factOf]
  · rw [List.getElem?_eq_none (by simp; omega), List.getElem?_eq_none (by simp; omega)]
theorem any_nul {us : List FV} {L : List RT} (h : us.map FV.nul = L.map nullM) : us.any FV.nul = L.any nullM ∧ (!us.any fun x => !x.nul) = L.all nullM := by
  have e1 : us.any FV.nul = (us.map FV.nul).any id := by rw [List.any_map]; rfl
  have e2 : (us.any fun x => !x.nul) = (us.map FV.nul).any (fun b => !b) := by rw [List.any_map]; rfl
  rw [e1, e2, h]
  refine ⟨by rw [List.any_map]; rfl, ?_⟩
  rw [List.any_map, List.all_eq_not_any_not]
  rfl

end Go.Proofs.YtjeplmnjgdpgbaaGreatDoor
