/- Expressions with their texts, sorted and compacted: the trees are those that are put one by one. No condition. -/
import Derived.Test.YtclnadjgbpihcaaGreatDoorReMath
import Derived.Test.YtclnadjgbpihcaaGreatDoorKeyed
namespace Go.Proofs.YtclnadjgbpihcaaGreatDoor
open Go.Sort Go.Lib
set_option linter.unusedVariables false
set_option linter.unusedSimpArgs false

def KE.key (x : KE) : Tx := x.text.data.toList
section
variable {α β : Type} {key : α → Tx} {key' : β → Tx} {g : α → β}
theorem putL_sub (r : α) : ∀ (p : Bool) (l : List α) (x : α), x ∈ putL key r p l → x = r ∨ x ∈ l
  | true, [], x, h => by simp [putL] at h
  | false, [], x, h => by simpa [putL] using h
  | p, a :: l, x, h => by
    rw [putL] at h
    split at h
    · rcases List.mem_cons.1 h with h | h
      · exact .inr (by simp [h])
      · exact (putL_sub r true l x h).imp id fun h => List.mem_cons_of_mem _ h
    · split at h
      · rcases List.mem_cons.1 h with h | h
        · exact .inl h
        · rcases List.mem_cons.1 h with h | h
          · exact .inr (by simp [h])
          · exact (putL_sub r true l x h).imp id fun h => List.mem_cons_of_mem _ h
      · rcases List.mem_cons.1 h with h | h
        · exact .inr (by simp [h])
        · exact (putL_sub r p l x h).imp id fun h => List.mem_cons_of_mem _ h
theorem putL_map (r : α) (hr : key' (g r) = key r) : ∀ (p : Bool) (l : List α), (∀ x ∈ l, key' (g x) = key x) → (putL key r p l).map g = putL key' (g r) p (l.map g)
  | true, [], _ => rfl
  | false, [], _ => rfl
  | p, a :: l, h => by
    have ha := h a (by simp)
    have ih := fun p => putL_map r hr p l fun x hx => h x (by simp [hx])
    rw [putL, List.map_cons, putL, ha, hr]
    split
    · rw [List.map_cons, ih]
    · split
      · rw [List.map_cons, List.map_cons, ih]
      · rw [List.map_cons, ih]
theorem puts_map : ∀ (L o : List α), (∀ x ∈ L, key' (g x) = key x) → (∀ x ∈ o, key' (g x) = key x) → (L.foldl (fun o r => putL key r false o) o).map g = (L.map g).foldl (fun o r => putL key' r false o) (o.map g)
  | [], o, _, _ => rfl
  | r :: L, o, h, ho => by
    have hr := h r (by simp)
    rw [List.foldl_cons, List.map_cons, List.foldl_cons, ← putL_map r hr false o ho]
    refine puts_map L _ (fun x hx => h x (by simp [hx])) fun x hx => ?_
    rcases putL_sub r false o x hx with rfl | hx
    · exact hr
    · exact ho x hx
end
/-- Expressions with their texts and places. -/
def keL (vs : List ReV) (l : List RT) : List KE := (List.range l.length).map fun i => ⟨⟨(txt (l.getD i noneM)).toArray⟩, vs.getD i default, i⟩
theorem keL_len (vs : List ReV) (l : List RT) : (keL vs l).length = l.length := by simp [keL]
theorem keL_at {vs : List ReV} {l : List RT} {i : Nat} {x : KE} (h : (keL vs l)[i]? = some x) : i < l.length ∧ x = ⟨⟨(txt (l.getD i noneM)).toArray⟩, vs.getD i default, i⟩ := by
  have hi := (List.getElem?_eq_some_iff.1 h).1
  rw [keL_len] at hi
  refine ⟨hi, ?_⟩
  unfold keL at h
  rw [List.getElem?_map, List.getElem?_range hi] at h
  simpa using h.symm
theorem keL_get {vs : List ReV} {l : List RT} {i : Nat} (h : i < l.length) : (keL vs l)[i]? = some ⟨⟨(txt (l.getD i noneM)).toArray⟩, vs.getD i default, i⟩ := by
  unfold keL
  rw [List.getElem?_map, List.getElem?_range h]
  rfl
theorem keL_mem {vs : List ReV} {l : List RT} {x : KE} (h : x ∈ keL vs l) : x.ix < l.length ∧ x = ⟨⟨(txt (l.getD x.ix noneM)).toArray⟩, vs.getD x.ix default, x.ix⟩ := by
  obtain ⟨i, hi⟩ := List.getElem?_of_mem h
  obtain ⟨h1, h2⟩ := keL_at hi
  rw [h2]
  exact ⟨h1, rfl⟩
theorem keL_ix (vs : List ReV) (l : List RT) : (keL vs l).Pairwise fun x y => x.ix < y.ix := by
  unfold keL
  rw [List.pairwise_map]
  exact List.pairwise_lt_range
theorem keL_tree (vs : List ReV) (l : List RT) : (keL vs l).map (fun x => l.getD x.ix noneM) = l := by
  refine List.ext_getElem? fun i => ?_
  rw [List.getElem?_map]
  by_cases h : i < l.length
  · rw [keL_get h]
    show some (l.getD i noneM) = _
    rw [List.getD_eq_getElem?_getD, List.getElem?_eq_getElem h]
    rfl
  · rw [List.getElem?_eq_none (by rw [keL_len]; omega), List.getElem?_eq_none (by omega)]
    rfl
theorem srtL_of {n : Nat} {d : Array KE} (hn : d.size = n) (h : Srt KE.cmp KE.ix 0 n d) : SrtL KE.key KE.ix d.toList := by
  unfold SrtL
  rw [List.pairwise_iff_getElem]
  intro i j hi hj hij
  simp only [Array.length_toList] at hi hj
  have q := h i j (by omega) hij (by omega)
  rw [getElem!_pos d i (by omega), getElem!_pos d j (by omega)] at q
  rw [Array.getElem_toList, Array.getElem_toList]
  rcases q with q | ⟨q1, q2⟩
  · exact .inl q
  · by_cases c : KE.cmp d[i] d[j] < 0
    · exact .inl c
    · exact .inr ⟨cb_eq _ _ c q1, q2⟩
theorem perm_of {n : Nat} {d d' : Array KE} (hn : d.size = n) (h : PermIn 0 n d d') : d'.toList.Perm d.toList := by
  obtain ⟨h1, _, h3⟩ := h
  have e1 : d'.extract 0 n = d' := by rw [← hn, ← h1]; exact Array.extract_size
  have e2 : d.extract 0 n = d := by rw [← hn]; exact Array.extract_size
  rw [e1, e2] at h3
  exact h3
theorem cptF_sub {α : Type} {key : α → Tx} : ∀ (l : List α) (k : Tx) (x : α), x ∈ cptF key k l → x ∈ l
  | [], _, x, h => by simp [cptF] at h
  | a :: l, k, x, h => by
    rw [cptF] at h
    split at h
    · exact List.mem_cons_of_mem _ (cptF_sub l k x h)
    · rcases List.mem_cons.1 h with h | h
      · simp [h]
      · exact List.mem_cons_of_mem _ (cptF_sub l _ x h)
theorem cpt_sub {α : Type} {key : α → Tx} {l : List α} {x : α} (h : x ∈ cpt key l) : x ∈ l := by
  cases l with
  | nil => simp [cpt] at h
  | cons a l =>
    rw [cpt] at h
    rcases List.mem_cons.1 h with h | h
    · simp [h]
    · exact List.mem_cons_of_mem _ (cptF_sub l _ x h)
/-- The trees of what is sorted and compacted. -/
theorem sorted_trees {vs : List ReV} {l : List RT} {D : List KE} (hp : D.Perm (keL vs l)) (hs : SrtL KE.key KE.ix D) :
    (cpt KE.key D).map (fun x => l.getD x.ix noneM) = putsM l ∧ ∀ x ∈ cpt KE.key D, x.ix < l.length ∧ x.re = vs.getD x.ix default := by
  have e := sorted_put tlt_trans (keL_ix vs l) hp hs
  have hk : ∀ x ∈ keL vs l, txt (l.getD x.ix noneM) = KE.key x := by
    intro x hx
    obtain ⟨_, e⟩ := keL_mem hx
    rw [e]
    rfl
  refine ⟨?_, fun x hx => ?_⟩
  · rw [e, puts_map (key' := txt) (g := fun x : KE => l.getD x.ix noneM) (keL vs l) [] hk (fun x hx => by simp at hx), keL_tree]
    rfl
  · have hx := keL_mem (hp.mem_iff.1 (cpt_sub hx))
    exact ⟨hx.1, by rw [hx.2]⟩
/-- Those of the first world stand behind the kept ones. -/
theorem sorted_each {W : World} {P : Prop} {R : ReV → RT → Prop} {vs : List ReV} {l : List RT} {D : List KE} (hv : vs.length = l.length) (h : ∀ (i : Nat) (y : ReV) (t : RT), vs[i]? = some y → l[i]? = some t → R y t) (hp : D.Perm (keL vs l)) (hs : SrtL KE.key KE.ix D) :
    ((cpt KE.key D).map KE.re).length = (putsM l).length ∧ ∀ (i : Nat) (y : ReV) (t : RT), ((cpt KE.key D).map KE.re)[i]? = some y → (putsM l)[i]? = some t → R y t := by
  obtain ⟨h1, h2⟩ := sorted_trees hp hs
  refine ⟨by rw [← h1]; simp, fun i y t hy ht => ?_⟩
  rw [← h1] at ht
  rw [List.getElem?_map] at hy ht
  cases e : (cpt KE.key D)[i]? with
  | none => rw [e] at hy; cases hy
  | some x =>
    rw [e] at hy ht
    simp only [Option.map_some, Option.some.injEq] at hy ht
    obtain ⟨g1, g2⟩ := h2 x (List.mem_of_getElem? e)
    have hi : x.ix < vs.length := by omega
    refine h x.ix y t ?_ ?_
    · rw [← hy, g2, List.getD_eq_getElem?_getD, List.getElem?_eq_getElem hi]
      rfl
    · rw [← ht, List.getD_eq_getElem?_getD, List.getElem?_eq_getElem g1]
      rfl

end Go.Proofs.YtclnadjgbpihcaaGreatDoor

