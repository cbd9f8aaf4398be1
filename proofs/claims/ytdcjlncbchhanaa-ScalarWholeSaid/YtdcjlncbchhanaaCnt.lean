/- Plain facts: how often a list of bytes is in the sequences of a range; their shape. No condition. -/
import Derived.Test.YtdcjlncbchhanaaAwake2
namespace Go.Proofs.Ytdcjlncbchhanaa
set_option linter.unusedVariables false

theorem enc_inj {a b : Int} (ha : 0 ≤ a) (hb : 0 ≤ b) (h : enc a = enc b) : a = b := by
  unfold enc at h
  repeat' split at h
  all_goals simp at h
  all_goals omega

theorem enc_bounds {c : Int} (h0 : 0 ≤ c) (h1 : c ≤ 1114111) : ∀ x ∈ enc c, 0 ≤ x ∧ x ≤ 255 := by
  unfold enc
  repeat' split
  all_goals
    intro x hx
    simp at hx
    omega

theorem Parts.cnt_yes {lo hi : Int} {L : List (Int × Int)} (h : Parts lo hi L) (h0 : 0 ≤ lo) (h1 : hi ≤ 1114111) (c : Int) (hc : Sc c) : cntB (enc c) (L.map seqOf) = if lo ≤ c ∧ c ≤ hi then 1 else 0 := by
  rw [← h.count c hc h0]
  unfold cntB
  rw [List.countP_map]
  refine List.countP_congr fun p hp => ?_
  have hg := h.good h0 h1 p hp
  have hm := hg.match (enc c)
  simp only [Function.comp, within, decide_eq_true_eq]
  rw [show p = (p.1, p.2) from rfl, hm]
  clear hm
  obtain ⟨g0, g1, g2, _⟩ := hg
  unfold Sc at hc
  constructor
  · rintro ⟨d, k1, k2, k3⟩
    have q1 : 0 ≤ c := by omega
    have q2 : 0 ≤ d := by omega
    have e : c = d := enc_inj q1 q2 k3
    subst e
    exact ⟨k1, k2⟩
  · rintro ⟨k1, k2⟩
    exact ⟨c, k1, k2, rfl⟩

theorem Parts.cnt_no {lo hi : Int} {L : List (Int × Int)} (h : Parts lo hi L) (h0 : 0 ≤ lo) (h1 : hi ≤ 1114111) (xs : List Int) (hx : ∀ c, Sc c → xs ≠ enc c) : cntB xs (L.map seqOf) = 0 := by
  unfold cntB
  rw [List.countP_map, List.countP_eq_zero]
  intro p hp hm
  have hg := h.good h0 h1 p hp
  obtain ⟨d, k1, k2, k3⟩ := (hg.match xs).1 (by simpa using hm)
  obtain ⟨g0, g1, g2, g3, _⟩ := hg
  refine hx d ?_ k3
  unfold Sc
  omega

theorem seqOf_len {a b : Int} (h : Good a b) : (seqOf (a, b)).length ≠ 0 ∧ (seqOf (a, b)).length ≤ 4 := by
  unfold seqOf enc
  (repeat' split) <;> simp

theorem Parts.shape {lo hi : Int} {L : List (Int × Int)} (h : Parts lo hi L) (h0 : 0 ≤ lo) (h1 : hi ≤ 1114111) : ∀ s ∈ L.map seqOf, s.length ≠ 0 ∧ s.length ≤ 4 := by
  intro s hs
  obtain ⟨p, hp, rfl⟩ := List.mem_map.1 hs
  exact seqOf_len (h.good h0 h1 p hp)

theorem Parts.bytes {lo hi : Int} {L : List (Int × Int)} (h : Parts lo hi L) (h0 : 0 ≤ lo) (h1 : hi ≤ 1114111) : ∀ s ∈ L.map seqOf, ∀ (i : Nat) (h : i < s.length), 0 ≤ (s[i]).1 ∧ (s[i]).1 ≤ (s[i]).2 ∧ (s[i]).2 ≤ 255 := by
  intro s hs
  obtain ⟨p, hp, rfl⟩ := List.mem_map.1 hs
  intro i hi
  have hg := h.good h0 h1 p hp
  have hm := (hg.match (enc p.1)).2 ⟨p.1, Int.le_refl _, hg.2.1, rfl⟩
  have hl := inB_len hm
  have hat := inB_at hm i (by rw [hl]; exact hi) hi
  have e1 : ((seqOf p)[i]).1 = (enc p.1)[i]'(by rw [hl]; exact hi) := by simp [seqOf]
  have hi2 : i < (enc p.2).length := by
    have := hi
    simp only [seqOf, List.length_zip] at this
    omega
  have e2 : ((seqOf p)[i]).2 = (enc p.2)[i] := by simp [seqOf]
  have b1 := enc_bounds (c := p.1) hg.1 (by have := hg.2.1; have := hg.2.2.1; omega) _ (List.getElem_mem (by rw [hl]; exact hi))
  have b2 := enc_bounds (c := p.2) (by have := hg.1; have := hg.2.1; omega) hg.2.2.1 _ (List.getElem_mem hi2)
  rw [← e1] at b1
  rw [← e2] at b2
  have hat2 : ((seqOf p)[i]).1 ≤ (enc p.1)[i]'(by rw [hl]; exact hi) ∧ (enc p.1)[i]'(by rw [hl]; exact hi) ≤ ((seqOf p)[i]).2 := hat
  omega

theorem Parts.num {lo hi : Int} {L : List (Int × Int)} (h : Parts lo hi L) (h0 : 0 ≤ lo) (h1 : hi ≤ 1114111) : (L.map seqOf).length ≤ 21 := by
  rw [List.length_map]
  exact h.few h0 h1

open Classical in
/-- How often these bytes are in the sequences of any range. -/
theorem seqs_cnt (lo hi : Int) {L : List (Int × Int)} (h : Parts (max lo 0) (min hi 1114111) L) (xs : List Int) : cntB xs (L.map seqOf) = if ∃ c, Sc c ∧ lo ≤ c ∧ c ≤ hi ∧ xs = enc c then 1 else 0 := by
  by_cases hx : ∃ c, Sc c ∧ xs = enc c
  · obtain ⟨c, hc, rfl⟩ := hx
    rw [h.cnt_yes (by omega) (by omega) c hc]
    have hc' := hc
    unfold Sc at hc'
    by_cases hin : lo ≤ c ∧ c ≤ hi
    · rw [if_pos (by omega), if_pos ⟨c, hc, hin.1, hin.2, rfl⟩]
    · rw [if_neg (by omega), if_neg]
      rintro ⟨d, hd, k1, k2, k3⟩
      unfold Sc at hd
      have := enc_inj (by omega) (by omega) k3
      omega
  · rw [h.cnt_no (by omega) (by omega) xs (fun c hc e => hx ⟨c, hc, e⟩), if_neg]
    rintro ⟨d, hd, _, _, k3⟩
    exact hx ⟨d, hd, k3⟩

theorem encS_sc {c : Int} (h : isSc c = true) : encS c = enc c := by unfold encS; rw [if_pos h]
theorem encS_no {c : Int} (h : isSc c = false) : encS c = [] := by unfold encS; rw [h]; rfl
theorem enc_ne (c : Int) : (enc c).length ≠ 0 := by
  unfold enc
  (repeat' split) <;> simp
theorem enc_le (c : Int) : (enc c).length ≤ 4 := by
  unfold enc
  (repeat' split) <;> simp

theorem seqs_sc {lo hi c : Int} {L : List (Int × Int)} (h : Parts (max lo 0) (min hi 1114111) L) (hc : isSc c = true) : cntB (encS c) (L.map seqOf) = if lo ≤ c ∧ c ≤ hi then 1 else 0 := by
  have hs := (isSc_iff c).1 hc
  rw [encS_sc hc, h.cnt_yes (by omega) (by omega) c hs]
  unfold Sc at hs
  by_cases hin : lo ≤ c ∧ c ≤ hi
  · rw [if_pos (by omega), if_pos hin]
  · rw [if_neg (by omega), if_neg hin]

theorem shape_in {lo hi : Int} {L : List (Int × Int)} (h : Parts (max lo 0) (min hi 1114111) L) : ∀ s ∈ L.map seqOf, s.length ≠ 0 ∧ s.length ≤ 4 := h.shape (by omega) (by omega)

/-- The document's Count of the sequences of a range. -/
theorem counted (v : Value) (xs : List Int) (u : Value) (lo hi : Int) (L : List (Int × Int)) (base : Nat) (w : World) (hx : IntsAt w v xs) (hL : Parts (max lo 0) (min hi 1114111) L) (hS : SeqsAt w base u (L.map seqOf)) :
    Calls Try.prog 16 #[v, u] w (GivesNum (cntB xs (L.map seqOf)) w) :=
  count_any v xs u _ base w hx hS (shape_in hL) (by have := hL.num (by omega) (by omega); omega)

/-- The sequences of a range are shaped. -/
theorem shaped_seqs (u : Value) (lo hi : Int) (L : List (Int × Int)) (base : Nat) (w : World) (hL : Parts (max lo 0) (min hi 1114111) L) (hS : SeqsAt w base u (L.map seqOf)) :
    Calls Try.prog 14 #[u] w (GivesBool true w) :=
  shaped_any u _ base w hS (shape_in hL) (hL.bytes (by omega) (by omega)) (by have := hL.num (by omega) (by omega); omega)

/-- A range in two parts. -/
theorem cnt_parts {lo mid hi : Int} (h1 : lo ≤ mid) (h2 : mid < hi) {L M N : List (Int × Int)} (hL : Parts (max lo 0) (min hi 1114111) L) (hM : Parts (max lo 0) (min mid 1114111) M) (hN : Parts (max (mid + 1) 0) (min hi 1114111) N) (xs : List Int) :
    cntB xs (L.map seqOf) = cntB xs (M.map seqOf) + cntB xs (N.map seqOf) := by
  rw [seqs_cnt lo hi hL, seqs_cnt lo mid hM, seqs_cnt (mid + 1) hi hN]
  by_cases hx : ∃ c, Sc c ∧ lo ≤ c ∧ c ≤ hi ∧ xs = enc c
  · rw [if_pos hx]
    obtain ⟨c, hc, k1, k2, rfl⟩ := hx
    by_cases hm : c ≤ mid
    · rw [if_pos ⟨c, hc, k1, hm, rfl⟩, if_neg]
      rintro ⟨d, hd, j1, j2, j3⟩
      unfold Sc at hc hd
      have := enc_inj (a := c) (b := d) (by omega) (by omega) j3
      omega
    · rw [if_neg, if_pos ⟨c, hc, by omega, k2, rfl⟩]
      rintro ⟨d, hd, j1, j2, j3⟩
      unfold Sc at hc hd
      have := enc_inj (a := c) (b := d) (by omega) (by omega) j3
      omega
  · rw [if_neg hx, if_neg, if_neg]
    · rintro ⟨d, hd, j1, j2, j3⟩
      exact hx ⟨d, hd, by omega, j2, j3⟩
    · rintro ⟨d, hd, j1, j2, j3⟩
      exact hx ⟨d, hd, j1, by omega, j3⟩

theorem cnt_two (xs : List Int) {lo hi : Int} {L : List (Int × Int)} (h : Parts (max lo 0) (min hi 1114111) L) : cntB xs (L.map seqOf) ≤ 1 := by
  rw [seqs_cnt lo hi h]
  split <;> omega

theorem parts_none {lo hi : Int} {L : List (Int × Int)} (h : Parts lo hi L) (hl : hi < lo) : L = [] := by
  cases h with
  | none _ => rfl
  | gap h _ _ _ _ => omega
  | cut h _ _ _ _ => omega
  | one h _ _ => omega

theorem parts_self_no {c : Int} {L : List (Int × Int)} (h : Parts (max c 0) (min c 1114111) L) (hc : isSc c = false) : L = [] := by
  have hn : ¬ Sc c := fun h => by rw [(isSc_iff c).2 h] at hc; cases hc
  unfold Sc at hn
  by_cases hl : min c 1114111 < max c 0
  · exact parts_none h hl
  · have e1 : max c 0 = c := by omega
    have e2 : min c 1114111 = c := by omega
    rw [e1, e2] at h
    cases h with
    | none h => rfl
    | gap h h1 h2 p1 p2 => rw [parts_none p1 (by omega), parts_none p2 (by omega)]; rfl
    | cut h h1 _ _ _ => omega
    | one h h1 _ => omega

theorem parts_self {c : Int} {L : List (Int × Int)} (h : Parts (max c 0) (min c 1114111) L) (hc : isSc c = true) : L = [(c, c)] := by
  have hn := (isSc_iff c).1 hc
  unfold Sc at hn
  have e1 : max c 0 = c := by omega
  have e2 : min c 1114111 = c := by omega
  rw [e1, e2] at h
  have l1 := lop_lo (lo := c) (hi := c) (by omega) (Int.le_refl _)
  have l2 := lop_hi (lo := c) (hi := c) (Int.le_refl _)
  cases h with
  | none h => omega
  | gap h h1 h2 p1 p2 => omega
  | cut h h1 h2 _ _ => omega
  | one h h1 _ => rfl

theorem seqOf_self_len (c : Int) : (seqOf (c, c)).length = (enc c).length := by simp [seqOf]
theorem inB_zip : ∀ xs : List Int, inB xs (xs.zip xs) = true
  | [] => rfl
  | x :: xs => by simp [inB, inB_zip xs]
theorem inB_self (c : Int) : inB (enc c) (seqOf (c, c)) = true := inB_zip (enc c)

theorem seqs_all {c : Int} {L : List (Int × Int)} (h : Parts (max 0 0) (min 1114111 1114111) L) (hc : isSc c = true) : cntB (encS c) (L.map seqOf) = 1 := by
  rw [seqs_sc (lo := 0) (hi := 1114111) h hc, if_pos]
  have hs := (isSc_iff c).1 hc
  unfold Sc at hs
  omega

end Go.Proofs.Ytdcjlncbchhanaa
