/- What the laws of the grammar rest on, part 38: made by tools/merge5.py out of GWholeP. No condition but those that each says. -/
import Derived.Test.YtpopgjgngbiofaaGreatDoorM37
set_option linter.unusedVariables false
set_option linter.unusedSimpArgs false
set_option maxRecDepth 100000
set_option maxHeartbeats 8000000
namespace Go.Proofs.YtpopgjgngbiofaaGreatDoor
open Go.RowKit
theorem JoinsTo.err {l : List Rule} {g : List GR} {e : Int} (h : JoinsTo l g e) : (e = 1 /\ g = []) \/ (e = 41 /\ g = []) \/ (e = 40 /\ g = []) \/ e = 0 := by
 rcases h with ⟨_, hg, he⟩ | ⟨_, ⟨_, hg, he⟩ | ⟨_, _, _, _, _, ⟨_, hg, he⟩ | ⟨_, he⟩⟩⟩
 ·exact .inl ⟨he, hg⟩
 ·exact .inr (.inl ⟨he, hg⟩)
 ·exact .inr (.inr (.inl ⟨he, hg⟩))
 ·exact .inr (.inr (.inr he))
theorem once_find {g : List GR} (ho : Once g) {i : Nat} {r : GR} (hr : g[i]? = some r) : findM g r.name = some i := by
 refine findM_some.2 ⟨⟨r, hr, rfl⟩, fun j u hj hu e => ?_⟩
 have hl := (List.getElem?_eq_some_iff.1 hr).1
 have h1 : (g.map GR.name)[j]? = some u.name := by rw [List.getElem?_map, hu]; rfl
 have h2 : (g.map GR.name)[i]? = some r.name := by rw [List.getElem?_map, hr]; rfl
 have hjl := (List.getElem?_eq_some_iff.1 h1).1
 have hil := (List.getElem?_eq_some_iff.1 h2).1
 have h3 := (List.getElem?_eq_some_iff.1 h1).2
 have h4 := (List.getElem?_eq_some_iff.1 h2).2
 exact List.pairwise_iff_getElem.1 ho j i hjl hil hj (by rw [h3, h4, e])
def lineV (y : RV) : LV := ⟨y.name, false, y.expr⟩
theorem again_lines {W : World} {base : Nat} {v : Value} {u : Value} {ys : List RV} {g : List GR} (h : RulesX W u ys g) (hr : W.ownsRow base 44 8 v g.length ((ys.map lineV).flatMap LV.cells)) : LinesE W v (ys.map lineV) (againL g) := by
 have hl : (againL g).length = g.length := by simp [againL]
 refine ⟨by rw [hl]; exact row_any_of_own hr, by rw [hl, List.length_map]; exact h.2.1, fun i y r hy hr' => ?_⟩
 rw [List.getElem?_map] at hy
 unfold againL at hr'
 rw [List.getElem?_map] at hr'
 cases h1 : ys[i]? with
 | none => rw [h1] at hy; cases hy
 | some y0 =>
  cases h2 : g[i]? with
  | none => rw [h2] at hr'; cases hr'
  | some r0 =>
   rw [h1] at hy
   rw [h2] at hr'
   have e1 := Option.some.inj hy
   have e2 := Option.some.inj hr'
   subst e1 e2
   obtain ⟨g1, g2, g3⟩ := h.2.2 i y0 r0 h1 h2
   exact ⟨g1, g2.1, g2.2, rfl, g3.any⟩
theorem againL_twl (g : List GR) : twl (againL g) = tws g + g.length := by
 induction g with
 | nil => rfl
 | cons r g ih =>
  simp only [againL, twl, tws, List.map_cons, List.sum_cons, List.length_cons] at ih ⊢
  omega
theorem infoLine : (Tryz.prog.info? 44).map (fun i => (i.zero, i.size, i.bytes)) = some (some (.agg #[.string ⟨#[]⟩, .bool false, .int .i64 0, .string ⟨#[]⟩, .slice none 0 0, .int .i64 0, .int .i64 0, .slice none 0 0]), 8, 112) := by kernel_rfl
theorem JoinsTo.little {l : List Rule} {g : List GR} (h : JoinsTo l g 0) (ht : twl l <= 400) : twl (againL g) <= 9000 := by
 rw [againL_twl]
 rcases h with ⟨_, _, e⟩ | ⟨_, ⟨_, _, e⟩ | ⟨g0, n, R, h1, h2, ⟨_, _, e⟩ | ⟨h3, _⟩⟩⟩
 ·cases e
 ·cases e
 ·cases e
 ·have hj := takes_tws h1
  have h5 := twl_len l
  have hb := h2.bounds g h3
  have hm := missing_le g0
  simp only [tws, List.map_nil, List.sum_nil, List.length_nil] at hj hb ⊢
  omega
theorem whole_any {w : World} {v : Value} {zs : List Int} (hT : Tabs w) (h : BytesAt w v zs) : Calls Tryz.prog 7 #[v] w (GivesBool true w) := by
 have HT := hh9 hT
 have HH := hh9 h
 have HA := hh9 (awake_any hT)
 obtain ⟨a0, cap0, hv0, _⟩ := h
 obtain ⟨n0, hn0⟩ : ∃ n, n = zs.length := ⟨_, rfl⟩
 rw [<- hn0] at hv0
 subst hv0
 clear hT hn0
 go_enter Tryz.func7, Tryz.ntmps7
 go_wp2_with fail
 refine HA.out.mono ?_
 rintro e w1 ⟨rfl, hb1⟩
 have HB1 := hh9 hb1
 have HL := hh9 (lawlines_any (HH.out.below hb1))
 clear hb1
 go_wp2_with fail
 refine HL.out.mono ?_
 rintro e w2 ⟨v2, ys2, p, rfl, hp, hl2, hb2⟩
 have HB2 := hh9 (below_then HB1.out hb2)
 have htw := linesN_tw p
 have HJ := hh9 (join_any hl2 (HT.out.below HB2.out) (by omega))
 obtain ⟨a2, n2, c2, hv2⟩ : ∃ a n c, v2 = .slice a n c := by
  obtain ⟨a, c, h, _⟩ := hl2.1.slice
  exact ⟨a, _, c, h⟩
 subst hv2
 clear hb2 hl2
 go_wp2_with fail
 refine HJ.out.mono ?_
 rintro e w3 ⟨v3, ys3, g, er, rfl, hJ3, hR3, hb3⟩
 have HB3 := hh9 (below_then HB2.out hb3)
 clear hb3
 obtain ⟨a3, n3, c3, hv3, hn3⟩ : ∃ a n c, v3 = .slice a n c /\ n = g.length := by
  obtain ⟨a, c, h, _⟩ := hR3.1.slice
  exact ⟨a, _, c, h, rfl⟩
 subst hv3
 rcases hJ3.err with ⟨rfl, rfl⟩ | ⟨rfl, rfl⟩ | ⟨rfl, rfl⟩ | rfl
 ·obtain rfl : n3 = 0 := hn3
  clear hJ3 hR3
  go_wp2_with fail
  go_ret
  exact ⟨rfl, HB3.out⟩
 ·obtain rfl : n3 = 0 := hn3
  clear hJ3 hR3
  go_wp2_with fail
  go_ret
  exact ⟨rfl, HB3.out⟩
 ·obtain rfl : n3 = 0 := hn3
  clear hJ3 hR3
  go_wp2_with fail
  go_ret
  exact ⟨rfl, HB3.out⟩
 ·have HR3 := hh9 hR3
  have hsm := hJ3.small (by omega)
  obtain ⟨hon, hhas, _⟩ := hJ3.whole
  have hag := hJ3.again (linesN_fit p)
  have HAG := hh9 hag
  have HON := hh9 hon
  have HHAS := hh9 hhas
  have HSM := hh9 hsm
  have HTW := hh9 (hJ3.little (by omega))
  have HN3 := hh9 hn3
  have hn9 : n3 <= 9016 := by omega
  obtain ⟨i0, hi0, hz0, hz1, hz2⟩ := info_parts infoLine
  clear hJ3 hR3 hsm hon hhas hag hn3
  go_wp2_with fail
  go_loopw [6, 7] (fun s v wr => ∃ (i : Nat) (u : Value), s = u /\ v = .int .i64 i /\ i <= n3 /\ Hid (wr.ownsRow w3.heap.size 44 8 u i (((ys3.take i).map lineV).flatMap LV.cells)) /\ Hid (Below w3.heap.size w3 wr)) (fun _ v _ => n3 - (intOf v).toNat)
  case atStart => exact ⟨0, _, rfl, rfl, by omega, World.ownsRow_nil _ _ _ _, Below.refl _ _⟩
  case round =>
   obtain ⟨i, u, rfl, rfl, hi, HROW, HBEL⟩ := hrel
   obtain ⟨ua, uc, hu⟩ := own_slice5 HROW.out
   subst hu
   by_cases hlt : i < n3
   ·obtain ⟨b, off, ha, hb0, hcs⟩ : ∃ b off, a3 = some ⟨b, off, none⟩ /\ b < w3.heap.size /\ ∀ (j : Nat) (u : Value), (ys3.flatMap RV.cells)[j]? = some u -> w3.cell? ⟨b, off + j, none⟩ = some u := by
     rcases HR3.out.1 with ⟨h0, _⟩ | ⟨b, off, cap, h1, _, _, h3, h4⟩
     ·have := HN3.out
      omega
     ·injection h1 with h1
      exact ⟨b, off, h1, h3, h4⟩
    subst ha
    obtain ⟨Y, hY⟩ : ∃ y, ys3[i]? = some y := ⟨_, List.getElem?_eq_getElem (by rw [HR3.out.2.1, <- HN3.out]; exact hlt)⟩
    obtain ⟨r, hr⟩ : ∃ y, g[i]? = some y := ⟨_, List.getElem?_eq_getElem (by rw [<- HN3.out]; exact hlt)⟩
    obtain ⟨e1, e2, e3⟩ := HR3.out.2.2 i Y r hY hr
    have hRr := HR3.out.below HBEL.out
    have HF := hh9 (find_any hRr.rules e2)
    rw [findI_some (once_find HON.out hr), <- e1] at HF
    have CX : Hid (∀ (W : World), Below w3.heap.size w3 W -> ∀ (j : Nat) (u : Value), j < 7 -> Y.cells[j]? = some u -> W.cell? ⟨b, off + (i * 7 + j), none⟩ = some u) := fun W hW j u hj hu =>
     (hW.cell (p := ⟨b, off + (i * 7 + j), none⟩) hb0).trans (hcs _ u ((flatR_at ys3 i j Y hY hj).trans hu))
    obtain ⟨⟨na, nn, nc, hns⟩, ka, kn, kc, hks⟩ := e3.slices
    obtain ⟨nm, ⟨k, tx, nv, lo, hi2, kv⟩⟩ := Y
    simp only [] at hns hks
    subst hns hks
    have f0 := CX.out _ HBEL.out 0 _ (by omega) rfl
    rw [<- Nat.add_assoc, Nat.add_zero] at f0
    simp only [] at f0 HF
    have q1 : decide ((i : Int) < (n3 : Int)) = true := decide_eq_true (by omega)
    have HR := hh9 hr
    have HY := hh9 hY
    have HE3 := hh9 e3
    clear hY hr hcs hRr e1 e2 e3
    go_wp2_with fail
    refine HF.out.mono ?_
    rintro e w4 ⟨rfl, hb4⟩
    have HB4 := hh9 (below_then HBEL.out hb4)
    have HR4 := hh9 (own_below HROW.out hb4)
    have f1 := CX.out _ HB4.out 1 _ (by omega) rfl
    have f2 := CX.out _ HB4.out 2 _ (by omega) rfl
    have f3 := CX.out _ HB4.out 3 _ (by omega) rfl
    have f4 := CX.out _ HB4.out 4 _ (by omega) rfl
    have f5 := CX.out _ HB4.out 5 _ (by omega) rfl
    have f6 := CX.out _ HB4.out 6 _ (by omega) rfl
    rw [<- Nat.add_assoc] at f1 f2 f3 f4 f5 f6
    simp only [] at f1 f2 f3 f4 f5 f6
    have hs := HSM.out.2.1 r (List.mem_of_getElem? HR.out)
    have HNM := hh9 (nms_any (HE3.out.kept (M := fun _ => False) (P' := fun _ => True) (KeepsC.below HB4.out) (fun b _ _ => ⟨id, trivial⟩)) hs.1 (by omega))
    unfold XV.val at HNM
    simp only [] at HNM
    clear hb4 hs
    go_wp2_with fail
    refine HNM.out.mono ?_
    rintro e w5 ⟨v5, rfl, hrow5, hb5⟩
    have HB5 := hh9 (below_then HB4.out hb5)
    have HR5 := hh9 (own_below HR4.out hb5)
    have HROW5 := hh9 hrow5
    obtain ⟨NM, hNM⟩ : ∃ NM, NM = namesM r.expr := ⟨_, rfl⟩
    have hall : Hid (∀ x ∈ NM, findM g x ≠ none /\ TextOk x) := fun x hx => by
     rw [hNM] at hx
     have h1 := HHAS.out i r HR.out x hx
     refine ⟨h1, ?_⟩
     cases hf : findM g x with
     | none => exact absurd hf h1
     | some q =>
      obtain ⟨⟨u, hu, hun⟩, _⟩ := findM_some.1 hf
      have hl := (List.getElem?_eq_some_iff.1 hu).1
      rw [<- hun]
      exact (HR3.out.2.2 q (ys3[q]'(by rw [HR3.out.2.1]; exact hl)) u (List.getElem?_eq_getElem _) hu).2.1
    rw [<- hNM] at HROW5
    obtain ⟨a5, c5, hv5⟩ := own_slice5 HROW5.out
    subst hv5
    obtain ⟨m5, hm5⟩ : ∃ m, m = NM.length := ⟨_, rfl⟩
    have hm6 : m5 <= 1000000 := by rw [hm5, hNM]; exact (HSM.out.2.1 r (List.mem_of_getElem? HR.out)).2
    rw [<- hm5] at HROW5
    have HM5 := hh9 hm5
    rw [<- hm5]
    obtain ⟨wm, hwm⟩ : ∃ x : World, x = wr := ⟨_, rfl⟩
    subst hwm
    clear hrow5 hb5 hNM f0 f1 f2 f3 f4 f5 f6 hm5
    go_wp2_with fail
    go_loopw [9] (fun v wr => ∃ q : Nat, v = .int .i64 q /\ q <= m5 /\ Hid (Below w5.heap.size w5 wr)) (fun v _ => m5 - (intOf v).toNat)
    case atStart => exact ⟨0, rfl, by omega, Below.refl _ _⟩
    case round =>
     obtain ⟨q, rfl, hq, HBQ⟩ := hrel
     by_cases hlq : q < m5
     ·obtain ⟨x, hx⟩ : ∃ x, NM[q]? = some x := ⟨_, List.getElem?_eq_getElem (by rw [<- HM5.out]; exact hlq)⟩
      obtain ⟨h1, h2⟩ := hall.out x (List.mem_of_getElem? hx)
      obtain ⟨g5, hg5⟩ : ∃ g5, a5 = some ⟨g5, 0, none⟩ := by
       rcases row_forms HROW5.out with ⟨_, h0⟩ | ⟨g1, cap1, h3⟩
       ·omega
       ·injection h3 with h3
        exact ⟨_, h3⟩
      subst hg5
      have hc : wr.cell? ⟨g5, q, none⟩ = some (.string (strOf x)) := (HBQ.out.cell (p := ⟨g5, q, none⟩) (row_base HROW5.out).2.2.2).trans (row_cell HROW5.out (by unfold scells; rw [List.getElem?_map, hx]; rfl))
      have HF2 := hh9 (find_any (HR3.out.below (below_then HB5.out HBQ.out)).rules h2)
      cases hf : findM g x with
      | none => exact absurd hf h1
      | some q2 =>
       rw [findI_some hf] at HF2
       obtain ⟨S, hS⟩ : ∃ S, S = strOf x := ⟨_, rfl⟩
       rw [<- hS] at hc HF2
       have q3 : decide ((q : Int) < (m5 : Int)) = true := decide_eq_true (by omega)
       have q4 : decide ((q2 : Int) < 0) = false := decide_eq_false (by omega)
       clear hS hf hx h1 h2
       go_wp2_with fail
       refine HF2.out.mono ?_
       rintro e w6 ⟨rfl, hb6⟩
       have HB6 := hh9 (below_then HBQ.out hb6)
       clear hb6
       go_wp2_with fail
       go_roundw
       case rel => exact ⟨q + 1, by go_num, by omega, HB6⟩
       case measure => (simp [intOf] <;> omega)
     ·obtain rfl : q = m5 := by omega
      have q3 : decide ((q : Int) < (q : Int)) = false := decide_eq_false (by omega)
      have HBW := hh9 (below_then HB5.out HBQ.out)
      have HRW := hh9 (own_below HR5.out HBQ.out)
      have f0 := CX.out _ HBW.out 0 _ (by omega) rfl
      have f1 := CX.out _ HBW.out 1 _ (by omega) rfl
      have f2 := CX.out _ HBW.out 2 _ (by omega) rfl
      have f3 := CX.out _ HBW.out 3 _ (by omega) rfl
      have f4 := CX.out _ HBW.out 4 _ (by omega) rfl
      have f5 := CX.out _ HBW.out 5 _ (by omega) rfl
      have f6 := CX.out _ HBW.out 6 _ (by omega) rfl
      rw [<- Nat.add_assoc] at f0 f1 f2 f3 f4 f5 f6
      rw [Nat.add_zero] at f0
      simp only [] at f0 f1 f2 f3 f4 f5 f6
      have hw3 := HBW.out.size
      have HROWA := hh9 (show (((wr.drew).alloc (.cells #[.string nm, .bool false, .int .i64 k, .string tx, .slice na nn nc, .int .i64 lo, .int .i64 hi2, .slice ka kn kc] 44))).ownsRow w3.heap.size 44 8 (.slice ua i uc) i (((ys3.take i).map lineV).flatMap LV.cells) from own_below (show wr.drew.ownsRow w3.heap.size 44 8 (.slice ua i uc) i (((ys3.take i).map lineV).flatMap LV.cells) from HRW.out) ((Below.refl _ _).alloc (Nat.le_refl _) _))
      go_wp2_with fail
      go_region_law (refine step_append_lies _ (by rfl) _ _ _ (by rfl) w3.heap.size 44 i0 _ 8 112 Tryz.underlying37 hi0 hz0 hz1 hz2 rfl (by omega) (.slice ua i uc) i (((ys3.take i).map lineV).flatMap LV.cells) (by rfl) HROWA.out ⟨wr.heap.size, 0, none⟩ 1 1 [.string nm, .bool false, .int .i64 k, .string tx, .slice na nn nc, .int .i64 lo, .int .i64 hi2, .slice ka kn kc] (by rfl) (by rfl) (cells7_new _ _ _ _ rfl) (by intro u hu; simp at hu; rcases hu with rfl | rfl | rfl | rfl | rfl | rfl | rfl | rfl <;> rfl) (by omega) (by unfold maxLen; omega) (by omega) (by simp; omega) (wr.heap.size + 1) (by simp) ?_; intro gb cap w7 hown hgrow hat hlt7; have HOWN := hh9 hown; have HGROW := hh9 hgrow; clear hown hgrow)
      all_goals
       have hnew : w7.ownsRow w3.heap.size 44 8 (.slice (some ⟨gb, 0, none⟩) (i + 1) cap) (i + 1) (((ys3.take (i + 1)).map lineV).flatMap LV.cells) := by
        rw [List.take_add_one, HY.out]
        simpa [lineV, LV.cells] using HOWN.out
       have hob := own_le HROWA.out
       have hbel7 : Below w3.heap.size w3 w7 := ((HBW.out.trans (below_drawn (Below.refl _ _) 1)).alloc (by show w3.heap.size <= wr.heap.size; omega) _).grown HGROW.out (by simp; omega) (fun b e => by have := hob b e; omega)
       have HNEW := hh9 hnew
       have HB7 := hh9 hbel7
       clear hnew hob hbel7 f0 f1 f2 f3 f4 f5 f6
       go_wp2_with fail
       go_roundw
       case rel => exact ⟨i + 1, _, rfl, by go_num, by omega, HNEW, HB7⟩
       case measure => (simp [intOf] <;> omega)
   ·obtain rfl : i = n3 := by omega
    have q1 : decide ((i : Int) < (i : Int)) = false := decide_eq_false (by omega)
    have hrowE := HROW.out
    rw [List.take_of_length_le (by rw [HR3.out.2.1, <- HN3.out]; exact Nat.le_refl _)] at hrowE
    rw [HN3.out] at hrowE
    have HJ2 := hh9 (join_any (again_lines (HR3.out.below HBEL.out) (by rw [HN3.out] at *; exact hrowE)) (HT.out.below (below_then HB3.out HBEL.out)) HTW.out)
    have HR4 := hh9 (HR3.out.below HBEL.out)
    rw [<- HN3.out] at HJ2
    clear hrowE
    go_wp2_with fail
    refine HJ2.out.mono ?_
    rintro e w8 ⟨v8, ys8, g8, er8, rfl, hJ8, hR8, hb8⟩
    obtain ⟨hg8, rfl⟩ := hJ8.one HAG.out
    rw [hg8] at hR8
    have HB8 := hh9 (below_then (below_then HB3.out HBEL.out) hb8)
    have HS := hh9 (sameR_any (HR4.out.below hb8).rules hR8.rules)
    obtain ⟨a8, n8, c8, hv8⟩ : ∃ a n c, v8 = .slice a n c := by
     obtain ⟨a, c, h, _⟩ := hR8.1.slice
     exact ⟨a, _, c, h⟩
    subst hv8
    clear hJ8 hR8 hb8 hg8
    go_wp2_with fail
    refine HS.out.mono ?_
    rintro e w9 ⟨rfl, hb9⟩
    have HB9 := hh9 (below_then HB8.out hb9)
    clear hb9
    go_wp2_with fail
    go_ret
    exact ⟨rfl, HB9.out⟩
end Go.Proofs.YtpopgjgngbiofaaGreatDoor
