/- The program's teller: whether an expression and all in it may be. -/
import Derived.Test.YtfoohffeccgkeaaDoorTOth
import Derived.Test.YtfoohffeccgkeaaDoorTSpan
namespace Go.Proofs.YtfoohffeccgkeaaDoor
open Go.RowKit
set_option linter.unusedVariables false
set_option linter.unusedSimpArgs false

/-- Whether an expression may be, with less than so many others within one another. -/
def rightG : Nat → Tree → Bool
  | 0, _ => false
  | n + 1, t => rightF n t
theorem rightF_eq (n : Nat) (k lo hi : Int) (x ns : List Int) (kids : List Tree) : rightF n (.mk k x ns lo hi kids) = (formA k x ns lo hi kids.length && othB k x ns lo hi kids.length && kids.all (rightG n)) := by
  cases n with
  | zero =>
    rw [rightF, form_split]
    congr 1
    cases kids <;> simp [rightG]
  | succ n => rw [rightF, form_split]; rfl

/-- The call answers so of every expression at this depth. -/
def RightTo (n : Nat) : Prop := ∀ (W : World) (X : XV) (t : Tree) (q : Int), q = 51 - (n : Int) → ETree W X t → Calls Tryd.prog 18 #[X.val, .int .i64 q] W (GivesBool (rightG n t) W)

theorem ETree.ones {W : World} {X : XV} {t : Tree} (h : ETree W X t) : X.ns.oneCell' = true ∧ X.ks.oneCell' = true := by
  cases h with
  | mk vs h0 hl h1 h2 _ _ => exact ⟨h1.one, h2.one⟩

set_option maxRecDepth 100000 in
set_option maxHeartbeats 1000000 in
theorem right1_any {n : Nat} (hn : n ≤ 51) (ih : RightTo n) {D : Nat} {W : World} {X : XV} {t : Tree} (h : ETree W X t) (hD : W.cell? ⟨D, 0, none⟩ = some (.int .i64 (50 - (n : Int)))) :
    Calls Tryd.prog 34 #[X.val, .pointer (some ⟨D, 0, none⟩)] W (GivesBool (rightG n t) W) := by
  obtain ⟨o1, o2⟩ := h.ones
  obtain ⟨k, s, nv, lo, hi, kv⟩ := X
  obtain ⟨q, hq⟩ : ∃ q : Int, q = 50 - (n : Int) := ⟨_, rfl⟩
  rw [← hq] at hD
  have hb := (Below.refl W.heap.size W).alloc (Nat.le_refl _) (xobj k lo hi s nv kv)
  have hDl : D < W.heap.size := World.block_lt_of_cell? W ⟨D, 0, none⟩ hD
  have HC := Lib.hid (ih _ _ t (q + 1) (by omega) (h.under hb))
  have q0 : -1 ≤ q := by omega
  have q1 : q ≤ 50 := by omega
  have hD2 := (hb.cell (p := ⟨D, 0, none⟩) hDl).trans hD
  unfold xobj at hb HC hD2
  have HB := Lib.hid hb
  show Calls _ _ #[.agg #[.int .i64 k, .string s, nv, .int .i64 lo, .int .i64 hi, kv], .pointer (some ⟨D, 0, none⟩)] W _
  clear hb h hq ih hD
  cases hp : rightG n t
  all_goals
    rw [hp] at HC
    clear hp
    go_enter Tryd.func34, Tryd.ntmps34
    go_wp2_with fail
    refine HC.out.mono ?_
    rintro e w' ⟨rfl, hb⟩
    have HB2 := Lib.hid (below_then HB.out hb)
    clear hb
    go_wp2_with fail
    go_ret
    exact ⟨rfl, HB2.out⟩

set_option maxRecDepth 100000 in
set_option maxHeartbeats 1000000 in
theorem notX_any {n : Nat} (hn : n ≤ 51) (ih : RightTo n) {B D : Nat} {W : World} {X : XV} {t : Tree} (h : ETree W X t) (hD : W.cell? ⟨D, 0, none⟩ = some (.int .i64 (50 - (n : Int))))
    (hB : W.cell? ⟨B, 0, none⟩ = some (.func (Fn.func 34) #[] #[.pointer (some ⟨D, 0, none⟩)])) :
    Calls Tryd.prog 55 #[X.val, .pointer (some ⟨B, 0, none⟩)] W (GivesBool (!rightG n t) W) := by
  obtain ⟨o1, o2⟩ := h.ones
  obtain ⟨k, s, nv, lo, hi, kv⟩ := X
  have hb := (Below.refl W.heap.size W).alloc (Nat.le_refl _) (xobj k lo hi s nv kv)
  have hDl : D < W.heap.size := World.block_lt_of_cell? W ⟨D, 0, none⟩ hD
  have hBl : B < W.heap.size := World.block_lt_of_cell? W ⟨B, 0, none⟩ hB
  have HC := Lib.hid (right1_any hn ih (h.under hb) ((hb.cell (p := ⟨D, 0, none⟩) hDl).trans hD))
  have hB2 := (hb.cell (p := ⟨B, 0, none⟩) hBl).trans hB
  unfold xobj at hb HC hB2
  have HB := Lib.hid hb
  show Calls _ _ #[.agg #[.int .i64 k, .string s, nv, .int .i64 lo, .int .i64 hi, kv], .pointer (some ⟨B, 0, none⟩)] W _
  clear hb h ih hD hB
  cases hp : rightG n t
  all_goals
    rw [hp] at HC
    clear hp
    go_enter Tryd.func55, Tryd.ntmps55
    go_wp2_with fail
    refine HC.out.mono ?_
    rintro e w' ⟨rfl, hb⟩
    have HB2 := Lib.hid (below_then HB.out hb)
    clear hb
    go_wp2_with fail
    go_ret
    exact ⟨rfl, HB2.out⟩

/-- Kids as they lie in memory. -/
def KidsE (W : World) (v : Value) (vs : List XV) (kids : List Tree) : Prop :=
  RowAny W v kids.length (vs.flatMap XV.cells) ∧ vs.length = kids.length ∧ ∀ (i : Nat) (y : XV) (t : Tree), vs[i]? = some y → kids[i]? = some t → ETree W y t
theorem KidsE.below {W W' : World} {v : Value} {vs : List XV} {kids : List Tree} (h : KidsE W v vs kids) (hb : Below W.heap.size W W') : KidsE W' v vs kids :=
  ⟨h.1.below hb, h.2.1, fun i y t hy ht => (h.2.2 i y t hy ht).under hb⟩

/-- Where the first one that is wanted stands, or -1. -/
def GivesIdx (no : Bool) (w : World) (e : Ending) (w' : World) : Prop := ∃ i : Int, e = .returned (.int .i64 i) ∧ Below w.heap.size w w' ∧ -1 ≤ i ∧ decide (0 ≤ i) = no

theorem allT_upto {P : Tree → Bool} {x : List Tree} {n : Nat} (hn : x.length ≤ n) (h : ∀ (i : Nat) (c : Tree), i < n → x[i]? = some c → P c = true) : x.all P = true := by
  rw [List.all_eq_true]
  intro c hc
  obtain ⟨i, hi⟩ := List.getElem?_of_mem hc
  exact h i c (Nat.lt_of_lt_of_le (List.getElem?_eq_some_iff.1 hi).1 hn) hi
theorem allT_not {P : Tree → Bool} {x : List Tree} {i : Nat} {c : Tree} (h : x[i]? = some c) (hc : P c = false) : x.all P = false := by
  rw [List.all_eq_false]
  exact ⟨c, List.mem_of_getElem? h, by simp [hc]⟩

set_option maxRecDepth 100000 in
set_option maxHeartbeats 4000000 in
theorem indexX_any {n : Nat} (hn : n ≤ 51) (ih : RightTo n) {B D : Nat} {w : World} {v : Value} {vs : List XV} {kids : List Tree} (h : KidsE w v vs kids) (hD : w.cell? ⟨D, 0, none⟩ = some (.int .i64 (50 - (n : Int))))
    (hB : w.cell? ⟨B, 0, none⟩ = some (.func (Fn.func 34) #[] #[.pointer (some ⟨D, 0, none⟩)])) :
    Calls Tryd.prog 66 #[v, .func (Fn.func 55) #[] #[.pointer (some ⟨B, 0, none⟩)]] w (GivesIdx (!kids.all (rightG n)) w) := by
  have hDl : D < w.heap.size := World.block_lt_of_cell? w ⟨D, 0, none⟩ hD
  have hBl : B < w.heap.size := World.block_lt_of_cell? w ⟨B, 0, none⟩ hB
  obtain ⟨h1, h2, h3⟩ := h
  obtain ⟨m, hm⟩ : ∃ m, m = kids.length := ⟨_, rfl⟩
  rw [← hm] at h1 h2
  have HM := Lib.hid hm
  have H2 := Lib.hid h2
  have H3 := Lib.hid h3
  have HD := Lib.hid hD
  have HBB := Lib.hid hB
  have IH := Lib.hid ih
  rcases h1 with ⟨h0, a, cap, rfl⟩ | ⟨g, off, cap, rfl, g1, g2, g3, g4⟩
  · have hx0 : kids = [] := List.length_eq_zero_iff.1 (by omega)
    subst hx0
    clear hm h0 hD hB h2 h3 ih
    go_enter Tryd.func66, Tryd.ntmps66
    go_wp2_with fail
    go_loop [8] (fun v => v = .int .i64 0) (fun v => 0)
    case atStart => rfl
    case round =>
      subst hrel
      go_wp2_with fail
      go_ret
      exact ⟨-1, rfl, Below.refl _ _, by omega, by decide⟩
  · have G4 := Lib.hid g4
    unfold maxLen at g2
    clear hm hD hB h2 h3 ih g4
    go_enter Tryd.func66, Tryd.ntmps66
    go_wp2_with fail
    go_loopw [8] (fun v wr => ∃ i : Nat, v = .int .i64 i ∧ i ≤ m ∧ Hid (Below w.heap.size w wr) ∧ Hid (∀ (j : Nat) (c : Tree), j < i → kids[j]? = some c → rightG n c = true)) (fun v _ => m - (intOf v).toNat)
    case atStart => exact ⟨0, rfl, by omega, Below.refl _ _, fun j c h => by omega⟩
    case round =>
      obtain ⟨i, rfl, hi, HBEL, HALL⟩ := hrel
      by_cases hlt : i < m
      · obtain ⟨Y, hY⟩ : ∃ y, vs[i]? = some y := ⟨_, List.getElem?_eq_getElem (by rw [H2.out]; exact hlt)⟩
        obtain ⟨t, ht⟩ : ∃ y, kids[i]? = some y := ⟨_, List.getElem?_eq_getElem (by rw [← HM.out]; exact hlt)⟩
        have HTI := Lib.hid ht
        have CX : ∀ (j : Nat) (u : Value), j < 6 → Y.cells[j]? = some u → wr.cell? ⟨g, off + (i * 6 + j), none⟩ = some u := fun j u hj hu =>
          (HBEL.out.cell (p := ⟨g, off + (i * 6 + j), none⟩) g3).trans (G4.out _ u ((flat_at vs i j Y hY hj).trans hu))
        have HN := Lib.hid (notX_any hn IH.out ((H3.out i Y t hY ht).under HBEL.out) ((HBEL.out.cell (p := ⟨D, 0, none⟩) hDl).trans HD.out) ((HBEL.out.cell (p := ⟨B, 0, none⟩) hBl).trans HBB.out))
        obtain ⟨k, s, nv, lo, hi', kv⟩ := Y
        have e0 := CX 0 _ (by omega) rfl
        have e1 := CX 1 _ (by omega) rfl
        have e2 := CX 2 _ (by omega) rfl
        have e3 := CX 3 _ (by omega) rfl
        have e4 := CX 4 _ (by omega) rfl
        have e5 := CX 5 _ (by omega) rfl
        rw [← Nat.add_assoc] at e0 e1 e2 e3 e4 e5
        rw [Nat.add_zero] at e0
        clear CX hY ht
        cases hf : rightG n t
        · have HNOT := Lib.hid (allT_not (P := rightG n) HTI.out hf)
          rw [hf] at HN
          clear hf
          go_wp2_with fail
          refine HN.out.mono ?_
          rintro e w' ⟨rfl, hb'⟩
          have HB2 := Lib.hid (below_then HBEL.out hb')
          clear hb'
          go_wp2_with fail
          go_ret
          exact ⟨(i : Int), rfl, HB2.out, by omega, by rw [HNOT.out]; simp⟩
        · have HNX : Hid (∀ (j : Nat) (c : Tree), j < i + 1 → kids[j]? = some c → rightG n c = true) := fun j c hj hc => by
            by_cases g : j = i
            · subst g
              rw [HTI.out] at hc
              rw [← Option.some.inj hc]
              exact hf
            · exact HALL.out j c (by omega) hc
          rw [hf] at HN
          clear hf
          go_wp2_with fail
          refine HN.out.mono ?_
          rintro e w' ⟨rfl, hb'⟩
          have HB2 := Lib.hid (below_then HBEL.out hb')
          clear hb' e0 e1 e2 e3 e4 e5
          go_wp2_with fail
          go_roundw
          case rel => exact ⟨i + 1, by go_num, by omega, HB2, HNX⟩
          case measure => simp [intOf]; omega
      · have hyes : kids.all (rightG n) = true := allT_upto (n := m) (by rw [HM.out]; exact Nat.le_refl _) (fun j c h hc => HALL.out j c (by omega) hc)
        have HYES := Lib.hid hyes
        clear hyes
        go_wp2_with fail
        go_ret
        exact ⟨-1, rfl, HBEL.out, by omega, by rw [HYES.out]; decide⟩

set_option maxRecDepth 100000 in
theorem someX_any {n : Nat} (hn : n ≤ 51) (ih : RightTo n) {B D : Nat} {w : World} {v : Value} {vs : List XV} {kids : List Tree} (h : KidsE w v vs kids) (hD : w.cell? ⟨D, 0, none⟩ = some (.int .i64 (50 - (n : Int))))
    (hB : w.cell? ⟨B, 0, none⟩ = some (.func (Fn.func 34) #[] #[.pointer (some ⟨D, 0, none⟩)])) :
    Calls Tryd.prog 54 #[v, .func (Fn.func 55) #[] #[.pointer (some ⟨B, 0, none⟩)]] w (GivesBool (!kids.all (rightG n)) w) := by
  have HI := Lib.hid (indexX_any hn ih h hD hB)
  clear h hD hB ih
  go_enter Tryd.func54, Tryd.ntmps54
  go_wp2_with fail
  refine HI.out.mono ?_
  rintro e w' ⟨i, rfl, hb, hi, hd⟩
  have HD := Lib.hid hd
  have HB2 := Lib.hid hb
  clear hd hb
  go_wp2_with fail
  go_ret
  exact ⟨by rw [← HD.out]; exact rfl, HB2.out⟩

set_option maxRecDepth 100000 in
theorem allX_any {n : Nat} (hn : n ≤ 51) (ih : RightTo n) {D : Nat} {w : World} {v : Value} {vs : List XV} {kids : List Tree} (h : KidsE w v vs kids) (hD : w.cell? ⟨D, 0, none⟩ = some (.int .i64 (50 - (n : Int)))) :
    Calls Tryd.prog 33 #[v, .func (Fn.func 34) #[] #[.pointer (some ⟨D, 0, none⟩)]] w (GivesBool (kids.all (rightG n)) w) := by
  have hDl : D < w.heap.size := World.block_lt_of_cell? w ⟨D, 0, none⟩ hD
  have HS := Lib.hid (fun o : Obj => someX_any (w := w.alloc o) (B := w.heap.size) (D := D) hn ih (h.below ((Below.refl _ _).alloc (Nat.le_refl _) _)) ((((Below.refl _ _).alloc (Nat.le_refl _) o).cell (p := ⟨D, 0, none⟩) hDl).trans hD))
  clear h hD ih
  cases hp : kids.all (rightG n)
  all_goals
    rw [hp] at HS
    clear hp
    go_enter Tryd.func33, Tryd.ntmps33
    go_wp2_with fail
    refine (HS.out _ (by unfold World.cell?; rw [heap_alloc_new]; rfl)).mono ?_
    rintro e w' ⟨rfl, hb⟩
    have HB2 := Lib.hid (((Below.refl w.heap.size w).alloc (Nat.le_refl _) _).trans (hb.mono (by simp)))
    clear hb
    go_wp2_with fail
    go_ret
    exact ⟨rfl, HB2.out⟩

theorem cell_alloc {W : World} {b j : Nat} {v : Value} (h : W.cell? ⟨b, j, none⟩ = some v) (o : Obj) : (W.alloc o).cell? ⟨b, j, none⟩ = some v :=
  (((Below.refl W.heap.size W).alloc (Nat.le_refl _) o).cell (p := ⟨b, j, none⟩) (World.block_lt_of_cell? W ⟨b, j, none⟩ h)).trans h
theorem cell_below {W W' : World} {b j : Nat} {v : Value} (h : W.cell? ⟨b, j, none⟩ = some v) (hb : Below W.heap.size W W') : W'.cell? ⟨b, j, none⟩ = some v :=
  (hb.cell (p := ⟨b, j, none⟩) (World.block_lt_of_cell? W ⟨b, j, none⟩ h)).trans h

set_option maxRecDepth 100000 in
set_option maxHeartbeats 4000000 in
theorem right_step {n : Nat} (hn : n ≤ 50) (ih : RightTo n) : RightTo (n + 1) := by
  intro w X t q hq h
  obtain ⟨k, x, ns, lo, hi, kids⟩ := t
  have hr : rightG (n + 1) (.mk k x ns lo hi kids) = (formA k x ns lo hi kids.length && othB k x ns lo hi kids.length && kids.all (rightG n)) := rightF_eq n k lo hi x ns kids
  rw [hr]
  obtain ⟨o1, o2⟩ := h.ones
  have hb : Below w.heap.size w ((w.alloc (xobj X.kind X.lo X.hi X.text X.ns X.ks)).alloc (.cells #[.int .i64 q] 3)) := ((Below.refl _ _).alloc (Nat.le_refl _) _).alloc (by simp) _
  have hX : X6 ((w.alloc (xobj X.kind X.lo X.hi X.text X.ns X.ks)).alloc (.cells #[.int .i64 q] 3)) w.heap.size X.kind X.lo X.hi X.text X.ns X.ks := (X6.new w _ _ _ _ _ _).alloc _
  have hQ : ((w.alloc (xobj X.kind X.lo X.hi X.text X.ns X.ks)).alloc (.cells #[.int .i64 q] 3)).cell? ⟨w.heap.size + 1, 0, none⟩ = some (.int .i64 q) := by
    have := heap_last (w.alloc (xobj X.kind X.lo X.hi X.text X.ns X.ks)) (.cells #[.int .i64 q] 3) (w.heap.size + 1) (by simp)
    simp only [World.cell?, this]
    rfl
  have HA := Lib.hid (fun W (hW : ETree W X (.mk k x ns lo hi kids)) => has_any hW)
  have HO := Lib.hid (fun W (hW : ETree W X (.mk k x ns lo hi kids)) => oth_any hW)
  have HE := Lib.hid h
  have HK : Hid (∃ vs, KidsE w X.ks vs kids) := by cases h with | mk vs h0 hl h1 h2 h3 h4 => exact ⟨vs, h2, h3, h4⟩
  have HQQ := Lib.hid (show q = 50 - (n : Int) by omega)
  have IH := Lib.hid ih
  obtain ⟨xk, s, nv, xlo, xhi, kv⟩ := X
  unfold xobj at hb hX hQ
  have HB := Lib.hid hb
  have HX := Lib.hid hX
  have HQ := Lib.hid hQ
  have q0 : -1 ≤ q := by omega
  have q1 : q ≤ 50 := by omega
  show Calls _ _ #[.agg #[.int .i64 xk, .string s, nv, .int .i64 xlo, .int .i64 xhi, kv], .int .i64 q] w _
  clear hb hX hQ hr h hq ih
  cases hf : formA k x ns lo hi kids.length
  · rw [hf] at HA
    clear hf
    go_enter Tryd.func18, Tryd.ntmps18
    go_wp2_with fail
    refine (HA.out _ (HE.out.under HB.out)).mono ?_
    rintro e w1 ⟨rfl, hb⟩
    have HB2 := Lib.hid (below_then HB.out hb)
    clear hb
    go_wp2_with fail
    go_ret
    exact ⟨rfl, HB2.out⟩
  · rw [hf] at HA
    clear hf
    cases ho : othB k x ns lo hi kids.length
    · rw [ho] at HO
      clear ho
      go_enter Tryd.func18, Tryd.ntmps18
      go_wp2_with fail
      refine (HA.out _ (HE.out.under HB.out)).mono ?_
      rintro e w1 ⟨rfl, hb⟩
      have HB2 := Lib.hid (below_then HB.out hb)
      obtain ⟨a0, a1, a2, a3, a4, a5⟩ := (HX.out.under hb).cells
      clear hb
      go_wp2_with fail
      refine (HO.out _ (HE.out.under HB2.out)).mono ?_
      rintro e w2 ⟨rfl, hb⟩
      have HB3 := Lib.hid (below_then HB2.out hb)
      clear hb
      go_wp2_with fail
      go_ret
      exact ⟨rfl, HB3.out⟩
    · rw [ho] at HO
      clear ho
      cases hp : kids.all (rightG n)
      all_goals
        have HP := Lib.hid hp
        clear hp
        go_enter Tryd.func18, Tryd.ntmps18
        go_wp2_with fail
        refine (HA.out _ (HE.out.under HB.out)).mono ?_
        rintro e w1 ⟨rfl, hb⟩
        have HB2 := Lib.hid (below_then HB.out hb)
        have HX2 := Lib.hid (HX.out.under hb)
        have HQ2 := Lib.hid (cell_below HQ.out hb)
        obtain ⟨a0, a1, a2, a3, a4, a5⟩ := HX2.out.cells
        clear hb
        go_wp2_with fail
        refine (HO.out _ (HE.out.under HB2.out)).mono ?_
        rintro e w2 ⟨rfl, hb⟩
        have HB3 := Lib.hid (below_then HB2.out hb)
        have HX3 := Lib.hid (HX2.out.under hb)
        have HQ3 := Lib.hid (cell_below HQ2.out hb)
        clear a0 a1 a2 a3 a4 a5 hb
        obtain ⟨a0, a1, a2, a3, a4, a5⟩ := HX3.out.cells
        obtain ⟨vs, hk⟩ := HK.out
        have HC := Lib.hid (allX_any (w := w2) (D := w.heap.size + 1) (by omega) IH.out (hk.below HB3.out) (by rw [← HQQ.out]; exact HQ3.out))
        rw [HP.out] at HC
        clear hk
        go_wp2_with fail
        refine HC.out.mono ?_
        rintro e w3 ⟨rfl, hb⟩
        have HB4 := Lib.hid (below_then HB3.out hb)
        clear hb a0 a1 a2 a3 a4 a5
        go_wp2_with fail
        go_ret
        exact ⟨rfl, HB4.out⟩

set_option maxRecDepth 100000 in
theorem right_zero : RightTo 0 := by
  intro w X t q hq0 h
  obtain ⟨o1, o2⟩ := h.ones
  obtain ⟨xk, s, nv, xlo, xhi, kv⟩ := X
  have hq : 50 < q := by omega
  clear hq0
  have q1 : decide (q ≤ 50) = false := decide_eq_false (by omega)
  have hb : Below w.heap.size w ((w.alloc (xobj xk xlo xhi s nv kv)).alloc (.cells #[.int .i64 q] 3)) := ((Below.refl _ _).alloc (Nat.le_refl _) _).alloc (by simp) _
  unfold xobj at hb
  have HB := Lib.hid hb
  show Calls _ _ #[.agg #[.int .i64 xk, .string s, nv, .int .i64 xlo, .int .i64 xhi, kv], .int .i64 q] w (GivesBool false w)
  clear hb h
  go_enter Tryd.func18, Tryd.ntmps18
  go_wp2_with fail
  go_ret
  exact ⟨rfl, HB.out⟩
theorem right_all : ∀ n, n ≤ 51 → RightTo n
  | 0, _ => right_zero
  | n + 1, h => right_step (by omega) (right_all n (by omega))

set_option maxRecDepth 100000 in
/-- Whether an expression may be. -/
theorem right_any {w : World} {X : XV} {t : Tree} (h : ETree w X t) : Calls Tryd.prog 8 #[X.val] w (GivesBool (rightF 50 t) w) := by
  obtain ⟨o1, o2⟩ := h.ones
  have hb := (Below.refl w.heap.size w).alloc (Nat.le_refl _) (xobj X.kind X.lo X.hi X.text X.ns X.ks)
  have HC := Lib.hid (right_all 51 (by omega) _ X t 0 (by omega) (h.under hb))
  have e : rightG 51 t = rightF 50 t := rfl
  rw [e] at HC
  obtain ⟨xk, s, nv, xlo, xhi, kv⟩ := X
  unfold xobj at hb HC
  have HB := Lib.hid hb
  show Calls _ _ #[.agg #[.int .i64 xk, .string s, nv, .int .i64 xlo, .int .i64 xhi, kv]] w _
  clear hb h e
  cases hp : rightF 50 t
  all_goals
    rw [hp] at HC
    clear hp
    go_enter Tryd.func8, Tryd.ntmps8
    go_wp2_with fail
    refine HC.out.mono ?_
    rintro e w1 ⟨rfl, hb⟩
    have HB2 := Lib.hid (below_then HB.out hb)
    clear hb
    go_wp2_with fail
    go_ret
    exact ⟨rfl, HB2.out⟩

end Go.Proofs.YtfoohffeccgkeaaDoor
