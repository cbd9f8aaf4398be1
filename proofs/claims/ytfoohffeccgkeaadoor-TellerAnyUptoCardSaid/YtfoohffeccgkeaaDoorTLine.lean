/- The program's teller: lines. -/
import Derived.Test.YtfoohffeccgkeaaDoorTRep
namespace Go.Proofs.YtfoohffeccgkeaaDoor
open Go.RowKit
set_option linter.unusedVariables false
set_option linter.unusedSimpArgs false

/-- A rule as it lies in memory, wherever its lists begin. -/
def LineE (W : World) (y : LV) (r : Rule) : Prop := y.name = strOf r.name ∧ (∀ c ∈ r.name, 0 ≤ c ∧ c ≤ 255) ∧ r.name.length ≤ 9223372036854775807 ∧ y.more = r.more ∧ ETree W y.expr r.expr
theorem LineE.under {W W' : World} {y : LV} {r : Rule} (h : LineE W y r) (hb : Below W.heap.size W W') : LineE W' y r := ⟨h.1, h.2.1, h.2.2.1, h.2.2.2.1, h.2.2.2.2.under hb⟩
def LinesE (W : World) (v : Value) (ys : List LV) (l : List Rule) : Prop :=
  RowAny W v l.length (ys.flatMap LV.cells) ∧ ys.length = l.length ∧ ∀ (i : Nat) (y : LV) (r : Rule), ys[i]? = some y → l[i]? = some r → LineE W y r
theorem LinesE.below {W W' : World} {v : Value} {ys : List LV} {l : List Rule} (h : LinesE W v ys l) (hb : Below W.heap.size W W') : LinesE W' v ys l := ⟨h.1.below hb, h.2.1, fun i y r hy hr => (h.2.2 i y r hy hr).under hb⟩
def rlB (r : Rule) : Bool := nameB r.name && rightF 50 r.expr

/-- The eight cells of a rule, boxed. -/
def lobj (y : LV) : Obj := .cells y.arr 34
def L8 (W : World) (g : Nat) (y : LV) : Prop := W.heap[g]? = some (.cells y.arr 34 (0, 0))
theorem L8.lt {W : World} {g : Nat} {y : LV} (h : L8 W g y) : g < W.heap.size := (Array.getElem?_eq_some_iff.1 h).1
theorem L8.under {W W1 : World} {g : Nat} {y : LV} (h : L8 W g y) (hb : Below W.heap.size W W1) : L8 W1 g y := (hb.block g h.lt).trans h
theorem L8.new (W : World) (y : LV) : L8 (W.alloc (lobj y)) W.heap.size y := heap_alloc_new W _
theorem L8.cells {W : World} {g : Nat} {y : LV} (h : L8 W g y) :
    W.cell? ⟨g, 0, none⟩ = some (.string y.name) ∧ W.cell? ⟨g, 1, none⟩ = some (.bool y.more) ∧ W.cell? ⟨g, 2, none⟩ = some (.int .i64 y.expr.kind) ∧ W.cell? ⟨g, 3, none⟩ = some (.string y.expr.text) ∧ W.cell? ⟨g, 4, none⟩ = some y.expr.ns ∧ W.cell? ⟨g, 5, none⟩ = some (.int .i64 y.expr.lo) ∧ W.cell? ⟨g, 6, none⟩ = some (.int .i64 y.expr.hi) ∧ W.cell? ⟨g, 7, none⟩ = some y.expr.ks := by
  unfold L8 at h
  simp [World.cell?, h, LV.arr]

theorem flatL4_at (vs : List LV) (i j : Nat) (x : LV) (h : vs[i]? = some x) (hj : j < 8) : (vs.flatMap LV.cells)[i * 8 + j]? = x.cells[j]? := by
  induction vs generalizing i with
  | nil => simp at h
  | cons y vs ih =>
    cases i with
    | zero =>
      simp at h
      subst h
      simp only [List.flatMap_cons, Nat.zero_mul, Nat.zero_add]
      rw [List.getElem?_append_left (by simp [LV.cells]; exact hj)]
    | succ i =>
      simp at h
      have := ih i h
      simp only [List.flatMap_cons]
      rw [List.getElem?_append_right (by simp [LV.cells]; omega), show (i + 1) * 8 + j - (LV.cells y).length = i * 8 + j by simp [LV.cells]; omega]
      exact this

set_option maxRecDepth 100000 in
set_option maxHeartbeats 4000000 in
theorem rline_any {W : World} {y : LV} {r : Rule} (h : LineE W y r) : Calls Tryd.prog 15 #[y.val] W (GivesBool (rlB r) W) := by
  obtain ⟨hn, hc, hl, hm, ht⟩ := h
  obtain ⟨a, m, ca, c, n, cc, e1, e2⟩ := ht.slices
  have hb := (Below.refl W.heap.size W).alloc (Nat.le_refl _) (lobj y)
  have hL := L8.new W y
  have HN := Lib.hid (fun W' => name_text (x := r.name) W' hc hl)
  have HR := Lib.hid (fun W' (hb' : Below W.heap.size W W') => right_any (ht.under hb'))
  unfold rlB
  obtain ⟨nm, mo, ⟨k, s, nv, lo, hi, kv⟩⟩ := y
  simp only [] at hn hm e1 e2
  subst hn hm e1 e2
  obtain ⟨a0, a1, a2, a3, a4, a5, a6, a7⟩ := hL.cells
  have HL := Lib.hid hL
  have HB := Lib.hid hb
  unfold lobj at HB HL a0 a1 a2 a3 a4 a5 a6 a7
  show Calls _ _ #[.agg #[.string (strOf r.name), .bool r.more, .int .i64 k, .string s, .slice a m ca, .int .i64 lo, .int .i64 hi, .slice c n cc]] W _
  clear hb hL hc hl ht
  cases hp : nameB r.name
  · rw [hp] at HN
    clear hp
    rw [Bool.false_and]
    go_enter Tryd.func15, Tryd.ntmps15
    go_wp2_with fail
    refine (HN.out _).mono ?_
    rintro e w1 ⟨rfl, hb⟩
    have HB1 := Lib.hid (below_then HB.out hb)
    clear hb
    go_wp2_with fail
    go_ret
    exact ⟨rfl, HB1.out⟩
  · rw [hp] at HN
    clear hp
    rw [Bool.true_and]
    cases hq : rightF 50 r.expr
    all_goals
      rw [hq] at HR
      clear hq
      go_enter Tryd.func15, Tryd.ntmps15
      go_wp2_with fail
      refine (HN.out _).mono ?_
      rintro e w1 ⟨rfl, hb⟩
      have HB1 := Lib.hid (below_then HB.out hb)
      clear a0 a1 a2 a3 a4 a5 a6 a7
      obtain ⟨a0, a1, a2, a3, a4, a5, a6, a7⟩ := (HL.out.under hb).cells
      clear hb
      go_wp2_with fail
      refine (HR.out _ HB1.out).mono ?_
      rintro e w2 ⟨rfl, hb⟩
      have HB2 := Lib.hid (below_then HB1.out hb)
      clear hb a0 a1 a2 a3 a4 a5 a6 a7
      go_wp2_with fail
      go_ret
      exact ⟨rfl, HB2.out⟩

set_option maxRecDepth 100000 in
set_option maxHeartbeats 1000000 in
theorem notL_any {B : Nat} {W : World} {y : LV} {r : Rule} (h : LineE W y r) (hB : W.cell? ⟨B, 0, none⟩ = some (.func (Fn.func 15) #[] #[])) :
    Calls Tryd.prog 28 #[y.val, .pointer (some ⟨B, 0, none⟩)] W (GivesBool (!rlB r) W) := by
  obtain ⟨a, m, ca, c, n, cc, e1, e2⟩ := h.2.2.2.2.slices
  have hb := (Below.refl W.heap.size W).alloc (Nat.le_refl _) (lobj y)
  have HC := Lib.hid (rline_any (h.under hb))
  have hB2 := cell_below hB hb
  obtain ⟨nm, mo, ⟨k, s, nv, lo, hi, kv⟩⟩ := y
  simp only [] at e1 e2
  subst e1 e2
  unfold lobj LV.arr at hb HC hB2
  have HB := Lib.hid hb
  show Calls _ _ #[.agg #[.string nm, .bool mo, .int .i64 k, .string s, .slice a m ca, .int .i64 lo, .int .i64 hi, .slice c n cc], .pointer (some ⟨B, 0, none⟩)] W _
  clear hb h hB
  cases hp : rlB r
  all_goals
    rw [hp] at HC
    clear hp
    go_enter Tryd.func28, Tryd.ntmps28
    go_wp2_with fail
    refine HC.out.mono ?_
    rintro e w' ⟨rfl, hb⟩
    have HB2 := Lib.hid (below_then HB.out hb)
    clear hb
    go_wp2_with fail
    go_ret
    exact ⟨rfl, HB2.out⟩

theorem allR_upto {P : Rule → Bool} {x : List Rule} {n : Nat} (hn : x.length ≤ n) (h : ∀ (i : Nat) (c : Rule), i < n → x[i]? = some c → P c = true) : x.all P = true := by
  rw [List.all_eq_true]
  intro c hc
  obtain ⟨i, hi⟩ := List.getElem?_of_mem hc
  exact h i c (Nat.lt_of_lt_of_le (List.getElem?_eq_some_iff.1 hi).1 hn) hi
theorem allR_not {P : Rule → Bool} {x : List Rule} {i : Nat} {c : Rule} (h : x[i]? = some c) (hc : P c = false) : x.all P = false := by
  rw [List.all_eq_false]
  exact ⟨c, List.mem_of_getElem? h, by simp [hc]⟩

set_option maxRecDepth 100000 in
set_option maxHeartbeats 4000000 in
theorem indexL_any {B : Nat} {w : World} {v : Value} {vs : List LV} {l : List Rule} (h : LinesE w v vs l) (hB : w.cell? ⟨B, 0, none⟩ = some (.func (Fn.func 15) #[] #[])) :
    Calls Tryd.prog 40 #[v, .func (Fn.func 28) #[] #[.pointer (some ⟨B, 0, none⟩)]] w (GivesIdx (!l.all rlB) w) := by
  obtain ⟨h1, h2, h3⟩ := h
  obtain ⟨m, hm⟩ : ∃ m, m = l.length := ⟨_, rfl⟩
  rw [← hm] at h1 h2
  have HM := Lib.hid hm
  have H2 := Lib.hid h2
  have H3 := Lib.hid h3
  have HBB := Lib.hid hB
  rcases h1 with ⟨h0, a, cap, rfl⟩ | ⟨g, off, cap, rfl, g1, g2, g3, g4⟩
  · have hx0 : l = [] := List.length_eq_zero_iff.1 (by omega)
    subst hx0
    clear hm h0 hB h2 h3
    go_enter Tryd.func40, Tryd.ntmps40
    go_wp2_with fail
    go_loop [8] (fun v => v = .int .i64 0) (fun v => 0)
    case atStart => rfl
    case round =>
      subst hrel
      go_wp2_with fail
      go_ret
      exact ⟨-1, rfl, Below.refl _ _, by omega, by decide⟩
  · have G4 := Lib.hid g4
    unfold maxLen at g2
    clear hm hB h2 h3 g4
    go_enter Tryd.func40, Tryd.ntmps40
    go_wp2_with fail
    go_loopw [8] (fun v wr => ∃ i : Nat, v = .int .i64 i ∧ i ≤ m ∧ Hid (Below w.heap.size w wr) ∧ Hid (∀ (j : Nat) (c : Rule), j < i → l[j]? = some c → rlB c = true)) (fun v _ => m - (intOf v).toNat)
    case atStart => exact ⟨0, rfl, by omega, Below.refl _ _, fun j c h => by omega⟩
    case round =>
      obtain ⟨i, rfl, hi, HBEL, HALL⟩ := hrel
      by_cases hlt : i < m
      · obtain ⟨Y, hY⟩ : ∃ y, vs[i]? = some y := ⟨_, List.getElem?_eq_getElem (by rw [H2.out]; exact hlt)⟩
        obtain ⟨t, ht⟩ : ∃ y, l[i]? = some y := ⟨_, List.getElem?_eq_getElem (by rw [← HM.out]; exact hlt)⟩
        have HTI := Lib.hid ht
        have CX : ∀ (j : Nat) (u : Value), j < 8 → Y.cells[j]? = some u → wr.cell? ⟨g, off + (i * 8 + j), none⟩ = some u := fun j u hj hu =>
          (HBEL.out.cell (p := ⟨g, off + (i * 8 + j), none⟩) g3).trans (G4.out _ u ((flatL4_at vs i j Y hY hj).trans hu))
        have HN := Lib.hid (notL_any ((H3.out i Y t hY ht).under HBEL.out) (cell_below HBB.out HBEL.out))
        obtain ⟨nm, mo, ⟨k, s, nv, lo, hi', kv⟩⟩ := Y
        have e0 := CX 0 _ (by omega) rfl
        have e1 := CX 1 _ (by omega) rfl
        have e2 := CX 2 _ (by omega) rfl
        have e3 := CX 3 _ (by omega) rfl
        have e4 := CX 4 _ (by omega) rfl
        have e5 := CX 5 _ (by omega) rfl
        have e6 := CX 6 _ (by omega) rfl
        have e7 := CX 7 _ (by omega) rfl
        rw [← Nat.add_assoc] at e0 e1 e2 e3 e4 e5 e6 e7
        rw [Nat.add_zero] at e0
        clear CX hY ht
        cases hf : rlB t
        · have HNOT := Lib.hid (allR_not (P := rlB) HTI.out hf)
          rw [hf] at HN
          clear hf
          go_wp2_with fail
          refine HN.out.mono ?_
          rintro e w' ⟨rfl, hb'⟩
          have HB2 := Lib.hid (below_then HBEL.out hb')
          clear hb'
          go_wp2_with fail
          go_ret
          exact ⟨(i : Int), rfl, HB2.out, by omega, by rw [HNOT.out]; simp⟩
        · have HNX : Hid (∀ (j : Nat) (c : Rule), j < i + 1 → l[j]? = some c → rlB c = true) := fun j c hj hc => by
            by_cases g : j = i
            · subst g
              rw [HTI.out] at hc
              rw [← Option.some.inj hc]
              exact hf
            · exact HALL.out j c (by omega) hc
          rw [hf] at HN
          clear hf
          go_wp2_with fail
          refine HN.out.mono ?_
          rintro e w' ⟨rfl, hb'⟩
          have HB2 := Lib.hid (below_then HBEL.out hb')
          clear hb' e0 e1 e2 e3 e4 e5 e6 e7
          go_wp2_with fail
          go_roundw
          case rel => exact ⟨i + 1, by go_num, by omega, HB2, HNX⟩
          case measure => simp [intOf]; omega
      · have hyes : l.all rlB = true := allR_upto (n := m) (by rw [HM.out]; exact Nat.le_refl _) (fun j c h hc => HALL.out j c (by omega) hc)
        have HYES := Lib.hid hyes
        clear hyes
        go_wp2_with fail
        go_ret
        exact ⟨-1, rfl, HBEL.out, by omega, by rw [HYES.out]; decide⟩

set_option maxRecDepth 100000 in
theorem someL_any {B : Nat} {w : World} {v : Value} {vs : List LV} {l : List Rule} (h : LinesE w v vs l) (hB : w.cell? ⟨B, 0, none⟩ = some (.func (Fn.func 15) #[] #[])) :
    Calls Tryd.prog 27 #[v, .func (Fn.func 28) #[] #[.pointer (some ⟨B, 0, none⟩)]] w (GivesBool (!l.all rlB) w) := by
  have HI := Lib.hid (indexL_any h hB)
  clear h hB
  go_enter Tryd.func27, Tryd.ntmps27
  go_wp2_with fail
  refine HI.out.mono ?_
  rintro e w' ⟨i, rfl, hb, hi, hd⟩
  have HD := Lib.hid hd
  have HB2 := Lib.hid hb
  clear hd hb
  go_wp2_with fail
  go_ret
  exact ⟨by rw [← HD.out]; exact rfl, HB2.out⟩

set_option maxRecDepth 100000 in
theorem allL_any {w : World} {v : Value} {vs : List LV} {l : List Rule} (h : LinesE w v vs l) :
    Calls Tryd.prog 14 #[v, .func (Fn.func 15) #[] #[]] w (GivesBool (l.all rlB) w) := by
  have HS := Lib.hid (fun o : Obj => someL_any (w := w.alloc o) (B := w.heap.size) (h.below ((Below.refl _ _).alloc (Nat.le_refl _) _)))
  clear h
  cases hp : l.all rlB
  all_goals
    rw [hp] at HS
    clear hp
    go_enter Tryd.func14, Tryd.ntmps14
    go_wp2_with fail
    refine (HS.out _ (by unfold World.cell?; rw [heap_alloc_new]; rfl)).mono ?_
    rintro e w' ⟨rfl, hb⟩
    have HB2 := Lib.hid (((Below.refl w.heap.size w).alloc (Nat.le_refl _) _).trans (hb.mono (by simp)))
    clear hb
    go_wp2_with fail
    go_ret
    exact ⟨rfl, HB2.out⟩

/-- Where a line lies while its text is made. -/
def LnS (w : World) (nm : ByteArray) (k lo hi : Int) (s : ByteArray) (ns ks : Value) (W : World) : Prop :=
  (W.cell? ⟨w.heap.size, 0, none⟩ = some (.string nm) ∧ W.cell? ⟨w.heap.size, 2, none⟩ = some (.int .i64 k) ∧ W.cell? ⟨w.heap.size, 3, none⟩ = some (.string s) ∧ W.cell? ⟨w.heap.size, 4, none⟩ = some ns ∧ W.cell? ⟨w.heap.size, 5, none⟩ = some (.int .i64 lo) ∧ W.cell? ⟨w.heap.size, 6, none⟩ = some (.int .i64 hi) ∧ W.cell? ⟨w.heap.size, 7, none⟩ = some ks) ∧ Below w.heap.size w W
theorem LnS.step {w : World} {nm : ByteArray} {k lo hi : Int} {s : ByteArray} {ns ks : Value} {W W' : World} (hb : Below W.heap.size W W') (h : LnS w nm k lo hi s ns ks W) : LnS w nm k lo hi s ns ks W' :=
  ⟨⟨cell_below h.1.1 hb, cell_below h.1.2.1 hb, cell_below h.1.2.2.1 hb, cell_below h.1.2.2.2.1 hb, cell_below h.1.2.2.2.2.1 hb, cell_below h.1.2.2.2.2.2.1 hb, cell_below h.1.2.2.2.2.2.2 hb⟩, below_then h.2 hb⟩
theorem LnS.drew {w : World} {nm : ByteArray} {k lo hi : Int} {s : ByteArray} {ns ks : Value} {W : World} (h : LnS w nm k lo hi s ns ks W) : LnS w nm k lo hi s ns ks W.drew := ⟨h.1, below_drawn h.2 1⟩

set_option maxRecDepth 100000 in
set_option maxHeartbeats 4000000 in
theorem ltext_any {W : World} {y : LV} {r : Rule} (h : LineE W y r) (hr : rlB r = true) (hT : Tabs W) (hlt : (lineT r).length ≤ 1000000000000) : Calls Tryd.prog 17 #[y.val] W (GivesS (lineT r) W) := by
  obtain ⟨hn, hc, hl, hm, ht⟩ := h
  obtain ⟨a, m, ca, c, n, cc, e1, e2⟩ := ht.slices
  unfold rlB at hr
  rw [Bool.and_eq_true] at hr
  have hlen : r.name.length + (textF 50 r.expr).length + 5 ≤ 1000000000002 := by
    unfold lineT at hlt
    simp only [List.length_append] at hlt
    have : (3 : Nat) ≤ (if r.more = true then ([32, 61, 47, 32] : List Int) else [32, 61, 32]).length := by split <;> simp
    have e10 : ([10] : List Int).length = 1 := rfl
    omega
  have hb := (Below.refl W.heap.size W).alloc (Nat.le_refl _) (lobj y)
  have hL := L8.new W y
  have HTX := Lib.hid (fun W' (hb' : Below W.heap.size W W') => text_all 50 W' y.expr r.expr (ht.under hb') hr.2 (hT.below hb') (by omega))
  obtain ⟨S, hS⟩ : ∃ S, S = strOf (textF 50 r.expr) := ⟨_, rfl⟩
  have hSs : S.size ≤ 1000000000000 := by rw [hS, strOf_size]; omega
  have HTX2 : Hid (∀ W', Below W.heap.size W W' → Calls Tryd.prog 30 #[y.expr.val] W' (fun e w' => e = .returned (.string S) ∧ Below W'.heap.size W' w')) := by rw [hS]; exact HTX
  obtain ⟨N, hN⟩ : ∃ N, N = strOf r.name := ⟨_, rfl⟩
  have hNs : N.size ≤ 1000000000000 := by rw [hN, strOf_size]; omega
  have HF1 := Lib.hid (show r.more = false → ((N ++ (⟨#[32, 61, 32]⟩ : ByteArray)) ++ S) ++ (⟨#[10]⟩ : ByteArray) = strOf (lineT r) from fun e => by
    rw [hN, hS, show (⟨#[32, 61, 32]⟩ : ByteArray) = strOf [32, 61, 32] from rfl, show (⟨#[10]⟩ : ByteArray) = strOf [10] from rfl, str_app4, str_app4, str_app4]
    unfold lineT
    rw [e]
    rfl)
  have HF2 := Lib.hid (show r.more = true → ((N ++ (⟨#[32, 61, 47, 32]⟩ : ByteArray)) ++ S) ++ (⟨#[10]⟩ : ByteArray) = strOf (lineT r) from fun e => by
    rw [hN, hS, show (⟨#[32, 61, 47, 32]⟩ : ByteArray) = strOf [32, 61, 47, 32] from rfl, show (⟨#[10]⟩ : ByteArray) = strOf [10] from rfl, str_app4, str_app4, str_app4]
    unfold lineT
    rw [e]
    rfl)
  obtain ⟨nm, mo, ⟨k, s, nv, lo, hi, kv⟩⟩ := y
  simp only [] at hn hm e1 e2
  have hn2 : nm = N := hn.trans hN.symm
  subst hn2 hm e1 e2
  obtain ⟨a0, a1, a2, a3, a4, a5, a6, a7⟩ := hL.cells
  unfold lobj LV.arr at hb a0 a1 a2 a3 a4 a5 a6 a7
  have HB := Lib.hid hb
  show Calls _ _ #[.agg #[.string nm, .bool r.more, .int .i64 k, .string s, .slice a m ca, .int .i64 lo, .int .i64 hi, .slice c n cc]] W _
  have g1 : (⟨#[32, 61, 32]⟩ : ByteArray).size = 3 := rfl
  have g2 : (⟨#[32, 61, 47, 32]⟩ : ByteArray).size = 4 := rfl
  have g3 : (⟨#[10]⟩ : ByteArray).size = 1 := rfl
  have d1 : ∀ W : World, (Op.stringOp .add nm ⟨#[32, 61, 32]⟩).run Tryd.prog W = .ok (.string (nm ++ ⟨#[32, 61, 32]⟩)) W := fun W => run_string_add_sum W _ _ (by omega)
  have d2 : ∀ W : World, (Op.stringOp .add (nm ++ ⟨#[32, 61, 32]⟩) S).run Tryd.prog W = .ok (.string ((nm ++ ⟨#[32, 61, 32]⟩) ++ S)) W := fun W => run_string_add_sum W _ _ (by rw [ByteArray.size_append]; omega)
  have d3 : ∀ W : World, (Op.stringOp .add ((nm ++ ⟨#[32, 61, 32]⟩) ++ S) ⟨#[10]⟩).run Tryd.prog W = .ok (.string (((nm ++ ⟨#[32, 61, 32]⟩) ++ S) ++ ⟨#[10]⟩)) W := fun W => run_string_add_sum W _ _ (by rw [ByteArray.size_append, ByteArray.size_append]; omega)
  have f1 : ∀ W : World, (Op.stringOp .add nm ⟨#[32, 61, 47, 32]⟩).run Tryd.prog W = .ok (.string (nm ++ ⟨#[32, 61, 47, 32]⟩)) W := fun W => run_string_add_sum W _ _ (by omega)
  have f2 : ∀ W : World, (Op.stringOp .add (nm ++ ⟨#[32, 61, 47, 32]⟩) S).run Tryd.prog W = .ok (.string ((nm ++ ⟨#[32, 61, 47, 32]⟩) ++ S)) W := fun W => run_string_add_sum W _ _ (by rw [ByteArray.size_append]; omega)
  have f3 : ∀ W : World, (Op.stringOp .add ((nm ++ ⟨#[32, 61, 47, 32]⟩) ++ S) ⟨#[10]⟩).run Tryd.prog W = .ok (.string (((nm ++ ⟨#[32, 61, 47, 32]⟩) ++ S) ++ ⟨#[10]⟩)) W := fun W => run_string_add_sum W _ _ (by rw [ByteArray.size_append, ByteArray.size_append]; omega)
  clear hb hL hc hl ht hS hN hn hr hT hlt hlen HTX g1 g2 g3
  cases hmo : r.more
  all_goals
    rw [hmo] at HF1 HF2 a0 a1 a2 a3 a4 a5 a6 a7 HB
    clear hmo
    go_enter Tryd.func17, Tryd.ntmps17
    go_wp2_with fail
    go_region_held3 (fun W' => (W'.cell? ⟨W.heap.size, 0, none⟩ = some (.string nm) ∧ W'.cell? ⟨W.heap.size, 2, none⟩ = some (.int .i64 k) ∧ W'.cell? ⟨W.heap.size, 3, none⟩ = some (.string s) ∧ W'.cell? ⟨W.heap.size, 4, none⟩ = some (.slice a m ca) ∧ W'.cell? ⟨W.heap.size, 5, none⟩ = some (.int .i64 lo) ∧ W'.cell? ⟨W.heap.size, 6, none⟩ = some (.int .i64 hi) ∧ W'.cell? ⟨W.heap.size, 7, none⟩ = some (.slice c n cc)) ∧ Below W.heap.size W W')
      (first | exact LnS.step (by assumption) (by assumption) | exact LnS.drew (by assumption) | exact ⟨⟨by assumption, by assumption, by assumption, by assumption, by assumption, by assumption, by assumption⟩, below_drawn HB.out 1⟩)
      (first | (go_at_call 30; refine (HTX2.out _ (And.right (by assumption))).mono ?_; rintro e w' ⟨rfl, hb'⟩))
    rename_i hS
    have HB2 := Lib.hid hS.2
    clear hS a0 a1 a2 a3 a4 a5 a6 a7
    go_wp2_with fail
    go_ret
    first
      | exact ⟨congrArg (fun u => Ending.returned (Value.string u)) (HF1.out (by simp)), HB2.out⟩
      | exact ⟨congrArg (fun u => Ending.returned (Value.string u)) (HF2.out (by simp)), HB2.out⟩

end Go.Proofs.YtfoohffeccgkeaaDoor
