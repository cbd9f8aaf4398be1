/- The library's DeleteFunc with the predicate of 'without', in place. No condition but size. -/
import Derived.Test.YtclnadjgbpihcaaGreatDoorClear
namespace Go.Proofs.YtclnadjgbpihcaaGreatDoor
open Go.RowKit Go.Lib
set_option linter.unusedVariables false
set_option linter.unusedSimpArgs false

theorem own_rowv {W : World} {base n g cap : Nat} {vs : List ReV} (h : W.ownsRow base 28 6 (.slice (some ⟨g, 0, none⟩) n cap) n (vs.flatMap ReV.cells)) : RowV W (fun _ => True) (some ⟨g, 0, none⟩) n cap vs := by
  have hl := h.1
  rw [flat6_len] at hl
  obtain ⟨r1, r2, r3, r4⟩ := row_base h
  have hc : Cells0 W g := by
    rcases h.2 with ⟨h2, _⟩ | ⟨g', cap', cur, hv, hb, hh, hc, hm, hsz, ht⟩
    · cases h2
    · obtain rfl : g = g' := by simp at hv; omega
      exact ⟨cur, _, by decide, hh⟩
  exact ⟨.inr ⟨g, 0, rfl, r2, r3, trivial, hc, fun j u hj => by rw [Nat.zero_add]; exact row_cell h hj⟩, by omega⟩
theorem grown_of {w w' : World} {r : Option Nat} (h : Below w.heap.size w w') : w.grownBy w' r := ⟨h.os, h.tape, h.output, h.size, fun k hk _ => h.block k hk⟩
theorem grown_setC {w W : World} {g : Nat} (h : w.grownBy W (some g)) (o : Nat) (v : Value) : w.grownBy (W.setCell ⟨g, o, none⟩ v) (some g) :=
  h.trans ⟨rfl, rfl, rfl, by simp [World.setCell], fun i _ hi => Below.heap_setCell _ _ _ _ (fun e => hi (by rw [e]))⟩
theorem grown_cells {w : World} {g : Nat} : ∀ (vs : List Value) (o : Nat) (W : World), w.grownBy W (some g) → w.grownBy (W.setCells g o vs) (some g)
  | [], _, _, h => h
  | v :: vs, o, W, h => grown_cells vs (o + 1) _ (grown_setC h o v)
theorem below_grownR {B g : Nat} {w w' : World} (h : w.grownBy w' (some g)) (hB : B ≤ w.heap.size) (hg : B ≤ g) : Below B w w' := ⟨h.os, h.tape, h.output, h.size, fun k hk => h.block k (by omega) (fun e => by cases e; omega)⟩
theorem below_cells {B b : Nat} {a : World} (hb : B ≤ b) : ∀ (vs : List Value) (o : Nat) (w : World), Below B a w → Below B a (w.setCells b o vs)
  | [], _, _, h => h
  | v :: vs, o, w, h => below_cells hb vs (o + 1) _ (h.setCell hb v)
def keepQ (kk : Int) (y : ReV) : Bool := !(y.kind == kk)
/-- How far it is: the kept ones of the first j stand ahead, what is behind is as it was. -/
structure DelAt (kk : Int) (vs : List ReV) (i j : Nat) (ys : List ReV) : Prop where
  len : ys.length = vs.length
  kept : ys.take i = (vs.take j).filter (keepQ kk)
  rest : ys.drop j = vs.drop j
theorem DelAt.start {kk : Int} {vs : List ReV} {i : Nat} {y : ReV} (hy : vs[i]? = some y) (hk : (y.kind == kk) = true) (hf : ∀ (j : Nat) (z : ReV), j < i → vs[j]? = some z → (z.kind == kk) = false) : DelAt kk vs i (i + 1) vs := by
  refine ⟨rfl, ?_, rfl⟩
  have e : vs.take (i + 1) = vs.take i ++ [y] := by rw [List.take_add_one, hy]; rfl
  rw [e, List.filter_append]
  have h1 : (vs.take i).filter (keepQ kk) = vs.take i := by
    rw [List.filter_eq_self]
    intro z hz
    obtain ⟨j, hj, e⟩ := List.getElem_of_mem hz
    rw [List.length_take] at hj
    have := hf j z (by omega) (by rw [← e, List.getElem_take]; exact List.getElem?_eq_getElem (by omega))
    unfold keepQ
    rw [this]
    rfl
  have h2 : [y].filter (keepQ kk) = [] := by simp [keepQ, hk]
  rw [h1, h2, List.append_nil]
theorem DelAt.skip {kk : Int} {vs ys : List ReV} {i j : Nat} {y : ReV} (h : DelAt kk vs i j ys) (hy : vs[j]? = some y) (hk : (y.kind == kk) = true) : DelAt kk vs i (j + 1) ys := by
  refine ⟨h.len, ?_, ?_⟩
  · have e : vs.take (j + 1) = vs.take j ++ [y] := by rw [List.take_add_one, hy]; rfl
    rw [e, List.filter_append, h.kept]
    simp [keepQ, hk]
  · have := congrArg (List.drop 1) h.rest
    simpa [List.drop_drop] using this
theorem DelAt.keep {kk : Int} {vs ys : List ReV} {i j : Nat} {y : ReV} (h : DelAt kk vs i j ys) (hij : i < j) (hj : j < vs.length) (hy : vs[j]? = some y) (hk : (y.kind == kk) = false) : DelAt kk vs (i + 1) (j + 1) (ys.set i y) := by
  have hl := h.len
  refine ⟨by rw [List.length_set]; exact hl, ?_, ?_⟩
  · have e : vs.take (j + 1) = vs.take j ++ [y] := by rw [List.take_add_one, hy]; rfl
    rw [e, List.filter_append, ← h.kept]
    have e2 : [y].filter (keepQ kk) = [y] := by simp [keepQ, hk]
    rw [e2, List.take_add_one, List.getElem?_set_self (by omega), List.take_set_of_le (Nat.le_refl _)]
    rfl
  · rw [List.drop_set_of_lt (by omega)]
    have := congrArg (List.drop 1) h.rest
    simpa [List.drop_drop] using this
theorem DelAt.at' {kk : Int} {vs ys : List ReV} {i j : Nat} (h : DelAt kk vs i j ys) : ys[j]? = vs[j]? := by
  have := congrArg (fun l => l[0]?) h.rest
  simpa [List.getElem?_drop] using this

set_option maxRecDepth 100000 in
set_option maxHeartbeats 8000000 in
theorem delete_any (w : World) (base g n cap B : Nat) (vs : List ReV) (kk : Int) (hO : w.ownsRow base 28 6 (.slice (some ⟨g, 0, none⟩) n cap) n (vs.flatMap ReV.cells))
    (hB : w.heap[B]? = some (.cells #[.int .i64 kk] 3 (0, 0))) (hBg : B ≠ g) (hbw : base ≤ w.heap.size) (hn : n ≤ 1000000000000) :
    Calls Tryz.prog 67 #[.slice (some ⟨g, 0, none⟩) n cap, .func (.func 68) #[] #[.pointer (some ⟨B, 0, none⟩)]] w fun e w' =>
      ∃ N, e = .returned (.slice (some ⟨g, 0, none⟩) N cap) ∧ w'.ownsRow base 28 6 (.slice (some ⟨g, 0, none⟩) N cap) N ((vs.filter (keepQ kk)).flatMap ReV.cells) ∧ w.grownBy w' (some g) := by
  have eg : ∀ args w, (callFunc 68 args).run Tryz.prog w = .ok (.enter 68 args) w := fun args w => Go.MuLone.run_callFunc_enter Tryz.func68 (by kernel_rfl) rfl args w
  have hcon := index_any 68 #[.pointer (some ⟨B, 0, none⟩)] eg (fun y => y.kind == kk) w (fun W x hW => without1_any W x B kk ((hW.block B (Array.getElem?_eq_some_iff.1 hB).1).trans hB)) (own_rowv hO) (by omega)
  obtain ⟨r1, r2, r3, r4⟩ := row_base hO
  unfold maxLen at r3
  have hvl : vs.length = n := by have := hO.1; rw [flat6_len] at this; omega
  have HO0 := Lib.hid hO
  have HBB := Lib.hid hB
  have HVL := Lib.hid hvl
  have EG := Lib.hid eg
  clear hO hB hvl eg
  go_enter Tryz.func67, Tryz.ntmps67
  go_wp2_with fail
  ((with_reducible refine hcon.mono ?_))
  rintro _ w1 ⟨r, rfl, hf, hb1⟩
  have HB1 : Hid (w.grownBy w1 (some g)) := grown_of hb1
  have HBB1 : Hid (w1.heap[B]? = some (.cells #[.int .i64 kk] 3 (0, 0))) := (hb1.block B (Array.getElem?_eq_some_iff.1 HBB.out).1).trans HBB.out
  have HO1 : Hid (w1.ownsRow base 28 6 (.slice (some ⟨g, 0, none⟩) n cap) n (vs.flatMap ReV.cells)) := own_at HO0.out (hb1.block g r4)
  clear hb1 hcon
  rcases hf with ⟨rfl, hf⟩ | ⟨i0, y0, rfl, hy0, hk0, hf⟩
  · have e : vs.filter (keepQ kk) = vs := by
      rw [List.filter_eq_self]
      intro z hz
      have h := hf z hz
      simp only [] at h
      unfold keepQ
      rw [h]
      rfl
    have HE := Lib.hid e
    clear e hf
    go_wp2
    go_ret
    refine ⟨n, rfl, ?_, HB1.out⟩
    rw [HE.out]
    exact HO1.out
  · have hi0 : i0 < n := by have := (List.getElem?_eq_some_iff.1 hy0).1; have := HVL.out; omega
    have HD0 := Lib.hid (DelAt.start hy0 hk0 hf)
    have hne : ((i0 : Int) == -1) = false := by simp <;> omega
    clear hy0 hk0 hf
    go_wp2
    go_loopg [5, 6] n (fun gk vi vj wr => ∃ (i j : Nat) (ys : List ReV), vi = .int .i64 (i : Int) ∧ vj = .int .i64 (j : Int) ∧ i < j ∧ j ≤ n ∧ n - j ≤ gk ∧ Hid (w.grownBy wr (some g)) ∧ Hid (wr.ownsRow base 28 6 (.slice (some ⟨g, 0, none⟩) n cap) n (ys.flatMap ReV.cells)) ∧ Hid (DelAt kk vs i j ys) ∧ Hid (wr.heap[B]? = some (.cells #[.int .i64 kk] 3 (0, 0))))
    case atStart => exact ⟨i0, i0 + 1, vs, rfl, rfl, Nat.lt_succ_self _, by omega, by omega, HB1.out, HO1.out, HD0.out, HBB1.out⟩
    case round =>
      obtain ⟨i, j, ys, rfl, rfl, hij, hj, hgk, HB, HO, HD, HBK⟩ := hrel
      by_cases hlt : j < n
      · have hltz : (j : Int) < (n : Int) := by omega
        obtain ⟨y, hy⟩ : ∃ y, vs[j]? = some y := ⟨_, List.getElem?_eq_getElem (by rw [HVL.out]; exact hlt)⟩
        have hyj := HD.out.at'.trans hy
        obtain ⟨z, hzi⟩ : ∃ z, ys[i]? = some z := ⟨_, List.getElem?_eq_getElem (by rw [HD.out.len, HVL.out]; omega)⟩
        have c0 := row_cell HO.out (j := j * 6) (u := .int .i64 y.kind) ((flat6_at ys j 0 y hyj (by decide)).trans rfl)
        have c1 := row_cell HO.out (j := j * 6 + 1) (u := .int .u64 y.a) ((flat6_at ys j 1 y hyj (by decide)).trans rfl)
        have c2 := row_cell HO.out (j := j * 6 + 2) (u := .int .u64 y.b) ((flat6_at ys j 2 y hyj (by decide)).trans rfl)
        have c3 := row_cell HO.out (j := j * 6 + 3) (u := .int .u64 y.c) ((flat6_at ys j 3 y hyj (by decide)).trans rfl)
        have c4 := row_cell HO.out (j := j * 6 + 4) (u := .int .u64 y.d) ((flat6_at ys j 4 y hyj (by decide)).trans rfl)
        have c5 := row_cell HO.out (j := j * 6 + 5) (u := .slice y.p y.n y.cap) ((flat6_at ys j 5 y hyj (by decide)).trans rfl)
        have hbk := (heap_alloc_old wr (.cells #[.int .i64 y.kind, .int .u64 y.a, .int .u64 y.b, .int .u64 y.c, .int .u64 y.d, .slice y.p y.n y.cap] 28) B (Array.getElem?_eq_some_iff.1 HBK.out).1).trans HBK.out
        have c9 := without1_any (wr.alloc (.cells #[.int .i64 y.kind, .int .u64 y.a, .int .u64 y.b, .int .u64 y.c, .int .u64 y.d, .slice y.p y.n y.cap] 28)) y B kk hbk
        obtain ⟨RR, hRR⟩ : ∃ RR, RR = (y.kind == kk) := ⟨_, rfl⟩
        rw [← hRR] at c9
        have c10 : Calls Tryz.prog 68 #[.agg #[.int .i64 y.kind, .int .u64 y.a, .int .u64 y.b, .int .u64 y.c, .int .u64 y.d, .slice y.p y.n y.cap], .pointer (some ⟨B, 0, none⟩)] (wr.alloc (.cells #[.int .i64 y.kind, .int .u64 y.a, .int .u64 y.b, .int .u64 y.c, .int .u64 y.d, .slice y.p y.n y.cap] 28)) (GivesBool RR (wr.alloc (.cells #[.int .i64 y.kind, .int .u64 y.a, .int .u64 y.b, .int .u64 y.c, .int .u64 y.d, .slice y.p y.n y.cap] 28))) := c9
        clear c9
        have HRR := Lib.hid hRR
        have HY := Lib.hid hy
        have HBK1 := Lib.hid hbk
        clear hRR hy hbk
        go_wp2_with fail
        ((with_reducible refine c10.mono ?_))
        rintro _ w2 ⟨rfl, hb2⟩
        have hb3 : Below wr.heap.size wr w2 := ((Below.refl _ _).alloc (Nat.le_refl _) _).trans (hb2.mono (by simp))
        have h2B : w2.heap[wr.heap.size]? = some (.cells #[.int .i64 y.kind, .int .u64 y.a, .int .u64 y.b, .int .u64 y.c, .int .u64 y.d, .slice y.p y.n y.cap] 28 (0, 0)) := (hb2.block _ (by simp)).trans (heap_alloc_new _ _)
        have hgl : g < wr.heap.size := (row_base HO.out).2.2.2
        have HO2 : Hid (w2.ownsRow base 28 6 (.slice (some ⟨g, 0, none⟩) n cap) n (ys.flatMap ReV.cells)) := own_at HO.out (hb3.block g hgl)
        have HBW : Hid (w.grownBy w2 (some g)) := HB.out.trans (grown_of hb3)
        have HBK2 : Hid (w2.heap[B]? = some (.cells #[.int .i64 kk] 3 (0, 0))) := (hb2.block B (Array.getElem?_eq_some_iff.1 HBK1.out).1).trans HBK1.out
        have b0 : w2.cell? ⟨wr.heap.size, 0, none⟩ = some (.int .i64 y.kind) := by simp [World.cell?, h2B]
        have b1 : w2.cell? ⟨wr.heap.size, 1, none⟩ = some (.int .u64 y.a) := by simp [World.cell?, h2B]
        have b2 : w2.cell? ⟨wr.heap.size, 2, none⟩ = some (.int .u64 y.b) := by simp [World.cell?, h2B]
        have b3 : w2.cell? ⟨wr.heap.size, 3, none⟩ = some (.int .u64 y.c) := by simp [World.cell?, h2B]
        have b4 : w2.cell? ⟨wr.heap.size, 4, none⟩ = some (.int .u64 y.d) := by simp [World.cell?, h2B]
        have b5 : w2.cell? ⟨wr.heap.size, 5, none⟩ = some (.slice y.p y.n y.cap) := by simp [World.cell?, h2B]
        have d0 := row_cell HO2.out (j := i * 6) (u := .int .i64 z.kind) ((flat6_at ys i 0 z hzi (by decide)).trans rfl)
        have d1 := row_cell HO2.out (j := i * 6 + 1) (u := .int .u64 z.a) ((flat6_at ys i 1 z hzi (by decide)).trans rfl)
        have d2 := row_cell HO2.out (j := i * 6 + 2) (u := .int .u64 z.b) ((flat6_at ys i 2 z hzi (by decide)).trans rfl)
        have d3 := row_cell HO2.out (j := i * 6 + 3) (u := .int .u64 z.c) ((flat6_at ys i 3 z hzi (by decide)).trans rfl)
        have d4 := row_cell HO2.out (j := i * 6 + 4) (u := .int .u64 z.d) ((flat6_at ys i 4 z hzi (by decide)).trans rfl)
        have d5 := row_cell HO2.out (j := i * 6 + 5) (u := .slice z.p z.n z.cap) ((flat6_at ys i 5 z hzi (by decide)).trans rfl)
        have f0 := own_frozenR HO2.out (i * 6)
        have f1 := own_frozenR HO2.out (i * 6 + 1)
        have f2 := own_frozenR HO2.out (i * 6 + 2)
        have f3 := own_frozenR HO2.out (i * 6 + 3)
        have f4 := own_frozenR HO2.out (i * 6 + 4)
        have f5 := own_frozenR HO2.out (i * 6 + 5)
        clear c0 c1 c2 c3 c4 c5 c10 hb2 hb3 h2B
        cases RR with
        | true =>
          go_wp2
          go_roundg (n - (j + 1))
          case measure => omega
          case rel => exact ⟨i, j + 1, ys, rfl, by go_num, by omega, by omega, Nat.le_refl _, HBW, HO2, HD.out.skip HY.out HRR.out.symm, HBK2⟩
        | false =>
          have HOS : Hid ((((((((w2).setCell ⟨g, i * 6, none⟩ (.int .i64 y.kind)).setCell ⟨g, i * 6 + 1, none⟩ (.int .u64 y.a)).setCell ⟨g, i * 6 + 2, none⟩ (.int .u64 y.b)).setCell ⟨g, i * 6 + 3, none⟩ (.int .u64 y.c)).setCell ⟨g, i * 6 + 4, none⟩ (.int .u64 y.d)).setCell ⟨g, i * 6 + 5, none⟩ (.slice y.p y.n y.cap)).ownsRow base 28 6 (.slice (some ⟨g, 0, none⟩) n cap) n ((ys.set i y).flatMap ReV.cells)) := by
            unfold Hid
            rw [← flat6_set ys i y (by rw [HD.out.len, HVL.out]; omega)]
            exact own_set5r (own_set5r (own_set5r (own_set5r (own_set5r (own_set5r HO2.out _ _) _ _) _ _) _ _) _ _) _ _
          have HBS : Hid (w.grownBy (((((((w2).setCell ⟨g, i * 6, none⟩ (.int .i64 y.kind)).setCell ⟨g, i * 6 + 1, none⟩ (.int .u64 y.a)).setCell ⟨g, i * 6 + 2, none⟩ (.int .u64 y.b)).setCell ⟨g, i * 6 + 3, none⟩ (.int .u64 y.c)).setCell ⟨g, i * 6 + 4, none⟩ (.int .u64 y.d)).setCell ⟨g, i * 6 + 5, none⟩ (.slice y.p y.n y.cap)) (some g)) := grown_setC (grown_setC (grown_setC (grown_setC (grown_setC (grown_setC HBW.out _ _) _ _) _ _) _ _) _ _) _ _
          have HBK3 : Hid ((((((((w2).setCell ⟨g, i * 6, none⟩ (.int .i64 y.kind)).setCell ⟨g, i * 6 + 1, none⟩ (.int .u64 y.a)).setCell ⟨g, i * 6 + 2, none⟩ (.int .u64 y.b)).setCell ⟨g, i * 6 + 3, none⟩ (.int .u64 y.c)).setCell ⟨g, i * 6 + 4, none⟩ (.int .u64 y.d)).setCell ⟨g, i * 6 + 5, none⟩ (.slice y.p y.n y.cap)).heap[B]? = some (.cells #[.int .i64 kk] 3 (0, 0))) := by
            unfold Hid
            rw [heap_set_ne _ _ _ (by exact hBg), heap_set_ne _ _ _ (by exact hBg), heap_set_ne _ _ _ (by exact hBg), heap_set_ne _ _ _ (by exact hBg), heap_set_ne _ _ _ (by exact hBg), heap_set_ne _ _ _ (by exact hBg)]
            exact HBK2.out
          have hin : i < n := by omega
          have hinz : (i : Int) < (n : Int) := by omega
          go_wp2
          go_roundg (n - (j + 1))
          case measure => omega
          case rel => exact ⟨i + 1, j + 1, ys.set i y, by go_num, by go_num, by omega, by omega, Nat.le_refl _, HBS, HOS, HD.out.keep hij (by rw [HVL.out]; exact hlt) HY.out HRR.out.symm, HBK3⟩
      · have hltz : ¬ (j : Int) < (n : Int) := by omega
        obtain rfl : j = n := by omega
        have hclr : ∀ ty, (Builtin.clear_ #[26] ty #[.slice (some ⟨g, i * 6, none⟩) (j - i) (cap - i)]).run Tryz.prog wr = .ok (.tuple #[]) (wr.setCells g (i * 6) (Builtin.zeroCells zero6 (j - i)).toList) := by
          intro ty
          refine run_clear6 wr ty g (i * 6) (j - i) (cap - i) (by omega) (fun t ht => ?_) (fun t ht => own_frozenR HO.out _)
          have hlen : (ys.flatMap ReV.cells).length = j * 6 := HO.out.1
          rw [row_cell HO.out (List.getElem?_eq_getElem (by rw [hlen]; omega))]
          rfl
        have HFIN : Hid ((wr.setCells g (i * 6) (Builtin.zeroCells zero6 (j - i)).toList).ownsRow base 28 6 (.slice (some ⟨g, 0, none⟩) i cap) i ((vs.filter (keepQ kk)).flatMap ReV.cells)) := by
          have h1 := own_less HO.out (m := i) (by omega)
          rw [← flat6_take, HD.out.kept, List.take_of_length_le (by rw [HVL.out]; exact Nat.le_refl _)] at h1
          exact own_cells_out _ _ _ (by have := h1.1; omega) h1
        have HBF : Hid (w.grownBy (wr.setCells g (i * 6) (Builtin.zeroCells zero6 (j - i)).toList) (some g)) := grown_cells _ _ _ HB.out
        obtain ⟨W9, hW9⟩ : ∃ W9, W9 = wr.setCells g (i * 6) (Builtin.zeroCells zero6 (j - i)).toList := ⟨_, rfl⟩
        rw [← hW9] at HFIN HBF
        simp only [← hW9] at hclr
        clear hW9
        have hcz : i < cap := by omega
        go_wp2
        go_ret
        exact ⟨i, rfl, HFIN.out, HBF.out⟩

end Go.Proofs.YtclnadjgbpihcaaGreatDoor

