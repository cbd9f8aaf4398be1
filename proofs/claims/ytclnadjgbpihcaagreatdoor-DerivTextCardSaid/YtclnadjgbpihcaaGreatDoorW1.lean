/- Joined texts; each begins with what it says. -/
import Derived.Test.YtclnadjgbpihcaaGreatDoorW0
import Derived.Test.YtclnadjgbpihcaaGreatDoorReMem
import Derived.Deep.AppendLies
import Derived.Deep.RegionLaw
import Derived.Deep.CutBlock
import Derived.Test.YtclnadjgbpihcaaGreatDoorEvery
import Derived.Test.YtclnadjgbpihcaaGreatDoorMake
/-! What is left of a Star. No condition but size. -/
namespace Go.Proofs.YtclnadjgbpihcaaGreatDoor
open Go.RowKit Go.Lib
set_option linter.unusedVariables false
set_option linter.unusedSimpArgs false

theorem two_kids {W : World} {P : Nat → Prop} {B : Nat} {x y : ReV} {t u : RT} (hP : P B) (hh : W.heap[B]? = some (.cells (x.cells ++ y.cells).toArray 28 (0, 0))) (hx : RAt W P x t) (hy : RAt W P y u) : KidsR W P (some ⟨B, 0, none⟩) 2 2 [x, y] [t, u] := by
  refine ⟨.inr ⟨B, 0, rfl, Nat.le_refl _, by decide, hP, ⟨_, _, by decide, hh⟩, fun j v hj => ?_⟩, rfl, rfl, fun i z v hz hv => ?_⟩
  · rw [Nat.zero_add]
    simp only [World.cell?, hh]
    have e : [x, y].flatMap ReV.cells = x.cells ++ y.cells := by simp
    rw [e] at hj
    simpa using hj
  · match i with
    | 0 => simp at hz hv; subst hz hv; exact hx
    | 1 => simp at hz hv; subst hz hv; exact hy
    | i + 2 => simp at hz

theorem zero_facts {W : World} {D : Nat} (h : W.heap[D]? = some (.cells #[.int .i64 0, .int .u64 0, .int .u64 0, .int .u64 0, .int .u64 0, .slice none 0 0] 28 (0, 0))) :
    (W.cell? ⟨D, 0, none⟩ = some (.int .i64 0) ∧ W.cell? ⟨D, 1, none⟩ = some (.int .u64 0) ∧ W.cell? ⟨D, 2, none⟩ = some (.int .u64 0) ∧ W.cell? ⟨D, 3, none⟩ = some (.int .u64 0) ∧ W.cell? ⟨D, 4, none⟩ = some (.int .u64 0) ∧ W.cell? ⟨D, 5, none⟩ = some (.slice none 0 0)) ∧
    (W.frozen? ⟨D, 0, none⟩ = false ∧ W.frozen? ⟨D, 1, none⟩ = false ∧ W.frozen? ⟨D, 2, none⟩ = false ∧ W.frozen? ⟨D, 3, none⟩ = false ∧ W.frozen? ⟨D, 4, none⟩ = false ∧ W.frozen? ⟨D, 5, none⟩ = false) :=
  ⟨⟨by simp [World.cell?, h], by simp [World.cell?, h], by simp [World.cell?, h], by simp [World.cell?, h], by simp [World.cell?, h], by simp [World.cell?, h]⟩, frozen_no h 0, frozen_no h 1, frozen_no h 2, frozen_no h 3, frozen_no h 4, frozen_no h 5⟩

set_option maxRecDepth 100000 in
set_option maxHeartbeats 8000000 in
theorem ofstar_any {P : Nat → Prop} (w : World) (b o : Nat) (x : ReV) (t : RT) (hp : PlaceR w b o x) (ht : RAt w P x t) {p : Option Addr} {cap : Nat} {us : List FV} {r : RT × Bool} (h : FactsR w P p 1 cap us [r]) (hsz : r.1.sz + t.sz ≤ 9000000000) :
    Calls Tryz.prog 45 #[.pointer (some ⟨b, o, none⟩), .slice p 1 cap] w (GivesRe (fun g => P g ∨ w.heap.size ≤ g) (catM [r.1, t]) w) := by
  obtain ⟨R, hR⟩ : ∃ R, R = catM [r.1, t] := ⟨_, rfl⟩
  rw [← hR]
  have HRE := Lib.hid hR
  clear hR
  obtain ⟨g, off, rfl⟩ := h.rowf.some_of (i := 0) (by omega)
  obtain ⟨y, hy⟩ : ∃ y, us[0]? = some y := ⟨_, List.getElem?_eq_getElem (by rw [h.len]; simp)⟩
  have hra := (h.each 0 y r hy rfl).1
  obtain ⟨D, hD⟩ : ∃ D, D = w.heap.size := ⟨_, rfl⟩
  have hb1 : Below w.heap.size w (w.alloc (.cells #[.int .i64 0, .int .u64 0, .int .u64 0, .int .u64 0, .int .u64 0, .slice none 0 0] 28)) := (Below.refl _ _).alloc (Nat.le_refl _) _
  obtain ⟨a0, a1, a2, a3, a4, a5, a6⟩ := (h.rowf.under hb1).seven hy
  rw [show off + 0 * 7 = off by omega] at a0 a1 a2 a3 a4 a5
  obtain ⟨b0, b1, b2, b3, b4, b5⟩ := (hp.under hb1).six
  obtain ⟨⟨k, c0, c1, c2, c3, q, m, cp⟩, nb⟩ := y
  obtain ⟨k', d0, d1, d2, d3, q', m', cp'⟩ := x
  simp only at a0 a1 a2 a3 a4 a5 a6 b0 b1 b2 b3 b4 b5
  have HRA := Lib.hid hra
  have HT := Lib.hid ht
  have HSZ := Lib.hid hsz
  have HDD := Lib.hid hD
  obtain ⟨W2, hW2⟩ : ∃ W2 : World, W2 = ((w.alloc (.cells #[.int .i64 0, .int .u64 0, .int .u64 0, .int .u64 0, .int .u64 0, .slice none 0 0] 28)).alloc (.cells #[.int .i64 k, .int .u64 c0, .int .u64 c1, .int .u64 c2, .int .u64 c3, .slice q m cp, .int .i64 k', .int .u64 d0, .int .u64 d1, .int .u64 d2, .int .u64 d3, .slice q' m' cp'] 28)).drew := ⟨_, rfl⟩
  have hb2 : Below w.heap.size w W2 := by rw [hW2]; exact below_drawn (((Below.refl _ _).alloc (Nat.le_refl _) _).alloc (by simp) _) 1
  have h2D : W2.heap[D]? = some (.cells #[.int .i64 0, .int .u64 0, .int .u64 0, .int .u64 0, .int .u64 0, .slice none 0 0] 28 (0, 0)) := by
    rw [hW2, hD]
    exact (@heap_alloc_old _ _ _ (by simp)).trans (heap_alloc_new _ _)
  have h2B : W2.heap[w.heap.size + 1]? = some (.cells (ReV.cells ⟨k, c0, c1, c2, c3, q, m, cp⟩ ++ ReV.cells ⟨k', d0, d1, d2, d3, q', m', cp'⟩).toArray 28 (0, 0)) := by
    rw [hW2]
    have := heap_alloc_new (w.alloc (.cells #[.int .i64 0, .int .u64 0, .int .u64 0, .int .u64 0, .int .u64 0, .slice none 0 0] 28)) (.cells #[.int .i64 k, .int .u64 c0, .int .u64 c1, .int .u64 c2, .int .u64 c3, .slice q m cp, .int .i64 k', .int .u64 d0, .int .u64 d1, .int .u64 d2, .int .u64 d3, .slice q' m' cp'] 28)
    rw [show (w.alloc (.cells #[.int .i64 0, .int .u64 0, .int .u64 0, .int .u64 0, .int .u64 0, .slice none 0 0] 28)).heap.size = w.heap.size + 1 by simp] at this
    exact this
  have hkr : KidsR W2 (fun g => (P g ∧ g < w.heap.size) ∨ w.heap.size < g) (some ⟨w.heap.size + 1, 0, none⟩) 2 2 [⟨k, c0, c1, c2, c3, q, m, cp⟩, ⟨k', d0, d1, d2, d3, q', m', cp'⟩] [r.1, t] :=
    two_kids (.inr (by omega)) h2B (((hra.weak fun g hg hl => (⟨hg, hl⟩ : P g ∧ g < w.heap.size)).under hb2).weak fun g hg _ => .inl hg) (((ht.weak fun g hg hl => (⟨hg, hl⟩ : P g ∧ g < w.heap.size)).under hb2).weak fun g hg _ => .inl hg)
  have con := cat_any W2 hkr (by simp; exact hsz)
  rw [← HRE.out] at con
  have h2D' := h2D
  rw [hW2] at con
  have HB2 := Lib.hid hb2
  have H2D := Lib.hid h2D
  have HW2 := Lib.hid hW2
  clear h hra ht hsz hp hb1 hb2 h2D h2B hkr hW2 hy a6 h2D'
  have hDw := hD
  clear hD
  go_enter Tryz.func45, Tryz.ntmps45
  go_wp2_with fail
  have HDN : Hid (∀ (w6 : World), Below W2.heap.size W2 w6 → w6.heap[w.heap.size]? = some (.cells #[.int .i64 0, .int .u64 0, .int .u64 0, .int .u64 0, .int .u64 0, .slice none 0 0] 28 (0, 0))) := fun w6 hb => by
    have h := H2D.out
    rw [hDw] at h
    exact (hb.block _ (Array.getElem?_eq_some_iff.1 h).1).trans h
  have HDN' := HDN.out
  rw [HW2.out] at HDN'
  have HDNH := Lib.hid HDN'
  clear HDN' HDN hDw
  go_region_law (first | (go_simp; go_at_call 55; (with_reducible (refine con.mono ?_)); rintro _ w6 ⟨x6, rfl, hx6, hb6⟩; obtain ⟨e0, e1, e2, e3, e4, q6, m6, cp6⟩ := x6; unfold ReV.val; have h6 := HDNH.out w6 hb6; obtain ⟨⟨z0, z1, z2, z3, z4, z5⟩, y0, y1, y2, y3, y4, y5⟩ := zero_facts h6; have HX6 := Lib.hid hx6; have HB6 := Lib.hid hb6; have H6 := Lib.hid h6; clear hx6 hb6 h6) | fail)
  all_goals go_wp2
  all_goals
    refine bodyPost_ret_by (results_cell_row rfl _ _ w.heap.size 28 #[.int .i64 e0, .int .u64 e1, .int .u64 e2, .int .u64 e3, .int .u64 e4, .slice q6 m6 cp6] (0, 0) _ rfl (set6_heap H6.out _ _ _ _ _ _) Tryz.underlying28 rfl (by kernel_rfl)) rfl ?_
    have hx := HX6.out
    have hb := HB6.out
    rw [← HW2.out] at hx hb
    have hall : Below w.heap.size w w6 := HB2.out.trans (hb.mono HB2.out.size)
    have hdone : Below w.heap.size w ((((((w6.setCell ⟨w.heap.size, 0, none⟩ (.int .i64 e0)).setCell ⟨w.heap.size, 1, none⟩ (.int .u64 e1)).setCell ⟨w.heap.size, 2, none⟩ (.int .u64 e2)).setCell ⟨w.heap.size, 3, none⟩ (.int .u64 e3)).setCell ⟨w.heap.size, 4, none⟩ (.int .u64 e4)).setCell ⟨w.heap.size, 5, none⟩ (.slice q6 m6 cp6)) := six_set hall (Nat.le_refl _) _ _ _ _ _ _
    refine ⟨⟨e0, e1, e2, e3, e4, q6, m6, cp6⟩, rfl, ?_, by first | exact hdone | exact below_drawn hdone 1⟩
    have hk := hx.kept (W' := ((((((w6.setCell ⟨w.heap.size, 0, none⟩ (.int .i64 e0)).setCell ⟨w.heap.size, 1, none⟩ (.int .u64 e1)).setCell ⟨w.heap.size, 2, none⟩ (.int .u64 e2)).setCell ⟨w.heap.size, 3, none⟩ (.int .u64 e3)).setCell ⟨w.heap.size, 4, none⟩ (.int .u64 e4)).setCell ⟨w.heap.size, 5, none⟩ (.slice q6 m6 cp6))) (P' := fun g => P g ∨ w.heap.size ≤ g) (Keeps.of (by simp [World.setCell]) fun b hp hl => ?_)
    · first | exact hk | exact hk.kept (Keeps.of (Nat.le_refl _) fun b hp hl => ⟨rfl, hp⟩)
    · have h2 := HB2.out.size
      have h3 : w.heap.size < W2.heap.size := by rw [HW2.out]; show w.heap.size < (((w.alloc _).alloc _).drew).heap.size; (first | (simp; done) | (simp; omega))
      have hbD : b ≠ w.heap.size := by rcases hp with (⟨_, hp⟩ | hp) | hp <;> omega
      refine ⟨six_ne hbD _ _ _ _ _ _, ?_⟩
      rcases hp with (⟨hp, _⟩ | hp) | hp
      · exact .inl hp
      · exact .inr (by omega)
      · exact .inr (by omega)

set_option maxRecDepth 100000 in
set_option maxHeartbeats 4000000 in
theorem ofstar_none {P : Nat → Prop} (w : World) (b o : Nat) (p : Option Addr) (cap : Nat) :
    Calls Tryz.prog 45 #[.pointer (some ⟨b, o, none⟩), .slice p 0 cap] w (GivesRe P noneM w) := by
  go_enter Tryz.func45, Tryz.ntmps45
  go_wp2
  refine bodyPost_ret_by (results_cell_row rfl _ _ w.heap.size 28 #[.int .i64 0, .int .u64 0, .int .u64 0, .int .u64 0, .int .u64 0, .slice none 0 0] (0, 0) _ rfl (heap_alloc_new w _) Tryz.underlying28 rfl (by kernel_rfl)) rfl ?_
  exact ⟨⟨0, 0, 0, 0, 0, none, 0, 0⟩, rfl, kids_empty.tree 0 W4.zero zero_ok, (Below.refl _ _).alloc (Nat.le_refl _) _⟩

end Go.Proofs.YtclnadjgbpihcaaGreatDoor

/-! A row of expressions cut in two: both pieces are rows of expressions. No condition. -/
namespace Go.Proofs.YtclnadjgbpihcaaGreatDoor
open Go.RowKit Go.Lib
set_option linter.unusedVariables false

theorem flat6_pre {vs : List ReV} {k j : Nat} {u : Value} (h : ((vs.take k).flatMap ReV.cells)[j]? = some u) : (vs.flatMap ReV.cells)[j]? = some u := by
  have e : vs.flatMap ReV.cells = (vs.take k).flatMap ReV.cells ++ (vs.drop k).flatMap ReV.cells := by rw [← List.flatMap_append, List.take_append_drop]
  rw [e, List.getElem?_append_left (List.getElem?_eq_some_iff.1 h).1]
  exact h
theorem flat6_post {vs : List ReV} {k j : Nat} {u : Value} (hk : k ≤ vs.length) (h : ((vs.drop k).flatMap ReV.cells)[j]? = some u) : (vs.flatMap ReV.cells)[k * 6 + j]? = some u := by
  have e : vs.flatMap ReV.cells = (vs.take k).flatMap ReV.cells ++ (vs.drop k).flatMap ReV.cells := by rw [← List.flatMap_append, List.take_append_drop]
  have hl : ((vs.take k).flatMap ReV.cells).length = k * 6 := by rw [flat6_len, List.length_take, Nat.min_eq_left hk]
  rw [e, List.getElem?_append_right (by rw [hl]; omega), hl, show k * 6 + j - k * 6 = j by omega]
  exact h
theorem KidsR.takeK {W : World} {P : Nat → Prop} {g off n cap : Nat} {vs : List ReV} {l : List RT} (h : KidsR W P (some ⟨g, off, none⟩) n cap vs l) {k : Nat} (hk : k ≤ n) : KidsR W P (some ⟨g, off, none⟩) k cap (vs.take k) (l.take k) := by
  have hn := h.num
  have hl := h.len
  refine ⟨?_, by rw [List.length_take]; omega, by rw [List.length_take, List.length_take]; omega, fun i y t hy ht => ?_⟩
  · rcases h.row with ⟨h0, h1⟩ | ⟨g', off', e, h1, h2, h3, h4, h5⟩
    · exact .inl ⟨by omega, h1⟩
    · exact .inr ⟨g', off', e, by omega, h2, h3, h4, fun j u hj => h5 j u (flat6_pre hj)⟩
  · rw [List.getElem?_take] at hy ht
    split at hy
    · rename_i hik
      rw [if_pos hik] at ht
      exact h.each i y t hy ht
    · cases hy
theorem KidsR.dropK {W : World} {P : Nat → Prop} {g off n cap : Nat} {vs : List ReV} {l : List RT} (h : KidsR W P (some ⟨g, off, none⟩) n cap vs l) {k : Nat} (hk : k < n) : KidsR W P (some ⟨g, off + k * 6, none⟩) (n - k) (cap - k) (vs.drop k) (l.drop k) := by
  have hn := h.num
  have hl := h.len
  refine ⟨?_, by rw [List.length_drop]; omega, by rw [List.length_drop, List.length_drop]; omega, fun i y t hy ht => ?_⟩
  · rcases h.row with ⟨h0, h1⟩ | ⟨g', off', e, h1, h2, h3, h4, h5⟩
    · omega
    · obtain ⟨rfl, rfl⟩ : g = g' ∧ off = off' := by simp at e; exact e
      exact .inr ⟨g, off + k * 6, rfl, by omega, by omega, h3, h4, fun j u hj => by
        rw [Nat.add_assoc]
        exact h5 _ u (flat6_post (by omega) hj)⟩
  · rw [List.getElem?_drop] at hy ht
    exact h.each _ y t hy ht

end Go.Proofs.YtclnadjgbpihcaaGreatDoor

/-! What is left of a Cat. No condition but the library's table and size. -/
namespace Go.Proofs.YtclnadjgbpihcaaGreatDoor
open Go.RowKit Go.Lib
set_option linter.unusedVariables false
set_option linter.unusedSimpArgs false

/-- An append, at a step of a region that draws its order, onto what is not empty or of what is not. -/
theorem step_append_any {w : World} {ops : Array Oper} {o : Oper} {a : Act} {K : Act → World → Prop} {Q : Exit → Act → World → Prop} {E : Prop} (hgd : o.guard = none) (s x : Operand) (t : TypeId)
    (ho : o.op = .call { callee := .builtin .append, args := #[s, x], argTypes := #[t, t] })
    (base : Nat) (e : TypeId) (i : TypeInfo) (z : Value) (size bytes : Nat) (ht : Tryz.prog.underlying t = some (.slice e)) (hi : Tryz.prog.info? e = some i) (hz : i.zero = some z)
    (hsize : i.size = size) (hby : i.bytes = bytes) (hzs : z.cells.size = size) (hsz : 0 < size)
    (v : Value) (n : Nat) (xs : List Value) (hs : a.eval s = v) (hown : w.ownsRow base e size v n xs)
    (ad : Addr) (m c : Nat) (news : List Value) (hx : a.eval x = .slice (some ad) m c) (hl : news.length = m * size) (hnews : ∀ j u, news[j]? = some u → w.cell? (ad.add j) = some u) (h1 : ∀ u ∈ news, u.oneCell' = true)
    (hm : 0 < n + m) (h63 : n + m ≤ maxLen) (hbytes : (n + m) * bytes ≤ 140737488355328) (hbase : base ≤ w.heap.size) (H : Nat) (hH : w.heap.size = H)
    (h : ∀ g cap w', w'.ownsRow base e size (.slice (some ⟨g, 0, none⟩) (n + m) cap) (n + m) (xs ++ news) → w.grownBy w' v.ownBlock → (v.ownBlock = some g ∨ g = H) → g < w'.heap.size → K (a.put o.dst (.slice (some ⟨g, 0, none⟩) (n + m) cap)) w') :
    if Region.wanted o (yielded ops a.tmps) = true then Oper.wp Tryz.prog o a w K Q else E := by
  have hw : Region.wanted o (yielded ops a.tmps) = true := by simp [Region.wanted, hgd]
  rw [if_pos hw]
  obtain ⟨v', w', hr, h2, h3, _, h5⟩ := run_append_own_at (P := Tryz.prog) w base t o.type e i z size bytes ht hi hz hsize hby hzs hsz v n xs hown ad m c news hl hnews h1 h63 hbytes hbase
  obtain ⟨g, cap, rfl⟩ := (row_forms h2).resolve_left (fun h => by omega)
  have hg : g < w'.heap.size := (row_base h2).2.2.2
  have h6 : v.ownBlock = some g ∨ g = H := by
    rcases h5 with h5 | h5
    · exact .inl (by rw [← h5]; rfl)
    · exact .inr (by have : g = w.heap.size := by simpa [Value.ownBlock] using h5
                     rw [this, hH])
  unfold Oper.wp execOp
  simp only [ho, resolve, invoke, builtin, Sem.run_bind, Sem.run_pure, Result.andThen_ok, List.map_toArray, List.map_cons, List.map_nil, hs, hx, hr]
  exact h g cap w' h2 h3 h6 hg

/-! ### the Cats -/
def catAt (kids : List RT) (l : List RT) (j : Nat) : List RT := if (l.getD j noneM).kind = 0 then [] else [catM (l.getD j noneM :: kids.drop (j + 1))]
def catTo (kids l : List RT) (i : Nat) : List RT := (List.range i).flatMap (catAt kids l)
theorem catTo_succ (kids l : List RT) (i : Nat) : catTo kids l (i + 1) = catTo kids l i ++ catAt kids l i := by
  unfold catTo
  rw [List.range_succ, List.flatMap_append]
  simp
theorem catTo_len (kids l : List RT) : ∀ i, (catTo kids l i).length ≤ i
  | 0 => by simp [catTo]
  | i + 1 => by
    have := catTo_len kids l i
    rw [catTo_succ, List.length_append]
    unfold catAt
    split <;> simp <;> omega
/-- None is nothing in an Either. -/
theorem either_nz (l : List RT) : eitherM l = eitherM (l.filter fun t => !(t.kind == 0)) := by
  have hf : ∀ l : List RT, (flatM 4 l).filter (fun t => !(t.kind == 0)) = (flatM 4 (l.filter fun t => !(t.kind == 0))).filter fun t => !(t.kind == 0) := by
    intro l
    induction l with
    | nil => rfl
    | cons a l ih =>
      have e : ∀ l, flatM 4 (a :: l) = (if a.kind = 4 then a.kids else [a]) ++ flatM 4 l := fun l => by simp [flatM]
      rw [e, List.filter_append, ih, List.filter_cons]
      by_cases h : a.kind = 0
      · simp [h]
      · have h0 : (!(a.kind == 0)) = true := by simp [h]
        rw [if_pos h0, e, List.filter_append]
  have hu : ∀ F : List RT, unionM F = unionM (F.filter fun t => !(t.kind == 0)) := by
    intro F
    unfold unionM
    refine of_congr fun b _ => ?_
    rw [List.any_filter]
    congr 1
    funext t
    by_cases h : t.kind = 2
    · simp [h]
    · simp [h]
  have ho : ∀ F : List RT, othersM F = othersM (F.filter fun t => !(t.kind == 0)) := by
    intro F
    unfold othersM
    rw [List.filter_filter]
    congr 1
    funext t
    by_cases h : t.kind = 0 <;> simp [h]
  have hb : ∀ F : List RT, byteM F = byteM (F.filter fun t => !(t.kind == 0)) := by
    intro F
    unfold byteM
    rw [← hu]
  unfold eitherM
  rw [hb (flatM 4 l), ho (flatM 4 l), hf l, ← hb, ← ho]
theorem cat_none {d : RT} (h : d.kind = 0) (l : List RT) : catM (d :: l) = noneM := by
  unfold catM
  rw [if_pos]
  have e : flatM 3 (d :: l) = (if d.kind = 3 then d.kids else [d]) ++ flatM 3 l := by simp [flatM]
  rw [e, if_neg (by omega)]
  simp [h]
/-- The needed kids: up to the first that does not derive the empty text. -/
def needed : List RT → List RT
  | [] => []
  | k :: l => k :: (if nullM k then needed l else [])
theorem cats_needed (b : Nat) (kids : List RT) : (catsM (kids.map fun x => (x, derivM b x))).filter (fun t => !(t.kind == 0)) = (catTo kids ((needed kids).map (derivM b)) (needed kids).length).filter fun t => !(t.kind == 0) := by
  have shift : ∀ (k : RT) (kids l : List RT) (d : RT) (i : Nat), catTo (k :: kids) (d :: l) (i + 1) = catAt (k :: kids) (d :: l) 0 ++ catTo kids l i := by
    intro k kids l d i
    induction i with
    | zero => rw [catTo_succ]; simp [catTo]
    | succ i ih =>
      rw [catTo_succ, ih, catTo_succ, List.append_assoc]
      rfl
  induction kids with
  | nil => rfl
  | cons k kids ih =>
    have e1 : (kids.map fun x => (x, derivM b x)).map Prod.fst = kids := by rw [List.map_map]; exact List.map_id' kids
    rw [List.map_cons, catsM, e1, needed, List.map_cons, List.length_cons, shift]
    have e2 : (catAt (k :: kids) (derivM b k :: (if nullM k = true then needed kids else []).map (derivM b)) 0).filter (fun t => !(t.kind == 0)) = [catM (derivM b k :: kids)].filter fun t => !(t.kind == 0) := by
      unfold catAt
      show (if (derivM b k).kind = 0 then [] else [catM (derivM b k :: kids)]).filter _ = _
      split
      · rename_i h
        rw [cat_none h]
        rfl
      · rfl
    rw [List.filter_append, e2]
    by_cases hn : nullM k = true
    · rw [if_pos hn, if_pos hn, ← ih, List.filter_cons, List.filter_cons]
      split <;> rfl
    · rw [if_neg hn, if_neg hn]
      simp [catTo]
theorem either_needed (b : Nat) (kids : List RT) : eitherM (catsM (kids.map fun x => (x, derivM b x))) = eitherM (catTo kids ((needed kids).map (derivM b)) (needed kids).length) := by
  rw [either_nz, cats_needed, ← either_nz]

end Go.Proofs.YtclnadjgbpihcaaGreatDoor

/-! The program's Cat of what is left of its kids: the walk. No condition but the library's table and size. -/
namespace Go.Proofs.YtclnadjgbpihcaaGreatDoor
open Go.RowKit Go.Lib
set_option linter.unusedVariables false
set_option linter.unusedSimpArgs false

/-- A row of expressions of the call's own, their kids in other blocks than its own. -/
structure OwnNew (base : Nat) (W : World) (Q : Nat → Prop) (v : Value) (us : List ReV) (l : List RT) : Prop where
  own : W.ownsRow base 28 6 v l.length (us.flatMap ReV.cells)
  len : us.length = l.length
  each : ∀ (i : Nat) (y : ReV) (t : RT), us[i]? = some y → l[i]? = some t → RAt W (fun g => Q g ∧ v.ownBlock ≠ some g) y t
theorem OwnNew.under {base : Nat} {W W' : World} {Q : Nat → Prop} {v : Value} {us : List ReV} {l : List RT} (h : OwnNew base W Q v us l) (hb : Below W.heap.size W W') : OwnNew base W' Q v us l := by
  refine ⟨?_, h.len, fun i y t hy ht => (h.each i y t hy ht).under hb⟩
  rcases row_forms h.own with ⟨rfl, h0⟩ | ⟨g, cp, rfl⟩
  · exact ⟨h.own.1, .inl ⟨rfl, h0⟩⟩
  · exact own_at h.own (hb.block g (row_base h.own).2.2.2)
theorem OwnNew.slice {base : Nat} {W : World} {Q : Nat → Prop} {v : Value} {us : List ReV} {l : List RT} (h : OwnNew base W Q v us l) (hQ : ∀ g, base ≤ g → Q g) : ∃ q cp, v = .slice q l.length cp ∧ KidsR W Q q l.length cp us l := by
  have he : ∀ (i : Nat) (y : ReV) (t : RT), us[i]? = some y → l[i]? = some t → RAt W Q y t := fun i y t hy ht => (h.each i y t hy ht).weak fun g hg _ => hg.1
  rcases row_forms h.own with ⟨rfl, h0⟩ | ⟨g, cp, rfl⟩
  · exact ⟨none, 0, by rw [h0], .inl ⟨h0, fun _ => rfl⟩, rfl, h.len, he⟩
  · refine ⟨_, cp, rfl, ?_, rfl, h.len, he⟩
    obtain ⟨r1, r2, r3, r4⟩ := row_base h.own
    rcases h.own.2 with ⟨h2, _⟩ | ⟨g', cap', cur, hv, hb, hh, hc, hm, hsz, ht⟩
    · cases h2
    · obtain rfl : g = g' := by simp at hv; omega
      exact .inr ⟨g, 0, rfl, r2, r3, hQ _ r1, ⟨cur, _, by decide, hh⟩, fun j u hj => by rw [Nat.zero_add]; exact row_cell h.own hj⟩
/-- One more, in the row's block or a new one. -/
theorem OwnNew.add {base : Nat} {W W' : World} {Q : Nat → Prop} {v : Value} {us : List ReV} {l : List RT} (h : OwnNew base W Q v us l) {x : ReV} {t : RT} {gb cp : Nat} (hx : RAt W (fun g => Q g ∧ v.ownBlock ≠ some g) x t)
    (ho : W'.ownsRow base 28 6 (.slice (some ⟨gb, 0, none⟩) (l.length + 1) cp) (l.length + 1) (us.flatMap ReV.cells ++ x.cells)) (hg : W.grownBy W' v.ownBlock) (hat : v.ownBlock = some gb ∨ W.heap.size ≤ gb) : OwnNew base W' Q (.slice (some ⟨gb, 0, none⟩) (l.length + 1) cp) (us ++ [x]) (l ++ [t]) := by
  have hk : Keeps W W' (fun g => Q g ∧ v.ownBlock ≠ some g) (fun g => Q g ∧ (Value.slice (some ⟨gb, 0, none⟩) (l.length + 1) cp).ownBlock ≠ some g) := Keeps.of hg.size fun b hb hl => ⟨hg.block b hl fun e => hb.2 e.symm, hb.1, by
    simp only [Value.ownBlock]
    intro e
    have e : gb = b := by simpa using e
    rcases hat with h1 | h1
    · exact hb.2 (by rw [h1, e])
    · omega⟩
  refine ⟨by rw [List.length_append, List.flatMap_append]; simpa using ho, by rw [List.length_append, List.length_append, h.len]; rfl, fun i y u hy hu => ?_⟩
  by_cases hi : i < us.length
  · rw [List.getElem?_append_left hi] at hy
    rw [List.getElem?_append_left (by rw [← h.len]; exact hi)] at hu
    exact (h.each i y u hy hu).kept hk
  · rw [List.getElem?_append_right (by omega)] at hy
    rw [List.getElem?_append_right (by rw [← h.len]; omega), ← h.len] at hu
    cases hi2 : i - us.length with
    | zero => rw [hi2] at hy hu; simp at hy hu; subst hy hu; exact hx.kept hk
    | succ k => rw [hi2] at hy; simp at hy

/-- The row that is handed to Cat. -/
theorem cat_kids {w1 W : World} {PQ : Nat → Prop} {gk offk xn xcap base i m g3 cp3 : Nat} {ks : List ReV} {kids : List RT} {x0 : ReV} {rt : RT} (hK : KidsR w1 PQ (some ⟨gk, offk, none⟩) xn xcap ks kids) (hr : RAt w1 PQ x0 rt) (hb : Below w1.heap.size w1 W)
    (hm : m = xn - (i + 1)) (hi : i < xn) (ho : W.ownsRow base 28 6 (.slice (some ⟨g3, 0, none⟩) (1 + m) cp3) (1 + m) (x0.cells ++ (ks.drop (i + 1)).flatMap ReV.cells)) :
    KidsR W (fun g => PQ g ∨ base ≤ g) (some ⟨g3, 0, none⟩) (1 + m) cp3 (x0 :: ks.drop (i + 1)) (rt :: kids.drop (i + 1)) := by
  have hn := hK.num
  have hl := hK.len
  obtain ⟨r1, r2, r3, r4⟩ := row_base ho
  refine ⟨?_, by rw [List.length_cons, List.length_drop]; omega, by rw [List.length_cons, List.length_cons, List.length_drop, List.length_drop]; omega, fun j y t hy ht => ?_⟩
  · rcases ho.2 with ⟨h2, _⟩ | ⟨g', cap', cur, hv, hb', hh, hc, hm', hsz, htk⟩
    · cases h2
    · obtain rfl : g3 = g' := by simp at hv; omega
      exact .inr ⟨g3, 0, rfl, r2, r3, .inr r1, ⟨cur, _, by decide, hh⟩, fun j u hj => by rw [Nat.zero_add]; exact row_cell ho (by simpa using hj)⟩
  · cases j with
    | zero => simp at hy ht; subst hy ht; exact (hr.under hb).weak fun g hg _ => .inl hg
    | succ j =>
      simp at hy ht
      exact ((hK.each _ y t hy ht).under hb).weak fun g hg _ => .inl hg

set_option maxRecDepth 100000 in
set_option maxHeartbeats 8000000 in
theorem ofcat_any {P : Nat → Prop} (w : World) (b o : Nat) (x : ReV) (t : RT) (hp : PlaceR w b o x) (ht : RAt w P x t) {p : Option Addr} {n cap : Nat} {us : List FV} {l : List (RT × Bool)} (h : FactsR w P p n cap us l) (hnk : n ≤ t.kids.length) (hT : Tab1 w)
    (hc : ∀ j, j < n → ((l.map Prod.fst).getD j noneM).sz + ((t.kids.drop (j + 1)).map RT.sz).sum ≤ 9000000000) (hdep : ∀ u ∈ catTo t.kids (l.map Prod.fst) n, u.dep < 10000) (hsz : ((catTo t.kids (l.map Prod.fst) n).map RT.sz).sum ≤ 9000000000) (hn9 : t.kids.length ≤ 9000000000) :
    Calls Tryz.prog 46 #[.pointer (some ⟨b, o, none⟩), .slice p n cap] w (GivesRe (fun g => P g ∨ w.heap.size ≤ g) (eitherM (catTo t.kids (l.map Prod.fst) n)) w) := by
  obtain ⟨R, hR⟩ : ∃ R, R = eitherM (catTo t.kids (l.map Prod.fst) n) := ⟨_, rfl⟩
  rw [← hR]
  have HRE := Lib.hid hR
  clear hR
  obtain ⟨i0, hi0, hz0, hz1, hz2⟩ := re_parts
  obtain ⟨D, hD⟩ : ∃ D, D = w.heap.size := ⟨_, rfl⟩
  obtain ⟨w1, hw1⟩ : ∃ w1 : World, w1 = w.alloc (.cells #[.int .i64 0, .int .u64 0, .int .u64 0, .int .u64 0, .int .u64 0, .slice none 0 0] 28) := ⟨_, rfl⟩
  have hb1 : Below w.heap.size w w1 := by rw [hw1]; exact (Below.refl _ _).alloc (Nat.le_refl _) _
  have hnD : w1.heap[D]? = some (.cells #[.int .i64 0, .int .u64 0, .int .u64 0, .int .u64 0, .int .u64 0, .slice none 0 0] 28 (0, 0)) := by rw [hw1, hD]; exact heap_alloc_new _ _
  have hs1 : w1.heap.size = D + 1 := by rw [hw1, hD]; simp
  have h0 : FactsR w (fun g => P g ∧ g < w.heap.size) p n cap us l := h.weak fun b hp hl => ⟨hp, hl⟩
  have HF := Lib.hid (h0.under hb1)
  have ht1 : RAt w1 (fun g => P g ∧ g < w.heap.size) x t := (ht.weak fun g hg hl => (⟨hg, hl⟩ : P g ∧ g < w.heap.size)).under hb1
  have HPL := Lib.hid (hp.under hb1)
  obtain ⟨ks, et, _, hkids⟩ := ht1.kids
  have HK := Lib.hid hkids
  have hxn : x.n = t.kids.length := hkids.num
  have HNUM := Lib.hid h.num
  have HLEN := Lib.hid h.len
  have HT1 := Lib.hid (hT.stays hb1)
  have HDEP := Lib.hid hdep
  have HSZ := Lib.hid hsz
  have HC := Lib.hid hc
  have HB1 := Lib.hid hb1
  have HND := Lib.hid hnD
  have HW1 := Lib.hid hw1
  have HDD := Lib.hid hD
  have HS1 := Lib.hid hs1
  obtain ⟨Q, hQ⟩ : ∃ Q : Nat → Prop, Q = fun g => (P g ∧ g < w.heap.size) ∨ w1.heap.size ≤ g := ⟨_, rfl⟩
  have HQ := Lib.hid hQ
  obtain ⟨xk, xa, xb, xc, xd, xp, xn, xcap⟩ := x
  simp only at hxn
  have hxb : xn ≤ 9000000000 := by omega
  have hnx : n ≤ xn := by omega
  have HXN := Lib.hid hxn
  clear h h0 hT hdep hsz hc hb1 hnD hw1 hD hs1 hp ht ht1 et hkids hnk hn9 hxn hQ
  go_enter Tryz.func46, Tryz.ntmps46
  go_wp2
  rw [← HW1.out, ← HDD.out]
  go_loopg [5, 10] n (fun gk v vi wr => ∃ (i : Nat) (q : Option Addr) (N cp : Nat) (vs : List ReV), v = .slice q N cp ∧ vi = .int .i64 (i : Int) ∧ i ≤ n ∧ n - i ≤ gk ∧ N ≤ i ∧ Hid (N = (catTo t.kids (l.map Prod.fst) i).length) ∧ Hid (Below w1.heap.size w1 wr) ∧ Hid (OwnNew w1.heap.size wr Q (.slice q N cp) vs (catTo t.kids (l.map Prod.fst) i)))
  case atStart => exact ⟨0, none, 0, 0, [], rfl, rfl, by omega, by omega, by omega, rfl, Below.refl _ _, ⟨World.ownsRow_nil _ _ _ _, rfl, fun i y t hy => by simp at hy⟩⟩
  case round =>
    obtain ⟨i, q, N, cp, vs, rfl, rfl, hi, hgk, hNi, HN, HB, HO⟩ := hrel
    by_cases hlt : i < n
    · have hltz : (i : Int) < (n : Int) := by omega
      obtain ⟨g, off, rfl⟩ := HF.out.rowf.some_of hlt
      have hil : i < l.length := by rw [← HNUM.out]; exact hlt
      obtain ⟨y, hy⟩ : ∃ y, us[i]? = some y := ⟨_, List.getElem?_eq_getElem (by rw [HLEN.out]; exact hil)⟩
      obtain ⟨r, hr⟩ : ∃ r, l[i]? = some r := ⟨_, List.getElem?_eq_getElem hil⟩
      have hra := (HF.out.each i y r hy hr).1
      have hrd : (l.map Prod.fst).getD i noneM = r.1 := by rw [List.getD_eq_getElem?_getD, List.getElem?_map, hr]; rfl
      have hkind : r.1.kind = y.re.kind := by
        obtain ⟨_, e, _⟩ := hra.kids
        rw [e]
        rfl
      obtain ⟨p0, p1, p2, p3, p4, p5, p6⟩ := (HF.out.rowf.under HB.out).seven hy
      obtain ⟨⟨k, a, b', c, d, q2, m, cp2⟩, nb⟩ := y
      simp only at p0 p1 p2 p3 p4 p5 p6 hra hkind
      have HRA := Lib.hid hra
      have HRD := Lib.hid hrd
      have HKIND := Lib.hid hkind
      have hwle : w1.heap.size ≤ wr.heap.size := HB.out.size
      clear hra hy hr hil hrd hkind
      by_cases hk : k = 0
      · subst hk
        have HCA : Hid (catTo t.kids (l.map Prod.fst) (i + 1) = catTo t.kids (l.map Prod.fst) i) := by
          unfold Hid
          rw [catTo_succ, catAt, HRD.out, if_pos HKIND.out, List.append_nil]
        have hb2 : Below wr.heap.size wr (wr.alloc (.cells #[.int .i64 0, .int .u64 a, .int .u64 b', .int .u64 c, .int .u64 d, .slice q2 m cp2, .bool nb] 58)) := (Below.refl _ _).alloc (Nat.le_refl _) _
        have HB2 := Lib.hid hb2
        clear hb2
        go_wp2
        go_roundg (n - (i + 1))
        case measure => omega
        case rel => exact ⟨i + 1, q, N, cp, vs, rfl, by go_num, by omega, Nat.le_refl _, by omega, by unfold Hid; rw [HCA.out]; exact HN.out, HB.out.trans (HB2.out.mono HB.out.size), by unfold Hid; rw [HCA.out]; exact HO.out.under HB2.out⟩
      · have hkz : (k == 0) = false := by simpa using hk
        have hil : i < xn := by omega
        obtain ⟨gk, offk, hxp⟩ := HK.out.rowv.some_of hil
        have hxp : xp = some ⟨gk, offk, none⟩ := hxp
        subst hxp
        have hcap : xn ≤ xcap := by
          rcases HK.out.row with ⟨h0, _⟩ | ⟨_, _, _, h1, _⟩
          · have h0 : xn = 0 := h0
            omega
          · exact h1
        obtain ⟨w2, hw2⟩ : ∃ w2 : World, w2 = wr.alloc (.cells #[.int .i64 k, .int .u64 a, .int .u64 b', .int .u64 c, .int .u64 d, .slice q2 m cp2, .bool nb] 58) := ⟨_, rfl⟩
        have hb2 : Below wr.heap.size wr w2 := by rw [hw2]; exact (Below.refl _ _).alloc (Nat.le_refl _) _
        have hs2 : w2.heap.size = wr.heap.size + 1 := by rw [hw2]; simp
        have hn2 : w2.heap[wr.heap.size]? = some (.cells #[.int .i64 k, .int .u64 a, .int .u64 b', .int .u64 c, .int .u64 d, .slice q2 m cp2, .bool nb] 58 (0, 0)) := by rw [hw2]; exact heap_alloc_new _ _
        obtain ⟨w3, hw3⟩ : ∃ w3 : World, w3 = (w2.alloc (.cells #[.int .i64 k, .int .u64 a, .int .u64 b', .int .u64 c, .int .u64 d, .slice q2 m cp2] 28)).drew := ⟨_, rfl⟩
        have hb3 : Below w2.heap.size w2 w3 := by rw [hw3]; exact below_drawn ((Below.refl _ _).alloc (Nat.le_refl _) _) 1
        have hs3 : w3.heap.size = wr.heap.size + 2 := by rw [hw3]; show (w2.alloc _).heap.size = _; simp [hs2]
        have hn3 : w3.heap[wr.heap.size + 1]? = some (.cells #[.int .i64 k, .int .u64 a, .int .u64 b', .int .u64 c, .int .u64 d, .slice q2 m cp2] 28 (0, 0)) := by
          rw [hw3, ← hs2]
          exact heap_alloc_new _ _
        obtain ⟨B, hB⟩ : ∃ B, B = wr.heap.size := ⟨_, rfl⟩
        have hb12 : Below w1.heap.size w1 w2 := HB.out.trans (hb2.mono hwle)
        have hb13 : Below w1.heap.size w1 w3 := hb12.trans (hb3.mono (by omega))
        have e5 := (HPL.out.under hb12).six.2.2.2.2.2
        have e5' : ((w2.alloc (.cells #[.int .i64 k, .int .u64 a, .int .u64 b', .int .u64 c, .int .u64 d, .slice q2 m cp2] 28)).drew).cell? ⟨b, o + 5, none⟩ = some (.slice (some ⟨gk, offk, none⟩) xn xcap) := by
          rw [← hw3]
          exact (HPL.out.under hb13).six.2.2.2.2.2
        rw [← hB] at hn2 hs2 hs3 hn3
        have b0 : w2.cell? ⟨B, 0, none⟩ = some (.int .i64 k) := by simp [World.cell?, hn2]
        have b1 : w2.cell? ⟨B, 1, none⟩ = some (.int .u64 a) := by simp [World.cell?, hn2]
        have b2 : w2.cell? ⟨B, 2, none⟩ = some (.int .u64 b') := by simp [World.cell?, hn2]
        have b3 : w2.cell? ⟨B, 3, none⟩ = some (.int .u64 c) := by simp [World.cell?, hn2]
        have b4 : w2.cell? ⟨B, 4, none⟩ = some (.int .u64 d) := by simp [World.cell?, hn2]
        have b5 : w2.cell? ⟨B, 5, none⟩ = some (.slice q2 m cp2) := by simp [World.cell?, hn2]
        have HW2 := Lib.hid hw2
        have HW3 := Lib.hid hw3
        have HB2 := Lib.hid hb2
        have HB3 := Lib.hid hb3
        have HB13 := Lib.hid hb13
        have HN3 := Lib.hid hn3
        have HBB := Lib.hid hB
        have HS2 := Lib.hid hs2
        have HS3 := Lib.hid hs3
        have hwd : IntKind.i64.wrap ((i : Int) + 1) = (i : Int) + 1 := by rw [IntKind.wrap_i64]; omega
        clear hw2 hw3 hb2 hb3 hb12 hb13 hn2 hn3 hs2 hs3 hB
        go_wp2_with fail
        rw [← HW2.out, ← HBB.out]
        by_cases hcc : xcap = i + 1
        · have z1 : ((i : Int) + 1) ≤ (xn : Int) := by omega
          have z2 : (0 : Int) ≤ (i : Int) + 1 := by omega
          have z3 : (xn : Int) ≤ (xcap : Int) := by omega
          have z6 : xn = i + 1 := by omega
          subst z6
          subst hcc
          have z5 : ((i : Int) + 1).toNat = i + 1 := by omega
          have HROWA : Hid (((w2.alloc (.cells #[.int .i64 k, .int .u64 a, .int .u64 b', .int .u64 c, .int .u64 d, .slice q2 m cp2] 28)).drew).ownsRow B 28 6 (.slice (some ⟨w2.heap.size, 0, none⟩) 1 1) 1 [.int .i64 k, .int .u64 a, .int .u64 b', .int .u64 c, .int .u64 d, .slice q2 m cp2]) := by
            have h := HN3.out
            rw [HW3.out, ← HS2.out] at h
            exact row_of_block (by rw [HS2.out]; omega) h (by unfold maxLen; omega) rfl
          have hkl := HK.out.len
          have hkn : (i + 1) = t.kids.length := HK.out.num
          have HLNEW : Hid (((ks.drop (i + 1)).flatMap ReV.cells).length = 0 * 6) := by
            unfold Hid
            rw [flat6_len, List.length_drop, hkl, ← hkn]
            omega
          have HNEWS : Hid (∀ (j : Nat) (u : Value), ((ks.drop (i + 1)).flatMap ReV.cells)[j]? = some u → ((w2.alloc (.cells #[.int .i64 k, .int .u64 a, .int .u64 b', .int .u64 c, .int .u64 d, .slice q2 m cp2] 28)).drew).cell? ((⟨gk, offk, none⟩ : Addr).add j) = some u) := fun j u hj => by
            exfalso
            have hz : ((ks.drop (i + 1)).flatMap ReV.cells).length = 0 := by rw [flat6_len, List.length_drop, hkl, ← hkn]; omega
            have := (List.getElem?_eq_some_iff.1 hj).1
            omega
          have HONE : Hid (∀ u ∈ (ks.drop (i + 1)).flatMap ReV.cells, u.oneCell' = true) := flat6_one _
          have HBAS : Hid (B ≤ ((w2.alloc (.cells #[.int .i64 k, .int .u64 a, .int .u64 b', .int .u64 c, .int .u64 d, .slice q2 m cp2] 28)).drew).heap.size) := by
            unfold Hid
            rw [← HW3.out, HS3.out]
            omega
          have HSIZ : Hid (((w2.alloc (.cells #[.int .i64 k, .int .u64 a, .int .u64 b', .int .u64 c, .int .u64 d, .slice q2 m cp2] 28)).drew).heap.size = B + 2) := by
            unfold Hid
            rw [← HW3.out, HS3.out]
          have hBw : w1.heap.size ≤ B := by rw [HBB.out]; exact hwle
          have HCON : Hid (∀ (g3 cp3 : Nat) (w4 : World), w4.ownsRow B 28 6 (.slice (some ⟨g3, 0, none⟩) 1 cp3) 1 ([.int .i64 k, .int .u64 a, .int .u64 b', .int .u64 c, .int .u64 d, .slice q2 m cp2] ++ (ks.drop (i + 1)).flatMap ReV.cells) →
              ((w2.alloc (.cells #[.int .i64 k, .int .u64 a, .int .u64 b', .int .u64 c, .int .u64 d, .slice q2 m cp2] 28)).drew).grownBy w4 (Value.slice (some ⟨w2.heap.size, 0, none⟩) 1 1).ownBlock → ((Value.slice (some ⟨w2.heap.size, 0, none⟩) 1 1).ownBlock = some g3 ∨ g3 = B + 2) →
              Calls Tryz.prog 55 #[.slice (some ⟨g3, 0, none⟩) 1 cp3] w4 (GivesRe (fun g => ((P g ∧ g < w.heap.size) ∨ B ≤ g) ∨ w4.heap.size ≤ g) (catM (r.1 :: t.kids.drop (i + 1))) w4) ∧
              ∀ w6, Below w4.heap.size w4 w6 → Below w1.heap.size w1 w6 ∧ OwnNew w1.heap.size w6 Q (.slice q N cp) vs (catTo t.kids (l.map Prod.fst) i)) := fun g3 cp3 w4 ho hg hat => by
            rw [← HW3.out] at hg
            have hb34 : Below B w3 w4 := (Below.refl _ _).grown hg (by rw [HS3.out]; omega) fun z hz => by
              simp [Value.ownBlock] at hz
              have := HS2.out
              omega
            have hb14 : Below w1.heap.size w1 w4 := HB13.out.trans (hb34.mono hBw)
            refine ⟨?_, fun w6 hb6 => ?_⟩
            · have hkk := cat_kids (m := 0) HK.out HRA.out hb14 (by omega) hil ho
              refine cat_any w4 hkk ?_
              have h1 := HC.out i hlt
              rw [HRD.out] at h1
              simpa using h1
            · have h46 : w4.heap.size ≤ w6.heap.size := hb6.size
              have hB4 : B ≤ w4.heap.size := Nat.le_trans (by rw [HS3.out]; omega) hb34.size
              refine ⟨hb14.trans (hb6.mono hb14.size), ?_⟩
              have hO2 := HO.out.under HB2.out
              refine HO.out.under ?_
              rw [← HBB.out]
              have h23 : Below B w2 w3 := HB3.out.mono (by rw [HS2.out]; omega)
              have hr2 : Below B wr w2 := by rw [HBB.out]; exact HB2.out
              exact hr2.trans ((h23.trans (hb34.trans (hb6.mono hB4))))
          have HIL := Lib.hid hil
          have hN9 : N ≤ 9000000000 := by omega
          clear e5' 
          have e5' : ((w2.alloc (.cells #[.int .i64 k, .int .u64 a, .int .u64 b', .int .u64 c, .int .u64 d, .slice q2 m cp2] 28)).drew).cell? ⟨b, o + 5, none⟩ = some (.slice (some ⟨gk, offk, none⟩) (i + 1) (i + 1)) := by
            rw [← HW3.out]
            exact (HPL.out.under HB13.out).six.2.2.2.2.2
          clear hkl hkn
          go_region_law (first | (refine step_append_any (by rfl) _ _ _ (by rfl) B 28 i0 _ 6 64 Tryz.underlying26 hi0 hz0 hz1 hz2 rfl (by omega) (.slice (some ⟨w2.heap.size, 0, none⟩) 1 1) 1 [.int .i64 k, .int .u64 a, .int .u64 b', .int .u64 c, .int .u64 d, .slice q2 m cp2] (by rfl) HROWA.out ⟨gk, offk, none⟩ 0 0 ((ks.drop (i + 1)).flatMap ReV.cells) (by rfl) HLNEW.out HNEWS.out HONE.out (by omega) (by unfold maxLen; omega) (by omega) HBAS.out (B + 2) HSIZ.out ?_; intro g3 cp3 w4 hown hgrow hat hlt4; have HCALL := HCON.out g3 cp3 w4 hown hgrow hat; have hs4 : B ≤ w4.heap.size := Nat.le_of_lt (Nat.lt_of_le_of_lt (row_base hown).1 hlt4); clear hown hgrow hat hlt4) | (go_simp; go_at_call 55; (with_reducible (refine HCALL.1.mono ?_)); rintro _ w6 ⟨x6, rfl, hx6, hb6⟩; obtain ⟨e0, e1, e2, e3, e4, q6, m6, cp6⟩ := x6; unfold ReV.val; have HK6 := HCALL.2 w6 hb6; have HX6 := Lib.hid hx6; have HB6 := Lib.hid hb6; have HROW6 := Lib.hid (HK6.2.own.alloc (.cells #[.int .i64 e0, .int .u64 e1, .int .u64 e2, .int .u64 e3, .int .u64 e4, .slice q6 m6 cp6] 28)); rw [← HN.out] at HROW6; have hsz6 : w1.heap.size ≤ w6.heap.size := HK6.1.size; have HKK := Lib.hid HK6; clear hx6 hb6 HK6 HCALL) | (refine step_append_any (by rfl) _ _ _ (by rfl) w1.heap.size 28 i0 _ 6 64 Tryz.underlying26 hi0 hz0 hz1 hz2 rfl (by omega) (.slice q N cp) N (vs.flatMap ReV.cells) (by rfl) HROW6.out ⟨w6.heap.size, 0, none⟩ 1 1 [.int .i64 e0, .int .u64 e1, .int .u64 e2, .int .u64 e3, .int .u64 e4, .slice q6 m6 cp6] (by rfl) (by rfl) (new3 _ _ _ _ rfl) (by intro u hu; simp at hu; rcases hu with rfl | rfl | rfl | rfl | rfl | rfl <;> rfl) (by omega) (by unfold maxLen; omega) (by omega) (by simp; omega) (w6.heap.size + 1) (by simp) ?_; intro g5 cp5 w8 hown5 hgrow5 hat5 hlt8; have HOWN5 := Lib.hid hown5; have HGROW5 := Lib.hid hgrow5; have HAT5 := Lib.hid hat5; clear hown5 hgrow5 hat5) | fail)
          all_goals go_wp2
          all_goals
            go_roundg (n - (i + 1))
            case measure => omega
            case rel =>
              have hcat : catTo t.kids (l.map Prod.fst) (i + 1) = catTo t.kids (l.map Prod.fst) i ++ [catM (r.1 :: t.kids.drop (i + 1))] := by
                rw [catTo_succ, catAt, HRD.out, if_neg (by rw [HKIND.out]; exact hk)]
              have hN := HN.out
              subst hN
              have hba : Below w6.heap.size w6 (w6.alloc (.cells #[.int .i64 e0, .int .u64 e1, .int .u64 e2, .int .u64 e3, .int .u64 e4, .slice q6 m6 cp6] 28)) := (Below.refl _ _).alloc (Nat.le_refl _) _
              have hqb : ∀ z, (Value.slice q (catTo t.kids (l.map Prod.fst) i).length cp).ownBlock = some z → w1.heap.size ≤ z ∧ z < B := fun z hz => by
                rcases row_forms HO.out.own with ⟨h, _⟩ | ⟨gq, cq, h⟩
                · rw [h] at hz; simp [Value.ownBlock] at hz
                · have ho := HO.out.own
                  rw [h] at hz ho
                  have h1 := row_base ho
                  have h2 : gq = z := by simpa [Value.ownBlock] using hz
                  have h3 := HBB.out
                  omega
              have hx : RAt (w6.alloc (.cells #[.int .i64 e0, .int .u64 e1, .int .u64 e2, .int .u64 e3, .int .u64 e4, .slice q6 m6 cp6] 28)) (fun g => Q g ∧ (Value.slice q (catTo t.kids (l.map Prod.fst) i).length cp).ownBlock ≠ some g) ⟨e0, e1, e2, e3, e4, q6, m6, cp6⟩ (catM (r.1 :: t.kids.drop (i + 1))) := by
                refine (HX6.out.under hba).weak fun z hz _ => ?_
                have h1 := HS1.out
                have h2 := HDD.out
                rw [HQ.out]
                refine ⟨?_, fun e => ?_⟩
                · rcases hz with (hz | hz) | hz
                  · exact .inl hz
                  · exact .inr (by omega)
                  · exact .inr (by omega)
                · have h3 := hqb z e
                  rcases hz with (⟨_, hz⟩ | hz) | hz <;> omega
              refine ⟨i + 1, some ⟨g5, 0, none⟩, _, cp5, vs ++ [⟨e0, e1, e2, e3, e4, q6, m6, cp6⟩], rfl, by go_num, by omega, Nat.le_refl _, by omega, ?_, ?_, ?_⟩
              · unfold Hid
                rw [hcat, List.length_append]
                rfl
              · exact (HKK.out.1.alloc (by omega) _).grown HGROW5.out (by simp; omega) fun z hz => (hqb z hz).1
              · unfold Hid
                rw [hcat]
                exact OwnNew.add (HKK.out.2.under hba) hx HOWN5.out HGROW5.out (HAT5.out.imp id fun h => by rw [h]; simp)
        · have z1 : ((i : Int) + 1) ≤ (xn : Int) := by omega
          have z2 : (0 : Int) ≤ (i : Int) + 1 := by omega
          have z3 : (xn : Int) ≤ (xcap : Int) := by omega
          have z4 : ¬ xcap = i + 1 := hcc
          have z5 : ((i : Int) + 1).toNat = i + 1 := by omega
          have HROWA : Hid (((w2.alloc (.cells #[.int .i64 k, .int .u64 a, .int .u64 b', .int .u64 c, .int .u64 d, .slice q2 m cp2] 28)).drew).ownsRow B 28 6 (.slice (some ⟨w2.heap.size, 0, none⟩) 1 1) 1 [.int .i64 k, .int .u64 a, .int .u64 b', .int .u64 c, .int .u64 d, .slice q2 m cp2]) := by
            have h := HN3.out
            rw [HW3.out, ← HS2.out] at h
            exact row_of_block (by rw [HS2.out]; omega) h (by unfold maxLen; omega) rfl
          have hkl := HK.out.len
          have hkn : xn = t.kids.length := HK.out.num
          have HLNEW : Hid (((ks.drop (i + 1)).flatMap ReV.cells).length = (xn - (i + 1)) * 6) := by
            unfold Hid
            rw [flat6_len, List.length_drop, hkl, ← hkn]
          have HNEWS : Hid (∀ (j : Nat) (u : Value), ((ks.drop (i + 1)).flatMap ReV.cells)[j]? = some u → ((w2.alloc (.cells #[.int .i64 k, .int .u64 a, .int .u64 b', .int .u64 c, .int .u64 d, .slice q2 m cp2] 28)).drew).cell? ((⟨gk, offk + (i + 1) * 6, none⟩ : Addr).add j) = some u) := fun j u hj => by
            rw [addr_add, ← HW3.out, Nat.add_assoc]
            rcases (HK.out.under HB13.out).row with ⟨h0, _⟩ | ⟨g', off', h1, _, _, _, _, h6⟩
            · have h0 : xn = 0 := h0
              omega
            · have h1 : (⟨gk, offk, none⟩ : Addr) = ⟨g', off', none⟩ := Option.some.inj h1
              obtain ⟨rfl, rfl⟩ : gk = g' ∧ offk = off' := by simpa using h1
              exact h6 _ u (flat6_post (by rw [hkl, ← hkn]; omega) hj)
          have HONE : Hid (∀ u ∈ (ks.drop (i + 1)).flatMap ReV.cells, u.oneCell' = true) := flat6_one _
          have HBAS : Hid (B ≤ ((w2.alloc (.cells #[.int .i64 k, .int .u64 a, .int .u64 b', .int .u64 c, .int .u64 d, .slice q2 m cp2] 28)).drew).heap.size) := by
            unfold Hid
            rw [← HW3.out, HS3.out]
            omega
          have HSIZ : Hid (((w2.alloc (.cells #[.int .i64 k, .int .u64 a, .int .u64 b', .int .u64 c, .int .u64 d, .slice q2 m cp2] 28)).drew).heap.size = B + 2) := by
            unfold Hid
            rw [← HW3.out, HS3.out]
          have hBw : w1.heap.size ≤ B := by rw [HBB.out]; exact hwle
          have HCON : Hid (∀ (g3 cp3 : Nat) (w4 : World), w4.ownsRow B 28 6 (.slice (some ⟨g3, 0, none⟩) (1 + (xn - (i + 1))) cp3) (1 + (xn - (i + 1))) ([.int .i64 k, .int .u64 a, .int .u64 b', .int .u64 c, .int .u64 d, .slice q2 m cp2] ++ (ks.drop (i + 1)).flatMap ReV.cells) →
              ((w2.alloc (.cells #[.int .i64 k, .int .u64 a, .int .u64 b', .int .u64 c, .int .u64 d, .slice q2 m cp2] 28)).drew).grownBy w4 (Value.slice (some ⟨w2.heap.size, 0, none⟩) 1 1).ownBlock → ((Value.slice (some ⟨w2.heap.size, 0, none⟩) 1 1).ownBlock = some g3 ∨ g3 = B + 2) →
              Calls Tryz.prog 55 #[.slice (some ⟨g3, 0, none⟩) (1 + (xn - (i + 1))) cp3] w4 (GivesRe (fun g => ((P g ∧ g < w.heap.size) ∨ B ≤ g) ∨ w4.heap.size ≤ g) (catM (r.1 :: t.kids.drop (i + 1))) w4) ∧
              ∀ w6, Below w4.heap.size w4 w6 → Below w1.heap.size w1 w6 ∧ OwnNew w1.heap.size w6 Q (.slice q N cp) vs (catTo t.kids (l.map Prod.fst) i)) := fun g3 cp3 w4 ho hg hat => by
            rw [← HW3.out] at hg
            have hb34 : Below B w3 w4 := (Below.refl _ _).grown hg (by rw [HS3.out]; omega) fun z hz => by
              simp [Value.ownBlock] at hz
              have := HS2.out
              omega
            have hb14 : Below w1.heap.size w1 w4 := HB13.out.trans (hb34.mono hBw)
            refine ⟨?_, fun w6 hb6 => ?_⟩
            · have hkk := cat_kids HK.out HRA.out hb14 rfl hil ho
              refine cat_any w4 hkk ?_
              have h1 := HC.out i hlt
              rw [HRD.out] at h1
              simpa using h1
            · have h46 : w4.heap.size ≤ w6.heap.size := hb6.size
              have hB4 : B ≤ w4.heap.size := Nat.le_trans (by rw [HS3.out]; omega) hb34.size
              refine ⟨hb14.trans (hb6.mono hb14.size), ?_⟩
              have hO2 := HO.out.under HB2.out
              refine HO.out.under ?_
              rw [← HBB.out]
              have h23 : Below B w2 w3 := HB3.out.mono (by rw [HS2.out]; omega)
              have hr2 : Below B wr w2 := by rw [HBB.out]; exact HB2.out
              exact hr2.trans ((h23.trans (hb34.trans (hb6.mono hB4))))
          have HIL := Lib.hid hil
          have hN9 : N ≤ 9000000000 := by omega
          clear e5' 
          have e5' : ((w2.alloc (.cells #[.int .i64 k, .int .u64 a, .int .u64 b', .int .u64 c, .int .u64 d, .slice q2 m cp2] 28)).drew).cell? ⟨b, o + 5, none⟩ = some (.slice (some ⟨gk, offk, none⟩) xn xcap) := by
            rw [← HW3.out]
            exact (HPL.out.under HB13.out).six.2.2.2.2.2
          clear hkl hkn
          go_region_law (first | (refine step_append_any (by rfl) _ _ _ (by rfl) B 28 i0 _ 6 64 Tryz.underlying26 hi0 hz0 hz1 hz2 rfl (by omega) (.slice (some ⟨w2.heap.size, 0, none⟩) 1 1) 1 [.int .i64 k, .int .u64 a, .int .u64 b', .int .u64 c, .int .u64 d, .slice q2 m cp2] (by rfl) HROWA.out ⟨gk, offk + (i + 1) * 6, none⟩ (xn - (i + 1)) (xcap - (i + 1)) ((ks.drop (i + 1)).flatMap ReV.cells) (by rfl) HLNEW.out HNEWS.out HONE.out (by omega) (by unfold maxLen; omega) (by omega) HBAS.out (B + 2) HSIZ.out ?_; intro g3 cp3 w4 hown hgrow hat hlt4; have HCALL := HCON.out g3 cp3 w4 hown hgrow hat; have hs4 : B ≤ w4.heap.size := Nat.le_of_lt (Nat.lt_of_le_of_lt (row_base hown).1 hlt4); clear hown hgrow hat hlt4) | (go_simp; go_at_call 55; (with_reducible (refine HCALL.1.mono ?_)); rintro _ w6 ⟨x6, rfl, hx6, hb6⟩; obtain ⟨e0, e1, e2, e3, e4, q6, m6, cp6⟩ := x6; unfold ReV.val; have HK6 := HCALL.2 w6 hb6; have HX6 := Lib.hid hx6; have HB6 := Lib.hid hb6; have HROW6 := Lib.hid (HK6.2.own.alloc (.cells #[.int .i64 e0, .int .u64 e1, .int .u64 e2, .int .u64 e3, .int .u64 e4, .slice q6 m6 cp6] 28)); rw [← HN.out] at HROW6; have hsz6 : w1.heap.size ≤ w6.heap.size := HK6.1.size; have HKK := Lib.hid HK6; clear hx6 hb6 HK6 HCALL) | (refine step_append_any (by rfl) _ _ _ (by rfl) w1.heap.size 28 i0 _ 6 64 Tryz.underlying26 hi0 hz0 hz1 hz2 rfl (by omega) (.slice q N cp) N (vs.flatMap ReV.cells) (by rfl) HROW6.out ⟨w6.heap.size, 0, none⟩ 1 1 [.int .i64 e0, .int .u64 e1, .int .u64 e2, .int .u64 e3, .int .u64 e4, .slice q6 m6 cp6] (by rfl) (by rfl) (new3 _ _ _ _ rfl) (by intro u hu; simp at hu; rcases hu with rfl | rfl | rfl | rfl | rfl | rfl <;> rfl) (by omega) (by unfold maxLen; omega) (by omega) (by simp; omega) (w6.heap.size + 1) (by simp) ?_; intro g5 cp5 w8 hown5 hgrow5 hat5 hlt8; have HOWN5 := Lib.hid hown5; have HGROW5 := Lib.hid hgrow5; have HAT5 := Lib.hid hat5; clear hown5 hgrow5 hat5) | fail)
          all_goals go_wp2
          all_goals
            go_roundg (n - (i + 1))
            case measure => omega
            case rel =>
              have hcat : catTo t.kids (l.map Prod.fst) (i + 1) = catTo t.kids (l.map Prod.fst) i ++ [catM (r.1 :: t.kids.drop (i + 1))] := by
                rw [catTo_succ, catAt, HRD.out, if_neg (by rw [HKIND.out]; exact hk)]
              have hN := HN.out
              subst hN
              have hba : Below w6.heap.size w6 (w6.alloc (.cells #[.int .i64 e0, .int .u64 e1, .int .u64 e2, .int .u64 e3, .int .u64 e4, .slice q6 m6 cp6] 28)) := (Below.refl _ _).alloc (Nat.le_refl _) _
              have hqb : ∀ z, (Value.slice q (catTo t.kids (l.map Prod.fst) i).length cp).ownBlock = some z → w1.heap.size ≤ z ∧ z < B := fun z hz => by
                rcases row_forms HO.out.own with ⟨h, _⟩ | ⟨gq, cq, h⟩
                · rw [h] at hz; simp [Value.ownBlock] at hz
                · have ho := HO.out.own
                  rw [h] at hz ho
                  have h1 := row_base ho
                  have h2 : gq = z := by simpa [Value.ownBlock] using hz
                  have h3 := HBB.out
                  omega
              have hx : RAt (w6.alloc (.cells #[.int .i64 e0, .int .u64 e1, .int .u64 e2, .int .u64 e3, .int .u64 e4, .slice q6 m6 cp6] 28)) (fun g => Q g ∧ (Value.slice q (catTo t.kids (l.map Prod.fst) i).length cp).ownBlock ≠ some g) ⟨e0, e1, e2, e3, e4, q6, m6, cp6⟩ (catM (r.1 :: t.kids.drop (i + 1))) := by
                refine (HX6.out.under hba).weak fun z hz _ => ?_
                have h1 := HS1.out
                have h2 := HDD.out
                rw [HQ.out]
                refine ⟨?_, fun e => ?_⟩
                · rcases hz with (hz | hz) | hz
                  · exact .inl hz
                  · exact .inr (by omega)
                  · exact .inr (by omega)
                · have h3 := hqb z e
                  rcases hz with (⟨_, hz⟩ | hz) | hz <;> omega
              refine ⟨i + 1, some ⟨g5, 0, none⟩, _, cp5, vs ++ [⟨e0, e1, e2, e3, e4, q6, m6, cp6⟩], rfl, by go_num, by omega, Nat.le_refl _, by omega, ?_, ?_, ?_⟩
              · unfold Hid
                rw [hcat, List.length_append]
                rfl
              · exact (HKK.out.1.alloc (by omega) _).grown HGROW5.out (by simp; omega) fun z hz => (hqb z hz).1
              · unfold Hid
                rw [hcat]
                exact OwnNew.add (HKK.out.2.under hba) hx HOWN5.out HGROW5.out (HAT5.out.imp id fun h => by rw [h]; simp)
    · have hltz : ¬ (i : Int) < (n : Int) := by omega
      have ei : i = n := by omega
      subst ei
      obtain ⟨q', cp', hv, hkr⟩ := HO.out.slice fun g hg => by rw [HQ.out]; exact .inr hg
      obtain ⟨rfl, hl, rfl⟩ : q = q' ∧ N = (catTo t.kids (l.map Prod.fst) i).length ∧ cp = cp' := by simpa using hv
      rw [← hl] at hkr
      have c6 := either_any wr hkr (HT1.out.stays HB.out) HDEP.out HSZ.out
      have hDl : D < w1.heap.size := by rw [HS1.out]; omega
      have h5D : wr.heap[D]? = some (.cells #[.int .i64 0, .int .u64 0, .int .u64 0, .int .u64 0, .int .u64 0, .slice none 0 0] 28 (0, 0)) := (HB.out.block D hDl).trans HND.out
      have H5D := Lib.hid h5D
      rw [← HRE.out] at c6
      clear hv hkr h5D hl
      go_wp2_with fail
      ((with_reducible refine c6.mono ?_))
      rintro _ w6 ⟨x, rfl, hx, hb6⟩
      obtain ⟨k, a, b, c, d, q6, m, cp6⟩ := x
      have h6D : w6.heap[D]? = some (.cells #[.int .i64 0, .int .u64 0, .int .u64 0, .int .u64 0, .int .u64 0, .slice none 0 0] 28 (0, 0)) := (hb6.block D (Nat.lt_of_lt_of_le hDl HB.out.size)).trans H5D.out
      have H6D := Lib.hid h6D
      obtain ⟨⟨d0, d1, d2, d3, d4, d5⟩, f0, f1, f2, f3, f4, f5⟩ := zero_facts h6D
      have HX := Lib.hid hx
      have HB6 := Lib.hid hb6
      clear hx hb6 h6D c6
      unfold ReV.val
      go_wp2
      refine bodyPost_ret_by (results_cell_row rfl _ _ D 28 #[.int .i64 k, .int .u64 a, .int .u64 b, .int .u64 c, .int .u64 d, .slice q6 m cp6] (0, 0) _ rfl (set6_heap H6D.out _ _ _ _ _ _) Tryz.underlying28 rfl (by kernel_rfl)) rfl ?_
      have hall : Below w.heap.size w w6 := HB1.out.trans ((HB.out.trans (HB6.out.mono HB.out.size)).mono HB1.out.size)
      refine ⟨⟨k, a, b, c, d, q6, m, cp6⟩, rfl, ?_, six_set hall (by have := HDD.out; omega) _ _ _ _ _ _⟩
      refine HX.out.kept (Keeps.of (by simp [World.setCell]) fun b hp hl => ?_)
      rw [HQ.out] at hp
      have h1 := HDD.out
      have h2 := HS1.out
      have h3 := HB.out.size
      have h4 := HB1.out.size
      have hbD : b ≠ D := by rcases hp with (⟨_, hp⟩ | hp) | hp <;> omega
      refine ⟨six_ne hbD _ _ _ _ _ _, ?_⟩
      rcases hp with (⟨hp, _⟩ | hp) | hp
      · exact .inl hp
      · exact .inr (by omega)
      · exact .inr (by omega)

end Go.Proofs.YtclnadjgbpihcaaGreatDoor

/-! What is found out about an expression, by that of the kids that it needs. No condition but the library's table and size. -/
namespace Go.Proofs.YtclnadjgbpihcaaGreatDoor
open Go.RowKit Go.Lib
set_option linter.unusedVariables false
set_option linter.unusedSimpArgs false

/-- One more kid is wanted, behind the first i. -/
def moreD (t : RT) (i : Nat) : Bool := if t.kind = 4 then decide (i < t.kids.length) else if t.kind = 5 then decide (i = 0) && decide (t.kids.length = 1) else if t.kind = 3 then decide (i < t.kids.length) && (decide (i = 0) || nullM (t.kids.getD (i - 1) noneM)) else false

set_option maxRecDepth 100000 in
set_option maxHeartbeats 4000000 in
theorem needsmore_any {P PF : Nat → Prop} (W : World) (b o : Nat) (x : ReV) (t : RT) (hp : PlaceR W b o x) (ht : RAt W P x t) {p : Option Addr} {i cap : Nat} {us : List FV} (h : RowF W PF p i cap us) (hb : i ≤ 9000000000)
    (hl : 0 < i → ∃ y, us[i - 1]? = some y ∧ y.nul = nullM (t.kids.getD (i - 1) noneM)) :
    Calls Tryz.prog 29 #[.pointer (some ⟨b, o, none⟩), .slice p i cap] W fun e w' => e = .returned (.bool (moreD t i)) ∧ W = w' := by
  obtain ⟨R, hR⟩ : ∃ R, R = moreD t i := ⟨_, rfl⟩
  rw [← hR]
  obtain ⟨vs0, et, _, hk⟩ := ht.kids
  have hkd : t.kind = x.kind := by rw [et]; rfl
  have hnn : x.n = t.kids.length := hk.num
  obtain ⟨c0, _, _, _, _, c5⟩ := hp.six
  obtain ⟨k, hkk⟩ : ∃ k, k = x.kind := ⟨_, rfl⟩
  obtain ⟨n, hn⟩ : ∃ n, n = x.n := ⟨_, rfl⟩
  obtain ⟨xp, hxp⟩ : ∃ xp, xp = x.p := ⟨_, rfl⟩
  obtain ⟨xc, hxc⟩ : ∃ xc, xc = x.cap := ⟨_, rfl⟩
  rw [← hkk] at c0 hkd
  rw [← hn, ← hxp, ← hxc] at c5
  rw [← hn] at hnn
  unfold moreD at hR
  rw [hkd, ← hnn] at hR
  have HR := Lib.hid hR
  have HL := Lib.hid hl
  have HF := Lib.hid h
  clear hR hkk hn hxp hxc hp ht et hk hl h hkd hnn
  by_cases k4 : k = 4
  · subst k4
    have e : R = decide (i < n) := by rw [HR.out]; simp
    have HE := Lib.hid e
    clear e
    go_enter Tryz.func29, Tryz.ntmps29
    go_wp2
    go_ret
    exact ⟨by rw [HE.out]; first | rfl | (simp; done), rfl⟩
  have q4 : (k == 4) = false := by simpa using k4
  by_cases k5 : k = 5
  · subst k5
    by_cases hi : i = 0
    · subst hi
      have e : R = decide (n = 1) := by rw [HR.out]; simp
      have HE := Lib.hid e
      clear e
      have h1 : ((n : Int) == 1) = decide (n = 1) := by rw [Bool.eq_iff_iff]; simp; omega
      have H1 := Lib.hid h1
      clear h1
      go_enter Tryz.func29, Tryz.ntmps29
      go_wp2
      go_ret
      refine ⟨?_, rfl⟩
      rw [HE.out, ← H1.out]
      rfl
    · have hiz : ((i : Int) == 0) = false := by simp; omega
      have e : R = false := by rw [HR.out]; simp [hi]
      have HE := Lib.hid e
      clear e
      go_enter Tryz.func29, Tryz.ntmps29
      go_wp2
      go_ret
      exact ⟨by rw [HE.out]; rfl, rfl⟩
  have q5 : (k == 5) = false := by simpa using k5
  by_cases k3 : k = 3
  · subst k3
    by_cases hlt : i < n
    · have hltz : (i : Int) < (n : Int) := by omega
      by_cases hi : i = 0
      · subst hi
        have e : R = true := by rw [HR.out]; simp [hlt]
        have HE := Lib.hid e
        clear e
        go_enter Tryz.func29, Tryz.ntmps29
        go_wp2
        go_ret
        exact ⟨by rw [HE.out]; rfl, rfl⟩
      · have hiz : ((i : Int) == 0) = false := by simp; omega
        obtain ⟨g, off, rfl⟩ := HF.out.some_of (i := 0) (by omega)
        obtain ⟨y, hy, hyn⟩ := HL.out (by omega)
        have c6 := (HF.out.seven hy).2.2.2.2.2.2
        have HYN := Lib.hid hyn
        have hi1 : ((i : Int) - 1) = ((i - 1 : Nat) : Int) := by omega
        have hi2 : i - 1 < i := by omega
        obtain ⟨j, hj⟩ : ∃ j, j = i - 1 := ⟨_, rfl⟩
        rw [← hj] at c6 hi1 hi2
        have HJ := Lib.hid hj
        have hw1 : IntKind.i64.wrap ((i : Int) - 1) = (j : Int) := by rw [IntKind.wrap_i64]; omega
        have hjz : (j : Int) < (i : Int) := by omega
        obtain ⟨v, hv⟩ : ∃ v, v = y.nul := ⟨_, rfl⟩
        rw [← hv] at c6
        have e : R = v := by rw [HR.out, hv, hyn]; simp [hi, hlt]
        have HE := Lib.hid e
        clear hy hyn hj hv e
        go_enter Tryz.func29, Tryz.ntmps29
        go_wp2
        go_ret
        exact ⟨by rw [HE.out]; rfl, rfl⟩
    · have hltz : ¬ (i : Int) < (n : Int) := by omega
      have e : R = false := by rw [HR.out]; simp [hlt]
      have HE := Lib.hid e
      clear e
      go_enter Tryz.func29, Tryz.ntmps29
      go_wp2
      go_ret
      exact ⟨by rw [HE.out]; rfl, rfl⟩
  have q3 : (k == 3) = false := by simpa using k3
  have e : R = false := by rw [HR.out, if_neg k4, if_neg k5, if_neg k3]
  subst e
  clear k3 k4 k5
  go_enter Tryz.func29, Tryz.ntmps29
  go_wp2
  go_ret
  exact ⟨rfl, rfl⟩

end Go.Proofs.YtclnadjgbpihcaaGreatDoor

/-! What is found out about an expression: the walk. No condition but the library's table and size. -/
namespace Go.Proofs.YtclnadjgbpihcaaGreatDoor
open Go.RowKit Go.Lib
set_option linter.unusedVariables false
set_option linter.unusedSimpArgs false

/-- The kids that are needed. -/
def need (t : RT) : List RT := if t.kind = 3 then needed t.kids else if t.kind = 4 then t.kids else if t.kind = 5 then (if t.kids.length = 1 then t.kids else []) else []
theorem needed_pre : ∀ l : List RT, ∃ m, needed l = l.take m ∧ m ≤ l.length
  | [] => ⟨0, rfl, by simp⟩
  | k :: l => by
    obtain ⟨m, h1, h2⟩ := needed_pre l
    rw [needed]
    by_cases h : nullM k = true
    · rw [if_pos h, h1]
      exact ⟨m + 1, rfl, by simp; omega⟩
    · rw [if_neg h]
      exact ⟨1, rfl, by simp⟩
theorem needed_take (l : List RT) (i : Nat) (hi : ∀ j, j < i → j < l.length ∧ (j = 0 ∨ nullM (l.getD (j - 1) noneM) = true)) (hn : ¬ (i < l.length ∧ (i = 0 ∨ nullM (l.getD (i - 1) noneM) = true))) : l.take i = needed l := by
  induction l generalizing i with
  | nil => simp [needed]
  | cons k l ih =>
    cases i with
    | zero => exact absurd ⟨by simp, .inl rfl⟩ hn
    | succ i =>
      rw [List.take_succ_cons, needed]
      by_cases h : nullM k = true
      · rw [if_pos h, ih i (fun j hj => ?_) (fun q => ?_)]
        · have := hi (j + 1) (by omega)
          refine ⟨by have := this.1; simp at this; omega, ?_⟩
          rcases this.2 with h1 | h1
          · omega
          · by_cases hj0 : j = 0
            · exact .inl hj0
            · right
              obtain ⟨j', rfl⟩ : ∃ j', j = j' + 1 := ⟨j - 1, by omega⟩
              simpa using h1
        · refine hn ⟨by have := q.1; simp; omega, .inr ?_⟩
          rcases q.2 with h1 | h1
          · subst h1
            simpa using h
          · by_cases hi0 : i = 0
            · subst hi0
              simpa using h
            · obtain ⟨i', rfl⟩ : ∃ i', i = i' + 1 := ⟨i - 1, by omega⟩
              simpa using h1
      · rw [if_neg h]
        cases i with
        | zero => simp
        | succ i =>
          exfalso
          have := (hi 1 (by omega)).2
          rcases this with h1 | h1
          · omega
          · exact h (by simpa using h1)
/-- When no more is wanted, all that is needed is there. -/
theorem take_need (t : RT) (i : Nat) (hi : ∀ j, j < i → moreD t j = true) (hn : moreD t i = false) : t.kids.take i = need t ∧ i = (need t).length := by
  have key : t.kids.take i = need t → i ≤ t.kids.length → t.kids.take i = need t ∧ i = (need t).length := fun h hl => ⟨h, by rw [← h, List.length_take]; omega⟩
  unfold moreD at hi hn
  by_cases h4 : t.kind = 4
  · simp only [h4, if_true] at hi hn
    have hl : t.kids.length ≤ i := by simpa using hn
    have hle : i ≤ t.kids.length := by
      cases i with
      | zero => omega
      | succ i => have := hi i (by omega); simp at this; omega
    refine key ?_ hle
    unfold need
    rw [if_neg (by omega), if_pos h4, List.take_of_length_le hl]
  · simp only [h4, if_false] at hi hn
    by_cases h5 : t.kind = 5
    · simp only [h5, if_true] at hi hn
      by_cases hone : t.kids.length = 1
      · have hi1 : i = 1 := by
          cases i with
          | zero => simp [hone] at hn
          | succ i =>
            have := hi i (by omega)
            simp at this
            omega
        subst hi1
        refine key ?_ (by omega)
        unfold need
        rw [if_neg (by omega), if_neg h4, if_pos h5, if_pos hone, List.take_of_length_le (by omega)]
      · have hi0 : i = 0 := by
          cases i with
          | zero => rfl
          | succ i =>
            have := hi i (by omega)
            simp [hone] at this
        subst hi0
        refine key ?_ (by omega)
        unfold need
        rw [if_neg (by omega), if_neg h4, if_pos h5, if_neg hone]
        rfl
    · simp only [h5, if_false] at hi hn
      by_cases h3 : t.kind = 3
      · simp only [h3, if_true] at hi hn
        have hle : i ≤ t.kids.length := by
          cases i with
          | zero => omega
          | succ i => have := hi i (by omega); simp at this; omega
        refine key ?_ hle
        unfold need
        rw [if_pos h3]
        refine needed_take t.kids i (fun j hj => ?_) fun q => ?_
        · have := hi j hj
          simpa using this
        · have : (decide (i < t.kids.length) && (decide (i = 0) || nullM (t.kids.getD (i - 1) noneM))) = true := by simpa using q
          rw [this] at hn
          cases hn
      · simp only [h3, if_false] at hi hn
        have hi0 : i = 0 := by
          cases i with
          | zero => rfl
          | succ i => have := hi i (by omega); cases this
        subst hi0
        refine key ?_ (by omega)
        unfold need
        rw [if_neg h3, if_neg h4, if_neg h5]
        rfl
/-- By what the needed kids say. -/
theorem null_need (t : RT) : nullM t = if t.kind = 1 ∨ t.kind = 5 then true else if t.kind = 3 then (need t).all nullM else if t.kind = 4 then (need t).any nullM else false := by
  have hna : ∀ l : List RT, (needed l).all nullM = l.all nullM := by
    intro l
    induction l with
    | nil => rfl
    | cons k l ih =>
      rw [needed]
      by_cases h : nullM k = true
      · rw [if_pos h, List.all_cons, List.all_cons, ih]
      · rw [if_neg h]
        simp [h]
  obtain ⟨k, s, kids⟩ := t
  rw [null_mk]
  show _ = if k = 1 ∨ k = 5 then true else if k = 3 then (need (.mk k s kids)).all nullM else if k = 4 then (need (.mk k s kids)).any nullM else false
  by_cases h1 : k = 1 ∨ k = 5
  · rw [if_pos h1, if_pos h1]
  · rw [if_neg h1, if_neg h1]
    by_cases h3 : k = 3
    · rw [if_pos h3, if_pos h3]
      unfold need
      show kids.all nullM = (if k = 3 then needed kids else _).all nullM
      rw [if_pos h3, hna]
    · rw [if_neg h3, if_neg h3]
      by_cases h4 : k = 4
      · rw [if_pos h4, if_pos h4]
        unfold need
        show kids.any nullM = (if k = 3 then needed kids else if k = 4 then kids else _).any nullM
        rw [if_neg h3, if_pos h4]
      · rw [if_neg h4, if_neg h4]
theorem deriv_need (c : Nat) (t : RT) : derivM c t = if t.kind = 2 then (if t.set.mem c then emptyM else noneM) else if t.kind = 4 then eitherM ((need t).map (derivM c)) else if t.kind = 5 then (match (need t).map (derivM c) with | [d] => catM [d, t] | _ => noneM)
    else if t.kind = 3 then eitherM (catTo t.kids ((need t).map (derivM c)) (need t).length) else noneM := by
  obtain ⟨k, s, kids⟩ := t
  rw [deriv_mk]
  show _ = if k = 2 then (if s.mem c then emptyM else noneM) else if k = 4 then eitherM ((need (.mk k s kids)).map (derivM c)) else if k = 5 then (match (need (.mk k s kids)).map (derivM c) with | [d] => catM [d, .mk k s kids] | _ => noneM)
    else if k = 3 then eitherM (catTo kids ((need (.mk k s kids)).map (derivM c)) (need (.mk k s kids)).length) else noneM
  by_cases h2 : k = 2
  · rw [if_pos h2, if_pos h2]
  rw [if_neg h2, if_neg h2]
  by_cases h3 : k = 3
  · subst h3
    rw [if_pos rfl, if_neg (by decide), if_neg (by decide), if_pos rfl, either_needed]
    rfl
  rw [if_neg h3]
  by_cases h4 : k = 4
  · subst h4
    rw [if_pos rfl, if_pos rfl]
    rfl
  rw [if_neg h4, if_neg h4]
  by_cases h5 : k = 5
  · subst h5
    rw [if_pos rfl, if_pos rfl]
    show _ = match (if kids.length = 1 then kids else []).map (derivM c) with | [d] => catM [d, .mk 5 s kids] | _ => noneM
    match kids with
    | [] => rfl
    | [x] => rfl
    | x :: y :: l => rfl
  rw [if_neg h5, if_neg h5, if_neg h3]
/-- What the calls want of sizes and depths. -/
structure FitD (c : Nat) (t : RT) : Prop where
  cat : t.kind = 3 → (∀ j, j < (need t).length → (((need t).map (derivM c)).getD j noneM).sz + ((t.kids.drop (j + 1)).map RT.sz).sum ≤ 9000000000) ∧ (∀ u ∈ catTo t.kids ((need t).map (derivM c)) (need t).length, u.dep < 10000) ∧
    ((catTo t.kids ((need t).map (derivM c)) (need t).length).map RT.sz).sum ≤ 9000000000 ∧ t.kids.length ≤ 9000000000
  either : t.kind = 4 → (∀ u ∈ (need t).map (derivM c), u.dep < 10000) ∧ (((need t).map (derivM c)).map RT.sz).sum ≤ 9000000000
  star : t.kind = 5 → ∀ d ∈ (need t).map (derivM c), d.sz + t.sz ≤ 9000000000
/-- The call returns what is found out. -/
def GivesFact (P : Nat → Prop) (c : Nat) (t : RT) (w : World) (e : Ending) (w' : World) : Prop := ∃ y : FV, e = .returned y.val ∧ RAt w' P y.re (derivM c t) ∧ y.nul = nullM t ∧ Below w.heap.size w w'
noncomputable def factOf (c : Nat) (k : RT) : RT × Bool := (derivM c k, nullM k)
theorem FactsR.bools {W : World} {P : Nat → Prop} {p : Option Addr} {n cap : Nat} {us : List FV} {c : Nat} {L : List RT} (h : FactsR W P p n cap us (L.map (factOf c))) : us.map FV.nul = L.map nullM := by
  apply List.ext_getElem?
  intro i
  have hl := h.len
  rw [List.length_map] at hl
  by_cases hi : i < L.length
  · have h1 : us[i]? = some us[i] := List.getElem?_eq_getElem (by omega)
    have h2 : L[i]? = some L[i] := List.getElem?_eq_getElem hi
    have := (h.each i _ _ h1 (by rw [List.getElem?_map, h2]; rfl)).2
    rw [List.getElem?_map, List.getElem?_map, h1, h2]
    simp [this, factOf]
  · rw [List.getElem?_eq_none (by simp; omega), List.getElem?_eq_none (by simp; omega)]
theorem any_nul {us : List FV} {L : List RT} (h : us.map FV.nul = L.map nullM) : us.any FV.nul = L.any nullM ∧ (!us.any fun x => !x.nul) = L.all nullM := by
  have e1 : us.any FV.nul = (us.map FV.nul).any id := by rw [List.any_map]; rfl
  have e2 : (us.any fun x => !x.nul) = (us.map FV.nul).any (fun b => !b) := by rw [List.any_map]; rfl
  rw [e1, e2, h]
  refine ⟨by rw [List.any_map]; rfl, ?_⟩
  rw [List.any_map, List.all_eq_not_any_not]
  rfl

end Go.Proofs.YtclnadjgbpihcaaGreatDoor

/-! found: what is found out about an expression. No condition but the library's table and size. -/
namespace Go.Proofs.YtclnadjgbpihcaaGreatDoor
open Go.RowKit Go.Lib
set_option linter.unusedVariables false
set_option linter.unusedSimpArgs false

theorem infoFact : (Tryz.prog.info? 58).map (fun i => (i.zero, i.size, i.bytes)) = some (some (.agg #[.int .i64 0, .int .u64 0, .int .u64 0, .int .u64 0, .int .u64 0, .slice none 0 0, .bool false]), 7, 72) := by kernel_rfl
theorem set7_heap {W : World} {D : Nat} {x0 x1 x2 x3 x4 x5 x6 : Value} {t : TypeId} (h : W.heap[D]? = some (.cells #[x0, x1, x2, x3, x4, x5, x6] t (0, 0))) (a b c d e f g : Value) :
    (((((((W.setCell ⟨D, 0, none⟩ a).setCell ⟨D, 1, none⟩ b).setCell ⟨D, 2, none⟩ c).setCell ⟨D, 3, none⟩ d).setCell ⟨D, 4, none⟩ e).setCell ⟨D, 5, none⟩ f).setCell ⟨D, 6, none⟩ g).heap[D]? = some (.cells #[a, b, c, d, e, f, g] t (0, 0)) := by
  rw [heap_setCell_same _ D 6 _ _ _ (heap_setCell_same _ D 5 _ _ _ (heap_setCell_same _ D 4 _ _ _ (heap_setCell_same _ D 3 _ _ _ (heap_setCell_same _ D 2 _ _ _ (heap_setCell_same _ D 1 _ _ _ (heap_setCell_same W D 0 _ _ a h))))))]
  rfl
theorem seven_set {W : World} {D : Nat} {B : Nat} {w : World} (h : Below B w W) (hD : B ≤ D) (a b c d e f g : Value) :
    Below B w (((((((W.setCell ⟨D, 0, none⟩ a).setCell ⟨D, 1, none⟩ b).setCell ⟨D, 2, none⟩ c).setCell ⟨D, 3, none⟩ d).setCell ⟨D, 4, none⟩ e).setCell ⟨D, 5, none⟩ f).setCell ⟨D, 6, none⟩ g) := (six_set h hD a b c d e f).setCell hD _
theorem seven_ne {W : World} {D g : Nat} (h : g ≠ D) (a b c d e f x : Value) :
    (((((((W.setCell ⟨D, 0, none⟩ a).setCell ⟨D, 1, none⟩ b).setCell ⟨D, 2, none⟩ c).setCell ⟨D, 3, none⟩ d).setCell ⟨D, 4, none⟩ e).setCell ⟨D, 5, none⟩ f).setCell ⟨D, 6, none⟩ x).heap[g]? = W.heap[g]? := by
  rw [heap_set_ne _ _ _ (by exact h), six_ne h]
theorem seven_facts {W : World} {D : Nat} {x0 x1 x2 x3 x4 x5 x6 : Value} {t : TypeId} (h : W.heap[D]? = some (.cells #[x0, x1, x2, x3, x4, x5, x6] t (0, 0))) :
    (W.cell? ⟨D, 0, none⟩ = some x0 ∧ W.cell? ⟨D, 1, none⟩ = some x1 ∧ W.cell? ⟨D, 2, none⟩ = some x2 ∧ W.cell? ⟨D, 3, none⟩ = some x3 ∧ W.cell? ⟨D, 4, none⟩ = some x4 ∧ W.cell? ⟨D, 5, none⟩ = some x5 ∧ W.cell? ⟨D, 6, none⟩ = some x6) ∧
    (W.frozen? ⟨D, 0, none⟩ = false ∧ W.frozen? ⟨D, 1, none⟩ = false ∧ W.frozen? ⟨D, 2, none⟩ = false ∧ W.frozen? ⟨D, 3, none⟩ = false ∧ W.frozen? ⟨D, 4, none⟩ = false ∧ W.frozen? ⟨D, 5, none⟩ = false ∧ W.frozen? ⟨D, 6, none⟩ = false) :=
  ⟨⟨by simp [World.cell?, h], by simp [World.cell?, h], by simp [World.cell?, h], by simp [World.cell?, h], by simp [World.cell?, h], by simp [World.cell?, h], by simp [World.cell?, h]⟩, frozen_no h 0, frozen_no h 1, frozen_no h 2, frozen_no h 3, frozen_no h 4, frozen_no h 5, frozen_no h 6⟩
/-- Behind the switch. -/
def Mid (P : Nat → Prop) (w : World) (B D : Nat) (N : Bool) (R : RT) (W : World) : Prop := ∃ (e0 e1 e2 e3 e4 : Int) (q : Option Addr) (m cp : Nat), W.heap[B]? = some (.cells #[.int .i64 e0, .int .u64 e1, .int .u64 e2, .int .u64 e3, .int .u64 e4, .slice q m cp, .bool N] 58 (0, 0)) ∧
  W.heap[D]? = some (.cells #[.int .i64 0, .int .u64 0, .int .u64 0, .int .u64 0, .int .u64 0, .slice none 0 0, .bool false] 58 (0, 0)) ∧ RAt W (fun g => (P g ∧ g < w.heap.size) ∨ B < g) ⟨e0, e1, e2, e3, e4, q, m, cp⟩ R ∧ Below w.heap.size w W
/-- The four ways to an answer, by the kind. -/
structure WaysD (P : Nat → Prop) (w : World) (c : Nat) (b o : Nat) (k : Int) (p : Option Addr) (n cap : Nat) (R : RT) : Prop where
  two : k = 2 → ∀ W, Below w.heap.size w W → Calls Tryz.prog 43 #[.pointer (some ⟨b, o, none⟩), .int .i64 (c : Int)] W (GivesRe (fun g => (P g ∧ g < w.heap.size) ∨ W.heap.size ≤ g) R W)
  four : k = 4 → ∀ W, Below w.heap.size w W → Calls Tryz.prog 44 #[.pointer (some ⟨b, o, none⟩), .slice p n cap] W (GivesRe (fun g => (P g ∧ g < w.heap.size) ∨ W.heap.size ≤ g) R W)
  five : k = 5 → ∀ W, Below w.heap.size w W → Calls Tryz.prog 45 #[.pointer (some ⟨b, o, none⟩), .slice p n cap] W (GivesRe (fun g => (P g ∧ g < w.heap.size) ∨ W.heap.size ≤ g) R W)
  three : k = 3 → ∀ W, Below w.heap.size w W → Calls Tryz.prog 46 #[.pointer (some ⟨b, o, none⟩), .slice p n cap] W (GivesRe (fun g => (P g ∧ g < w.heap.size) ∨ W.heap.size ≤ g) R W)
  other : k ≠ 2 → k ≠ 4 → k ≠ 5 → k ≠ 3 → R = noneM

theorem mid_six {P : Nat → Prop} {w w4 w5 : World} {B D : Nat} {N : Bool} {R : RT} {e0 e1 e2 e3 e4 : Int} {q : Option Addr} {m cp : Nat} (hz : RAt w5 (fun g => (P g ∧ g < w.heap.size) ∨ w4.heap.size ≤ g) ⟨e0, e1, e2, e3, e4, q, m, cp⟩ R)
    (hB : w5.heap[B]? = some (.cells #[.int .i64 0, .int .u64 0, .int .u64 0, .int .u64 0, .int .u64 0, .slice none 0 0, .bool N] 58 (0, 0))) (hD : w5.heap[D]? = some (.cells #[.int .i64 0, .int .u64 0, .int .u64 0, .int .u64 0, .int .u64 0, .slice none 0 0, .bool false] 58 (0, 0)))
    (hb : Below w.heap.size w w5) (hw : w.heap.size ≤ B) (hDB : D < B) (hDw : w.heap.size ≤ D) (hs : w4.heap.size = B + 1) : Mid P w B D N R ((((((w5.setCell ⟨B, 0, none⟩ (.int .i64 e0)).setCell ⟨B, 1, none⟩ (.int .u64 e1)).setCell ⟨B, 2, none⟩ (.int .u64 e2)).setCell ⟨B, 3, none⟩ (.int .u64 e3)).setCell ⟨B, 4, none⟩ (.int .u64 e4)).setCell ⟨B, 5, none⟩ (.slice q m cp)) := by
  refine ⟨e0, e1, e2, e3, e4, q, m, cp, ?_, (six_ne (by omega) _ _ _ _ _ _).trans hD, ?_, six_set hb hw _ _ _ _ _ _⟩
  · rw [heap_setCell_same _ B 5 _ _ _ (heap_setCell_same _ B 4 _ _ _ (heap_setCell_same _ B 3 _ _ _ (heap_setCell_same _ B 2 _ _ _ (heap_setCell_same _ B 1 _ _ _ (heap_setCell_same _ B 0 _ _ _ hB)))))]
    rfl
  · refine hz.kept (Keeps.of (by simp [World.setCell]) fun z hz _ => ?_)
    refine ⟨six_ne (by rcases hz with ⟨_, hz⟩ | hz <;> omega) _ _ _ _ _ _, ?_⟩
    rcases hz with hz | hz
    · exact .inl hz
    · exact .inr (by omega)

set_option maxRecDepth 100000 in
set_option maxHeartbeats 8000000 in
theorem found_walk {P PF : Nat → Prop} (w : World) (c : Nat) (b o : Nat) (x : ReV) (hp : PlaceR w b o x) {p : Option Addr} {n cap : Nat} {us : List FV} (h : RowF w PF p n cap us) (hn : n ≤ 9000000000) (R : RT) (hw : WaysD P w c b o x.kind p n cap R) (N : Bool)
    (hN : N = if x.kind = 1 ∨ x.kind = 5 then true else if x.kind = 3 then !(us.any fun x => !x.nul) else if x.kind = 4 then us.any FV.nul else false) :
    Calls Tryz.prog 27 #[.pointer (some ⟨b, o, none⟩), .slice p n cap, .int .i64 (c : Int)] w (fun e w' => ∃ y : FV, e = .returned y.val ∧ RAt w' (fun g => P g ∨ w.heap.size ≤ g) y.re R ∧ y.nul = N ∧ Below w.heap.size w w') := by
  obtain ⟨D, hD⟩ : ∃ D, D = w.heap.size := ⟨_, rfl⟩
  obtain ⟨w1, hw1⟩ : ∃ w1 : World, w1 = w.alloc (.cells #[.int .i64 0, .int .u64 0, .int .u64 0, .int .u64 0, .int .u64 0, .slice none 0 0, .bool false] 58) := ⟨_, rfl⟩
  have hb1 : Below w.heap.size w w1 := by rw [hw1]; exact (Below.refl _ _).alloc (Nat.le_refl _) _
  have hnD : w1.heap[D]? = some (.cells #[.int .i64 0, .int .u64 0, .int .u64 0, .int .u64 0, .int .u64 0, .slice none 0 0, .bool false] 58 (0, 0)) := by rw [hw1, hD]; exact heap_alloc_new _ _
  have hs1 : w1.heap.size = D + 1 := by rw [hw1, hD]; simp
  have c1 := containsF_any 41 #[] (by intros; rfl) FV.nul w1 (fun W x _ => isnullable_any W x) (h.under hb1) (by omega)
  obtain ⟨S, hS⟩ : ∃ S, S = us.any FV.nul := ⟨_, rfl⟩
  obtain ⟨T, hT⟩ : ∃ T, T = us.any fun x => !x.nul := ⟨_, rfl⟩
  rw [← hS] at c1
  rw [← hS, ← hT] at hN
  have HPL := Lib.hid hp
  have HROW := Lib.hid h
  have HWY := Lib.hid hw
  have HNN := Lib.hid hN
  have HTT := Lib.hid hT
  have HB1 := Lib.hid hb1
  have HND := Lib.hid hnD
  have HW1 := Lib.hid hw1
  have HDD := Lib.hid hD
  have HS1 := Lib.hid hs1
  clear hp h hw hN hS hT hb1 hnD hw1 hD hs1
  go_enter Tryz.func27, Tryz.ntmps27
  go_wp2_with fail
  rw [← HW1.out, ← HDD.out]
  ((with_reducible refine c1.mono ?_))
  rintro _ w2 ⟨rfl, hb2⟩
  have HB2 : Hid (Below w1.heap.size w1 w2) := hb2
  have hb02 : Below w.heap.size w w2 := HB1.out.trans (hb2.mono HB1.out.size)
  have c2 := containsF_any 42 #[] (by intros; rfl) (fun x => !x.nul) w2 (fun W x _ => isnotnullable_any W x) (HROW.out.under hb02) (by omega)
  rw [← HTT.out] at c2
  clear c1 hb2 hb02
  go_wp2_with fail
  ((with_reducible refine c2.mono ?_))
  rintro _ w3 ⟨rfl, hb3⟩
  have HB3 : Hid (Below w1.heap.size w1 w3) := HB2.out.trans (hb3.mono HB2.out.size)
  have HB03 : Hid (Below w.heap.size w w3) := HB1.out.trans (HB3.out.mono HB1.out.size)
  have c3 := exprnull_any w3 b o x (HPL.out.under HB03.out) S (!T)
  obtain ⟨k, hk⟩ : ∃ k, k = x.kind := ⟨_, rfl⟩
  rw [← hk] at HWY HNN c3
  rw [← HNN.out] at c3
  have hcell := (HPL.out.under HB03.out).six.1
  rw [← hk] at hcell
  have HC0 : Hid (∀ W, Below w.heap.size w W → W.cell? ⟨b, o, none⟩ = some (.int .i64 k)) := fun W hb => by rw [hk]; exact (HPL.out.under hb).six.1
  clear c2 hb3 hk hcell
  go_wp2_with fail
  ((with_reducible refine c3.mono ?_))
  rintro _ _ ⟨rfl, rfl⟩
  clear c3
  obtain ⟨B, hB⟩ : ∃ B, B = w3.heap.size := ⟨_, rfl⟩
  obtain ⟨w4, hw4⟩ : ∃ w4 : World, w4 = w3.alloc (.cells #[.int .i64 0, .int .u64 0, .int .u64 0, .int .u64 0, .int .u64 0, .slice none 0 0, .bool N] 58) := ⟨_, rfl⟩
  have hb4 : Below w3.heap.size w3 w4 := by rw [hw4]; exact (Below.refl _ _).alloc (Nat.le_refl _) _
  have hb04 : Below w.heap.size w w4 := HB03.out.trans (hb4.mono HB03.out.size)
  have hn4 : w4.heap[B]? = some (.cells #[.int .i64 0, .int .u64 0, .int .u64 0, .int .u64 0, .int .u64 0, .slice none 0 0, .bool N] 58 (0, 0)) := by rw [hw4, hB]; exact heap_alloc_new _ _
  have hD4 : w4.heap[D]? = some (.cells #[.int .i64 0, .int .u64 0, .int .u64 0, .int .u64 0, .int .u64 0, .slice none 0 0, .bool false] 58 (0, 0)) := by
    have hl : D < w1.heap.size := by rw [HS1.out]; omega
    exact (hb4.block D (Nat.lt_of_lt_of_le hl HB3.out.size)).trans ((HB3.out.block D hl).trans HND.out)
  have hs4 : w4.heap.size = B + 1 := by rw [hw4, hB]; simp
  have hDB : D < B := by rw [hB]; have := HB3.out.size; have := HS1.out; omega
  have k0 := HC0.out w4 hb04
  rw [hw4] at k0
  have HW4 := Lib.hid hw4
  have HBB := Lib.hid hB
  have HB04 := Lib.hid hb04
  have HN4 := Lib.hid hn4
  have HD4 := Lib.hid hD4
  have HS4 := Lib.hid hs4
  have HDB := Lib.hid hDB
  clear hb4 hb04 hn4 hD4 hs4 hw4 hB hDB
  go_upto_block 0 with fail
  rw [← HW4.out, ← HBB.out]
  rw [← HW4.out] at k0
  go_cut [] from 24 to 47 (fun W => Mid P w B D N R W)
  case first =>
    by_cases k2 : k = 2
    · subst k2
      have c5 := HWY.out.two rfl w4 HB04.out
      go_wp2_with fail
      ((with_reducible refine c5.mono ?_))
      rintro _ w5 ⟨z, rfl, hz, hb5⟩
      obtain ⟨e0, e1, e2, e3, e4, q5, m5, cp5⟩ := z
      have HZ := Lib.hid hz
      have HB5 := Lib.hid hb5
      have h5B : w5.heap[B]? = some (.cells #[.int .i64 0, .int .u64 0, .int .u64 0, .int .u64 0, .int .u64 0, .slice none 0 0, .bool N] 58 (0, 0)) := (hb5.block B (by rw [HS4.out]; omega)).trans HN4.out
      have h5D : w5.heap[D]? = some (.cells #[.int .i64 0, .int .u64 0, .int .u64 0, .int .u64 0, .int .u64 0, .slice none 0 0, .bool false] 58 (0, 0)) := (hb5.block D (by rw [HS4.out]; have := HDB.out; omega)).trans HD4.out
      obtain ⟨⟨x0, x1, x2, x3, x4, x5, x6⟩, f0, f1, f2, f3, f4, f5, f6⟩ := seven_facts h5B
      have H5B := Lib.hid h5B
      have H5D := Lib.hid h5D
      clear hz hb5 c5 h5B h5D
      unfold ReV.val
      go_wp2_with fail
      go_meet
      exact mid_six HZ.out H5B.out H5D.out (HB04.out.trans (HB5.out.mono HB04.out.size)) (by have := HBB.out; have := HB03.out.size; omega) HDB.out (by have := HDD.out; omega) (by rw [HS4.out])
    have q2 : (k == 2) = false := by simpa using k2
    by_cases k4 : k = 4
    · subst k4
      have c5 := HWY.out.four rfl w4 HB04.out
      go_wp2_with fail
      ((with_reducible refine c5.mono ?_))
      rintro _ w5 ⟨z, rfl, hz, hb5⟩
      obtain ⟨e0, e1, e2, e3, e4, q5, m5, cp5⟩ := z
      have HZ := Lib.hid hz
      have HB5 := Lib.hid hb5
      have h5B : w5.heap[B]? = some (.cells #[.int .i64 0, .int .u64 0, .int .u64 0, .int .u64 0, .int .u64 0, .slice none 0 0, .bool N] 58 (0, 0)) := (hb5.block B (by rw [HS4.out]; omega)).trans HN4.out
      have h5D : w5.heap[D]? = some (.cells #[.int .i64 0, .int .u64 0, .int .u64 0, .int .u64 0, .int .u64 0, .slice none 0 0, .bool false] 58 (0, 0)) := (hb5.block D (by rw [HS4.out]; have := HDB.out; omega)).trans HD4.out
      obtain ⟨⟨x0, x1, x2, x3, x4, x5, x6⟩, f0, f1, f2, f3, f4, f5, f6⟩ := seven_facts h5B
      have H5B := Lib.hid h5B
      have H5D := Lib.hid h5D
      clear hz hb5 c5 h5B h5D
      unfold ReV.val
      go_wp2_with fail
      go_meet
      exact mid_six HZ.out H5B.out H5D.out (HB04.out.trans (HB5.out.mono HB04.out.size)) (by have := HBB.out; have := HB03.out.size; omega) HDB.out (by have := HDD.out; omega) (by rw [HS4.out])
    have q4 : (k == 4) = false := by simpa using k4
    by_cases k5 : k = 5
    · subst k5
      have c5 := HWY.out.five rfl w4 HB04.out
      go_wp2_with fail
      ((with_reducible refine c5.mono ?_))
      rintro _ w5 ⟨z, rfl, hz, hb5⟩
      obtain ⟨e0, e1, e2, e3, e4, q5, m5, cp5⟩ := z
      have HZ := Lib.hid hz
      have HB5 := Lib.hid hb5
      have h5B : w5.heap[B]? = some (.cells #[.int .i64 0, .int .u64 0, .int .u64 0, .int .u64 0, .int .u64 0, .slice none 0 0, .bool N] 58 (0, 0)) := (hb5.block B (by rw [HS4.out]; omega)).trans HN4.out
      have h5D : w5.heap[D]? = some (.cells #[.int .i64 0, .int .u64 0, .int .u64 0, .int .u64 0, .int .u64 0, .slice none 0 0, .bool false] 58 (0, 0)) := (hb5.block D (by rw [HS4.out]; have := HDB.out; omega)).trans HD4.out
      obtain ⟨⟨x0, x1, x2, x3, x4, x5, x6⟩, f0, f1, f2, f3, f4, f5, f6⟩ := seven_facts h5B
      have H5B := Lib.hid h5B
      have H5D := Lib.hid h5D
      clear hz hb5 c5 h5B h5D
      unfold ReV.val
      go_wp2_with fail
      go_meet
      exact mid_six HZ.out H5B.out H5D.out (HB04.out.trans (HB5.out.mono HB04.out.size)) (by have := HBB.out; have := HB03.out.size; omega) HDB.out (by have := HDD.out; omega) (by rw [HS4.out])
    have q5 : (k == 5) = false := by simpa using k5
    by_cases k3 : k = 3
    · subst k3
      have c5 := HWY.out.three rfl w4 HB04.out
      go_wp2_with fail
      ((with_reducible refine c5.mono ?_))
      rintro _ w5 ⟨z, rfl, hz, hb5⟩
      obtain ⟨e0, e1, e2, e3, e4, q5, m5, cp5⟩ := z
      have HZ := Lib.hid hz
      have HB5 := Lib.hid hb5
      have h5B : w5.heap[B]? = some (.cells #[.int .i64 0, .int .u64 0, .int .u64 0, .int .u64 0, .int .u64 0, .slice none 0 0, .bool N] 58 (0, 0)) := (hb5.block B (by rw [HS4.out]; omega)).trans HN4.out
      have h5D : w5.heap[D]? = some (.cells #[.int .i64 0, .int .u64 0, .int .u64 0, .int .u64 0, .int .u64 0, .slice none 0 0, .bool false] 58 (0, 0)) := (hb5.block D (by rw [HS4.out]; have := HDB.out; omega)).trans HD4.out
      obtain ⟨⟨x0, x1, x2, x3, x4, x5, x6⟩, f0, f1, f2, f3, f4, f5, f6⟩ := seven_facts h5B
      have H5B := Lib.hid h5B
      have H5D := Lib.hid h5D
      clear hz hb5 c5 h5B h5D
      unfold ReV.val
      go_wp2_with fail
      go_meet
      exact mid_six HZ.out H5B.out H5D.out (HB04.out.trans (HB5.out.mono HB04.out.size)) (by have := HBB.out; have := HB03.out.size; omega) HDB.out (by have := HDD.out; omega) (by rw [HS4.out])
    have q3 : (k == 3) = false := by simpa using k3
    have HO := Lib.hid (HWY.out.other k2 k4 k5 k3)
    clear k2 k4 k5 k3
    go_wp2_with fail
    go_meet
    refine ⟨0, 0, 0, 0, 0, none, 0, 0, HN4.out, HD4.out, ?_, HB04.out⟩
    rw [HO.out]
    exact kids_empty.tree 0 W4.zero zero_ok
  case rest =>
    obtain ⟨e0, e1, e2, e3, e4, q5, m5, cp5, hB6, hD6, hra, hbw⟩ := hcut
    obtain ⟨⟨g0, g1, g2, g3, g4, g5, g6⟩, _⟩ := seven_facts hB6
    obtain ⟨⟨d0, d1, d2, d3, d4, d5, d6⟩, j0, j1, j2, j3, j4, j5, j6⟩ := seven_facts hD6
    have HD6 := Lib.hid hD6
    have HRA := Lib.hid hra
    have HBW := Lib.hid hbw
    clear hB6 hD6 hra hbw
    go_wp2
    refine bodyPost_ret_by (results_cell_row rfl _ _ D 58 #[.int .i64 e0, .int .u64 e1, .int .u64 e2, .int .u64 e3, .int .u64 e4, .slice q5 m5 cp5, .bool N] (0, 0) _ rfl (set7_heap HD6.out _ _ _ _ _ _ _) Tryz.underlying58 rfl (by kernel_rfl)) rfl ?_
    have h1 := HDD.out
    have h2 := HDB.out
    refine ⟨⟨⟨e0, e1, e2, e3, e4, q5, m5, cp5⟩, N⟩, rfl, ?_, rfl, seven_set HBW.out (by omega) _ _ _ _ _ _ _⟩
    refine HRA.out.kept (Keeps.of (by simp [World.setCell]) fun z hz _ => ?_)
    refine ⟨seven_ne (by rcases hz with ⟨_, hz⟩ | hz <;> omega) _ _ _ _ _ _ _, ?_⟩
    rcases hz with ⟨hz, _⟩ | hz
    · exact .inl hz
    · exact .inr (by omega)

end Go.Proofs.YtclnadjgbpihcaaGreatDoor

/-! found answers what the document says. No condition but the library's table and size. -/
namespace Go.Proofs.YtclnadjgbpihcaaGreatDoor
open Go.RowKit Go.Lib
set_option linter.unusedVariables false
set_option linter.unusedSimpArgs false

theorem GivesRe.weak {P P' : Nat → Prop} {t : RT} {w w' : World} {e : Ending} (h : GivesRe P t w e w') (hk : ∀ g, P g → P' g) : GivesRe P' t w e w' := by
  obtain ⟨x, h1, h2, h3⟩ := h
  exact ⟨x, h1, h2.weak fun g hg _ => hk g hg, h3⟩
theorem need_kids {t k : RT} (h : k ∈ need t) : k ∈ t.kids := by
  unfold need at h
  split at h
  · obtain ⟨m, h1, _⟩ := needed_pre t.kids
    rw [h1] at h
    exact List.mem_of_mem_take h
  · split at h
    · exact h
    · split at h
      · split at h
        · exact h
        · simp at h
      · simp at h
theorem need_len (t : RT) : (need t).length ≤ t.kids.length := by
  unfold need
  split
  · obtain ⟨m, h1, _⟩ := needed_pre t.kids
    rw [h1, List.length_take]
    omega
  · split
    · exact Nat.le_refl _
    · split
      · split
        · exact Nat.le_refl _
        · simp
      · simp

set_option maxRecDepth 100000 in
set_option maxHeartbeats 4000000 in
theorem found_any {P : Nat → Prop} (w : World) (c : Nat) (hc : c < 256) (b o : Nat) (x : ReV) (t : RT) (hp : PlaceR w b o x) (ht : RAt w P x t) {p : Option Addr} {n cap : Nat} {us : List FV} (h : FactsR w P p n cap us ((need t).map (factOf c))) (hT : Tab1 w) (hf : FitD c t) (hn9 : n ≤ 9000000000) :
    Calls Tryz.prog 27 #[.pointer (some ⟨b, o, none⟩), .slice p n cap, .int .i64 (c : Int)] w (GivesFact (fun g => P g ∨ w.heap.size ≤ g) c t w) := by
  have hbools := any_nul h.bools
  obtain ⟨_, et, _, hk⟩ := ht.kids
  have hkd : x.kind = t.kind := by rw [et]; rfl
  have hnum : n = (need t).length := by have := h.num; simpa using this
  have hN : nullM t = if x.kind = 1 ∨ x.kind = 5 then true else if x.kind = 3 then !(us.any fun x => !x.nul) else if x.kind = 4 then us.any FV.nul else false := by
    rw [null_need, hbools.1, hbools.2, hkd]
  have h0 : FactsR w (fun g => P g ∧ g < w.heap.size) p n cap us ((need t).map (factOf c)) := h.weak fun b hp hl => ⟨hp, hl⟩
  have ht0 : RAt w (fun g => P g ∧ g < w.heap.size) x t := ht.weak fun g hg hl => ⟨hg, hl⟩
  have emap : ((need t).map (factOf c)).map Prod.fst = (need t).map (derivM c) := by rw [List.map_map]; rfl
  refine found_walk w c b o x hp h.rowf hn9 (derivM c t) ?_ (nullM t) hN
  rw [hkd, deriv_need c t]
  refine ⟨fun e W hb => ?_, fun e W hb => ?_, fun e W hb => ?_, fun e W hb => ?_, fun e2 e4 e5 e3 => ?_⟩
  · rw [if_pos e]
    exact (ofbyte_any W b o x t (hp.under hb) (ht0.under hb) c hc).mono fun e w' hg => hg.weak fun g hg => .inl hg
  · rw [if_neg (by omega), if_pos e]
    have := ofeither_any W (.pointer (some ⟨b, o, none⟩)) (h0.under hb) (hT.stays hb) (fun r hr => by
      obtain ⟨k, hk, rfl⟩ := List.mem_map.1 hr
      exact (hf.either e).1 _ (List.mem_map_of_mem hk)) (by rw [emap]; exact (hf.either e).2)
    rw [emap] at this
    exact this
  · rw [if_neg (by omega), if_neg (by omega), if_pos e]
    have hne : need t = if t.kids.length = 1 then t.kids else [] := by
      unfold need
      rw [if_neg (by omega), if_neg (by omega), if_pos e]
    by_cases h1 : t.kids.length = 1
    · obtain ⟨k, hk1⟩ := List.length_eq_one_iff.1 h1
      rw [if_pos h1, hk1] at hne
      rw [hne] at h0 ⊢
      have hn1 : n = 1 := by rw [hnum, hne]; rfl
      subst hn1
      exact ofstar_any W b o x t (hp.under hb) (ht0.under hb) (h0.under hb) (hf.star e _ (by rw [hne]; exact List.mem_map_of_mem (by simp)))
    · rw [if_neg h1] at hne
      rw [hne]
      have hn0 : n = 0 := by rw [hnum, hne]; rfl
      subst hn0
      exact (ofstar_none W b o p cap).mono fun e w' hg => hg
  · rw [if_neg (by omega), if_neg (by omega), if_neg (by omega), if_pos e]
    have hcat := hf.cat e
    have hlen : (need t).length = n := hnum.symm
    rw [hlen] at hcat ⊢
    have := ofcat_any W b o x t (hp.under hb) (ht0.under hb) (h0.under hb) (by rw [hnum]; exact need_len t) (hT.stays hb) (by rw [emap]; exact hcat.1) (by rw [emap]; exact hcat.2.1) (by rw [emap]; exact hcat.2.2.1) hcat.2.2.2
    rw [emap] at this
    exact this
  · rw [if_neg e2, if_neg e4, if_neg e5, if_neg e3]

set_option maxRecDepth 100000 in
set_option maxHeartbeats 4000000 in
/-- The closure: it reads the byte out of its box. -/
theorem settleD_any {P : Nat → Prop} (w : World) (c : Nat) (hc : c < 256) (bx : Nat) (hbx : w.cell? ⟨bx, 0, none⟩ = some (.int .i64 (c : Int))) (b o : Nat) (x : ReV) (t : RT) (hp : PlaceR w b o x) (ht : RAt w P x t) {p : Option Addr} {n cap : Nat} {us : List FV} (h : FactsR w P p n cap us ((need t).map (factOf c))) (hT : Tab1 w) (hf : FitD c t) (hn9 : n ≤ 9000000000) :
    Calls Tryz.prog 26 #[.pointer (some ⟨b, o, none⟩), .slice p n cap, .pointer (some ⟨bx, 0, none⟩)] w (GivesFact (fun g => P g ∨ w.heap.size ≤ g) c t w) := by
  obtain ⟨D, hD⟩ : ∃ D, D = w.heap.size := ⟨_, rfl⟩
  obtain ⟨w1, hw1⟩ : ∃ w1 : World, w1 = w.alloc (.cells #[.int .i64 0, .int .u64 0, .int .u64 0, .int .u64 0, .int .u64 0, .slice none 0 0, .bool false] 58) := ⟨_, rfl⟩
  have hb1 : Below w.heap.size w w1 := by rw [hw1]; exact (Below.refl _ _).alloc (Nat.le_refl _) _
  have hnD : w1.heap[D]? = some (.cells #[.int .i64 0, .int .u64 0, .int .u64 0, .int .u64 0, .int .u64 0, .slice none 0 0, .bool false] 58 (0, 0)) := by rw [hw1, hD]; exact heap_alloc_new _ _
  have hs1 : w1.heap.size = D + 1 := by rw [hw1, hD]; simp
  have hl : bx < w.heap.size := by
    unfold World.cell? at hbx
    cases e : w.heap[bx]? with
    | none => simp [e] at hbx
    | some o => exact (Array.getElem?_eq_some_iff.1 e).1
  have k0 := (hb1.cell (p := ⟨bx, 0, none⟩) hl).trans hbx
  rw [hw1] at k0
  have h0 : FactsR w (fun g => P g ∧ g < w.heap.size) p n cap us ((need t).map (factOf c)) := h.weak fun b hp hl => ⟨hp, hl⟩
  have ht0 : RAt w (fun g => P g ∧ g < w.heap.size) x t := ht.weak fun g hg hl => ⟨hg, hl⟩
  have c1 := found_any w1 c hc b o x t (hp.under hb1) (ht0.under hb1) (h0.under hb1) (hT.stays hb1) hf hn9
  have HB1 := Lib.hid hb1
  have HND := Lib.hid hnD
  have HW1 := Lib.hid hw1
  have HDD := Lib.hid hD
  have HS1 := Lib.hid hs1
  clear hbx hl hp ht h hT h0 ht0 hb1 hnD hw1 hD hs1
  go_enter Tryz.func26, Tryz.ntmps26
  go_wp2_with fail
  rw [← HW1.out, ← HDD.out]
  ((with_reducible refine c1.mono ?_))
  rintro _ w5 ⟨y, rfl, hy, hyn, hb5⟩
  obtain ⟨⟨e0, e1, e2, e3, e4, q5, m5, cp5⟩, nb⟩ := y
  have hD5 : w5.heap[D]? = some (.cells #[.int .i64 0, .int .u64 0, .int .u64 0, .int .u64 0, .int .u64 0, .slice none 0 0, .bool false] 58 (0, 0)) := (hb5.block D (by rw [HS1.out]; omega)).trans HND.out
  obtain ⟨⟨d0, d1, d2, d3, d4, d5, d6⟩, j0, j1, j2, j3, j4, j5, j6⟩ := seven_facts hD5
  have HD5 := Lib.hid hD5
  have HY := Lib.hid hy
  have HYN := Lib.hid hyn
  have HB5 := Lib.hid hb5
  clear hy hyn hb5 hD5 c1
  unfold FV.val
  go_wp2
  refine bodyPost_ret_by (results_cell_row rfl _ _ D 58 #[.int .i64 e0, .int .u64 e1, .int .u64 e2, .int .u64 e3, .int .u64 e4, .slice q5 m5 cp5, .bool nb] (0, 0) _ rfl (set7_heap HD5.out _ _ _ _ _ _ _) Tryz.underlying58 rfl (by kernel_rfl)) rfl ?_
  have h1 := HDD.out
  have h2 := HS1.out
  refine ⟨⟨⟨e0, e1, e2, e3, e4, q5, m5, cp5⟩, nb⟩, rfl, ?_, HYN.out, seven_set (HB1.out.trans (HB5.out.mono HB1.out.size)) (by omega) _ _ _ _ _ _ _⟩
  refine HY.out.kept (Keeps.of (by simp [World.setCell]) fun z hz _ => ?_)
  refine ⟨seven_ne (by rcases hz with ⟨_, hz⟩ | hz <;> omega) _ _ _ _ _ _ _, ?_⟩
  rcases hz with ⟨hz, _⟩ | hz
  · exact .inl hz
  · exact .inr (by omega)

end Go.Proofs.YtclnadjgbpihcaaGreatDoor

/-! The kid of an open part that comes next; whether one more is wanted. No condition but size. -/
namespace Go.Proofs.YtclnadjgbpihcaaGreatDoor
open Go.RowKit Go.Lib
set_option linter.unusedVariables false
set_option linter.unusedSimpArgs false

theorem four_set {W : World} {D : Nat} {B : Nat} {w : World} (h : Below B w W) (hD : B ≤ D) (a b c d : Value) :
    Below B w ((((W.setCell ⟨D, 0, none⟩ a).setCell ⟨D, 1, none⟩ b).setCell ⟨D, 2, none⟩ c).setCell ⟨D, 3, none⟩ d) := (((h.setCell hD _).setCell hD _).setCell hD _).setCell hD _
/-- The mark of a kid. -/
def markK (b o : Nat) (m : Option Addr) (d : Nat) : Option Addr := if (bits .and .i64 (d : Int) ((d : Int) - 1) == 0) = true then some ⟨b, o, none⟩ else m

set_option maxRecDepth 100000 in
set_option maxHeartbeats 2000000 in
theorem nextF_any (W : World) (go oo b o d i cp : Nat) (m q : Option Addr) (x : ReV) (gk offk : Nat) (h0 : W.cell? ⟨go, oo, none⟩ = some (.pointer (some ⟨b, o, none⟩))) (h1 : W.cell? ⟨go, oo + 1, none⟩ = some (.pointer m))
    (h2 : W.cell? ⟨go, oo + 2, none⟩ = some (.int .i64 d)) (h3 : W.cell? ⟨go, oo + 3, none⟩ = some (.slice q i cp)) (hp : PlaceR W b o x) (hx : x.p = some ⟨gk, offk, none⟩) (hi : i < x.n) (hd : d ≤ 1000000000000) :
    Calls Tryz.prog 47 #[.pointer (some ⟨go, oo, none⟩)] W fun e w' => e = .returned (.agg #[.pointer (some ⟨gk, offk + i * 6, none⟩), .pointer (markK b o m d), .int .i64 ((d : Int) + 1), .slice none 0 0]) ∧ Below W.heap.size W w' := by
  obtain ⟨_, _, _, _, _, c5⟩ := hp.six
  obtain ⟨n, hn⟩ : ∃ n, n = x.n := ⟨_, rfl⟩
  obtain ⟨cap, hcap⟩ : ∃ cap, cap = x.cap := ⟨_, rfl⟩
  rw [hx, ← hn, ← hcap] at c5
  rw [← hn] at hi
  have hltz : (i : Int) < (n : Int) := by omega
  have hwd : IntKind.i64.wrap ((d : Int) + 1) = (d : Int) + 1 := by rw [IntKind.wrap_i64]; omega
  obtain ⟨W1, hW1⟩ : ∃ W1 : World, W1 = W.alloc (.cells #[.pointer none, .pointer none, .int .i64 0, .slice none 0 0] 80) := ⟨_, rfl⟩
  have hb1 : Below W.heap.size W W1 := by rw [hW1]; exact (Below.refl _ _).alloc (Nat.le_refl _) _
  have hn1 : W1.heap[W.heap.size]? = some (.cells #[.pointer none, .pointer none, .int .i64 0, .slice none 0 0] 80 (0, 0)) := by rw [hW1]; exact heap_alloc_new _ _
  have hs1 : W1.heap.size = W.heap.size + 1 := by rw [hW1]; simp
  have hgo : ∀ (j : Nat) (v : Value), W.cell? ⟨go, j, none⟩ = some v → W1.cell? ⟨go, j, none⟩ = some v := fun j v h => by
    have hl : go < W.heap.size := by
      unfold World.cell? at h
      cases e : W.heap[go]? with
      | none => simp [e] at h
      | some o => exact (Array.getElem?_eq_some_iff.1 e).1
    exact (hb1.cell (p := ⟨go, j, none⟩) hl).trans h
  have k0 := hgo _ _ h0
  have k1 := hgo _ _ h1
  have k2 := hgo _ _ h2
  have k3 := hgo _ _ h3
  have c5' := (hp.under hb1).six.2.2.2.2.2
  rw [hx, ← hn, ← hcap] at c5'
  have hb2 : Below W1.heap.size W1 (W1.alloc (.cells #[.pointer none, .pointer none, .int .i64 0, .slice none 0 0] 80)) := (Below.refl _ _).alloc (Nat.le_refl _) _
  have hg2 : ∀ (j : Nat) (v : Value), W1.cell? ⟨go, j, none⟩ = some v → ((W1.alloc (.cells #[.pointer none, .pointer none, .int .i64 0, .slice none 0 0] 80)).drew).cell? ⟨go, j, none⟩ = some v := fun j v h => by
    have hl : go < W1.heap.size := by
      unfold World.cell? at h
      cases e : W1.heap[go]? with
      | none => simp [e] at h
      | some o => exact (Array.getElem?_eq_some_iff.1 e).1
    exact (hb2.cell (p := ⟨go, j, none⟩) hl).trans h
  have l0 := hg2 _ _ k0
  have l1 := hg2 _ _ k1
  have l2 := hg2 _ _ k2
  have l3 := hg2 _ _ k3
  have c6' : ((W1.alloc (.cells #[.pointer none, .pointer none, .int .i64 0, .slice none 0 0] 80)).drew).cell? ⟨b, o + 5, none⟩ = some (.slice (some ⟨gk, offk, none⟩) n cap) := by
    have h := ((hp.under hb1).under hb2).six.2.2.2.2.2
    rw [hx, ← hn, ← hcap] at h
    exact h
  have HW1 := Lib.hid hW1
  have HN1 := Lib.hid hn1
  have HS1 := Lib.hid hs1
  have HB1 := Lib.hid hb1
  clear hp hx hn hcap h0 h1 h2 h3 c5 hgo hg2 hb2 hW1 hn1 hs1 hb1
  unfold markK
  have HM1 : Hid ((bits .and .i64 (d : Int) ((d : Int) - 1) == 0) = (bits .and .i64 (d : Int) ((d : Int) - 1) == 0)) := rfl
  go_enter Tryz.func47, Tryz.ntmps47
  go_wp2_with fail
  rw [← HW1.out]
  go_region
  obtain ⟨K, hK⟩ : ∃ K, K = W1.heap.size := ⟨_, rfl⟩
  obtain ⟨R0, hR0⟩ : ∃ R0, R0 = W.heap.size := ⟨_, rfl⟩
  obtain ⟨W2, hW2⟩ : ∃ W2 : World, W2 = (W1.alloc (.cells #[.pointer (some ⟨gk, offk + i * 6, none⟩), .pointer m, .int .i64 ((d : Int) + 1), .slice none 0 0] 80)).drew := ⟨_, rfl⟩
  have hb3 : Below W1.heap.size W1 W2 := by rw [hW2]; exact below_drawn ((Below.refl _ _).alloc (Nat.le_refl _) _) 1
  have hg3 : ∀ (j : Nat) (v : Value), W1.cell? ⟨go, j, none⟩ = some v → W2.cell? ⟨go, j, none⟩ = some v := fun j v h => by
    have hl : go < W1.heap.size := by
      unfold World.cell? at h
      cases e : W1.heap[go]? with
      | none => simp [e] at h
      | some o => exact (Array.getElem?_eq_some_iff.1 e).1
    exact (hb3.cell (p := ⟨go, j, none⟩) hl).trans h
  have m0 := hg3 _ _ k0
  have m1 := hg3 _ _ k1
  have m2 := hg3 _ _ k2
  have hnK : W2.heap[K]? = some (.cells #[.pointer (some ⟨gk, offk + i * 6, none⟩), .pointer m, .int .i64 ((d : Int) + 1), .slice none 0 0] 80 (0, 0)) := by rw [hW2, hK]; exact heap_alloc_new _ _
  have hnR : W2.heap[R0]? = some (.cells #[.pointer none, .pointer none, .int .i64 0, .slice none 0 0] 80 (0, 0)) := by
    rw [hR0]
    exact (hb3.block _ (by rw [HS1.out]; omega)).trans HN1.out
  have hne : R0 ≠ K := by rw [hR0, hK, HS1.out]; omega
  have hall : Below R0 W W2 := by rw [hR0]; exact HB1.out.trans (hb3.mono HB1.out.size)
  have hRW : W.heap.size = R0 := hR0.symm
  rw [← hW2, ← hK, ← hR0]
  have HALL := Lib.hid hall
  have HNR := Lib.hid hnR
  have HNK := Lib.hid hnK
  have HNE := Lib.hid hne
  have hKR : R0 ≤ K := by rw [hR0, hK, HS1.out]; omega
  have HKR := Lib.hid hKR
  have q1 : W2.cell? ⟨K, 1, none⟩ = some (.pointer m) := by simp [World.cell?, hnK]
  have qf1 : W2.frozen? ⟨K, 1, none⟩ = false := by simp [World.frozen?, hnK]
  have r0 : W2.cell? ⟨R0, 0, none⟩ = some (.pointer none) := by simp [World.cell?, hnR]
  have r1 : W2.cell? ⟨R0, 1, none⟩ = some (.pointer none) := by simp [World.cell?, hnR]
  have r2 : W2.cell? ⟨R0, 2, none⟩ = some (.int .i64 0) := by simp [World.cell?, hnR]
  have r3 : W2.cell? ⟨R0, 3, none⟩ = some (.slice none 0 0) := by simp [World.cell?, hnR]
  have f0 : W2.frozen? ⟨R0, 0, none⟩ = false := by simp [World.frozen?, hnR]
  have f1 : W2.frozen? ⟨R0, 1, none⟩ = false := by simp [World.frozen?, hnR]
  have f2 : W2.frozen? ⟨R0, 2, none⟩ = false := by simp [World.frozen?, hnR]
  have f3 : W2.frozen? ⟨R0, 3, none⟩ = false := by simp [World.frozen?, hnR]
  have p0 : W2.cell? ⟨K, 0, none⟩ = some (.pointer (some ⟨gk, offk + i * 6, none⟩)) := by simp [World.cell?, hnK]
  have p2 : W2.cell? ⟨K, 2, none⟩ = some (.int .i64 ((d : Int) + 1)) := by simp [World.cell?, hnK]
  have p3 : W2.cell? ⟨K, 3, none⟩ = some (.slice none 0 0) := by simp [World.cell?, hnK]
  clear hW2 hK hR0 hb3 hg3 hnK hnR hall k0 k1 k2 k3 l0 l1 l2 l3 c5' c6' HW1 HN1 HS1 HB1 hne hKR
  cases hc : (bits .and .i64 (d : Int) ((d : Int) - 1) == 0) with
  | true =>
    have t1 : (W2.setCell ⟨K, 1, none⟩ (.pointer (some ⟨b, o, none⟩))).heap[K]? = some (.cells #[.pointer (some ⟨gk, offk + i * 6, none⟩), .pointer (some ⟨b, o, none⟩), .int .i64 ((d : Int) + 1), .slice none 0 0] 80 (0, 0)) := (heap_setCell_same W2 K 1 _ _ _ HNK.out).trans rfl
    have t2 : (W2.setCell ⟨K, 1, none⟩ (.pointer (some ⟨b, o, none⟩))).heap[R0]? = some (.cells #[.pointer none, .pointer none, .int .i64 0, .slice none 0 0] 80 (0, 0)) := (heap_set_ne _ _ _ HNE.out).trans HNR.out
    have u0 : (W2.setCell ⟨K, 1, none⟩ (.pointer (some ⟨b, o, none⟩))).cell? ⟨R0, 0, none⟩ = some (.pointer none) := by simp only [World.cell?, t2]; rfl
    have u1 : (W2.setCell ⟨K, 1, none⟩ (.pointer (some ⟨b, o, none⟩))).cell? ⟨R0, 1, none⟩ = some (.pointer none) := by simp only [World.cell?, t2]; rfl
    have u2 : (W2.setCell ⟨K, 1, none⟩ (.pointer (some ⟨b, o, none⟩))).cell? ⟨R0, 2, none⟩ = some (.int .i64 0) := by simp only [World.cell?, t2]; rfl
    have u3 : (W2.setCell ⟨K, 1, none⟩ (.pointer (some ⟨b, o, none⟩))).cell? ⟨R0, 3, none⟩ = some (.slice none 0 0) := by simp only [World.cell?, t2]; rfl
    have w0 : (W2.setCell ⟨K, 1, none⟩ (.pointer (some ⟨b, o, none⟩))).cell? ⟨K, 0, none⟩ = some (.pointer (some ⟨gk, offk + i * 6, none⟩)) := by simp only [World.cell?, t1]; rfl
    have w1 : (W2.setCell ⟨K, 1, none⟩ (.pointer (some ⟨b, o, none⟩))).cell? ⟨K, 1, none⟩ = some (.pointer (some ⟨b, o, none⟩)) := by simp only [World.cell?, t1]; rfl
    have w2 : (W2.setCell ⟨K, 1, none⟩ (.pointer (some ⟨b, o, none⟩))).cell? ⟨K, 2, none⟩ = some (.int .i64 ((d : Int) + 1)) := by simp only [World.cell?, t1]; rfl
    have w3 : (W2.setCell ⟨K, 1, none⟩ (.pointer (some ⟨b, o, none⟩))).cell? ⟨K, 3, none⟩ = some (.slice none 0 0) := by simp only [World.cell?, t1]; rfl
    have v0 : (W2.setCell ⟨K, 1, none⟩ (.pointer (some ⟨b, o, none⟩))).frozen? ⟨R0, 0, none⟩ = false := frozen_no t2 0
    have v1 : (W2.setCell ⟨K, 1, none⟩ (.pointer (some ⟨b, o, none⟩))).frozen? ⟨R0, 1, none⟩ = false := frozen_no t2 1
    have v2 : (W2.setCell ⟨K, 1, none⟩ (.pointer (some ⟨b, o, none⟩))).frozen? ⟨R0, 2, none⟩ = false := frozen_no t2 2
    have v3 : (W2.setCell ⟨K, 1, none⟩ (.pointer (some ⟨b, o, none⟩))).frozen? ⟨R0, 3, none⟩ = false := frozen_no t2 3
    have T1 := Lib.hid t1
    have T2 := Lib.hid t2
    clear t1 t2
    go_wp2_with fail
    go_region
    go_wp2
    refine bodyPost_ret_by (results_cell_row rfl _ _ R0 80 #[.pointer (some ⟨gk, offk + i * 6, none⟩), .pointer (some ⟨b, o, none⟩), .int .i64 ((d : Int) + 1), .slice none 0 0] (0, 0) _ rfl (set4_heap T2.out _ _ _ _) Tryz.underlying80 rfl (by kernel_rfl)) rfl ?_
    refine ⟨rfl, ?_⟩
    have h1 : Below R0 W (W2.setCell ⟨K, 1, none⟩ (.pointer (some ⟨b, o, none⟩))) := HALL.out.setCell (show R0 ≤ (⟨K, 1, none⟩ : Addr).block from HKR.out) _
    first | exact below_drawn (four_set h1 (Nat.le_refl _) _ _ _ _) 1 | exact four_set h1 (Nat.le_refl _) _ _ _ _
  | false =>
    go_wp2_with fail
    go_region
    go_wp2
    refine bodyPost_ret_by (results_cell_row rfl _ _ R0 80 #[.pointer (some ⟨gk, offk + i * 6, none⟩), .pointer m, .int .i64 ((d : Int) + 1), .slice none 0 0] (0, 0) _ rfl (set4_heap HNR.out _ _ _ _) Tryz.underlying80 rfl (by kernel_rfl)) rfl ?_
    refine ⟨rfl, ?_⟩
    first | exact below_drawn (four_set HALL.out (Nat.le_refl _) _ _ _ _) 1 | exact four_set HALL.out (Nat.le_refl _) _ _ _ _

set_option maxRecDepth 100000 in
set_option maxHeartbeats 2000000 in
theorem nextB_any (W : World) (go oo b o d i cp : Nat) (m q : Option Addr) (x : ReV) (gk offk : Nat) (h0 : W.cell? ⟨go, oo, none⟩ = some (.pointer (some ⟨b, o, none⟩))) (h1 : W.cell? ⟨go, oo + 1, none⟩ = some (.pointer m))
    (h2 : W.cell? ⟨go, oo + 2, none⟩ = some (.int .i64 d)) (h3 : W.cell? ⟨go, oo + 3, none⟩ = some (.slice q i cp)) (hp : PlaceR W b o x) (hx : x.p = some ⟨gk, offk, none⟩) (hi : i < x.n) (hd : d ≤ 1000000000000) :
    Calls Tryz.prog 49 #[.pointer (some ⟨go, oo, none⟩)] W fun e w' => e = .returned (.agg #[.pointer (some ⟨gk, offk + i * 6, none⟩), .pointer (markK b o m d), .int .i64 ((d : Int) + 1), .slice none 0 0]) ∧ Below W.heap.size W w' := by
  obtain ⟨_, _, _, _, _, c5⟩ := hp.six
  obtain ⟨n, hn⟩ : ∃ n, n = x.n := ⟨_, rfl⟩
  obtain ⟨cap, hcap⟩ : ∃ cap, cap = x.cap := ⟨_, rfl⟩
  rw [hx, ← hn, ← hcap] at c5
  rw [← hn] at hi
  have hltz : (i : Int) < (n : Int) := by omega
  have hwd : IntKind.i64.wrap ((d : Int) + 1) = (d : Int) + 1 := by rw [IntKind.wrap_i64]; omega
  obtain ⟨W1, hW1⟩ : ∃ W1 : World, W1 = W.alloc (.cells #[.pointer none, .pointer none, .int .i64 0, .slice none 0 0] 86) := ⟨_, rfl⟩
  have hb1 : Below W.heap.size W W1 := by rw [hW1]; exact (Below.refl _ _).alloc (Nat.le_refl _) _
  have hn1 : W1.heap[W.heap.size]? = some (.cells #[.pointer none, .pointer none, .int .i64 0, .slice none 0 0] 86 (0, 0)) := by rw [hW1]; exact heap_alloc_new _ _
  have hs1 : W1.heap.size = W.heap.size + 1 := by rw [hW1]; simp
  have hgo : ∀ (j : Nat) (v : Value), W.cell? ⟨go, j, none⟩ = some v → W1.cell? ⟨go, j, none⟩ = some v := fun j v h => by
    have hl : go < W.heap.size := by
      unfold World.cell? at h
      cases e : W.heap[go]? with
      | none => simp [e] at h
      | some o => exact (Array.getElem?_eq_some_iff.1 e).1
    exact (hb1.cell (p := ⟨go, j, none⟩) hl).trans h
  have k0 := hgo _ _ h0
  have k1 := hgo _ _ h1
  have k2 := hgo _ _ h2
  have k3 := hgo _ _ h3
  have c5' := (hp.under hb1).six.2.2.2.2.2
  rw [hx, ← hn, ← hcap] at c5'
  have hb2 : Below W1.heap.size W1 (W1.alloc (.cells #[.pointer none, .pointer none, .int .i64 0, .slice none 0 0] 86)) := (Below.refl _ _).alloc (Nat.le_refl _) _
  have hg2 : ∀ (j : Nat) (v : Value), W1.cell? ⟨go, j, none⟩ = some v → ((W1.alloc (.cells #[.pointer none, .pointer none, .int .i64 0, .slice none 0 0] 86)).drew).cell? ⟨go, j, none⟩ = some v := fun j v h => by
    have hl : go < W1.heap.size := by
      unfold World.cell? at h
      cases e : W1.heap[go]? with
      | none => simp [e] at h
      | some o => exact (Array.getElem?_eq_some_iff.1 e).1
    exact (hb2.cell (p := ⟨go, j, none⟩) hl).trans h
  have l0 := hg2 _ _ k0
  have l1 := hg2 _ _ k1
  have l2 := hg2 _ _ k2
  have l3 := hg2 _ _ k3
  have c6' : ((W1.alloc (.cells #[.pointer none, .pointer none, .int .i64 0, .slice none 0 0] 86)).drew).cell? ⟨b, o + 5, none⟩ = some (.slice (some ⟨gk, offk, none⟩) n cap) := by
    have h := ((hp.under hb1).under hb2).six.2.2.2.2.2
    rw [hx, ← hn, ← hcap] at h
    exact h
  have HW1 := Lib.hid hW1
  have HN1 := Lib.hid hn1
  have HS1 := Lib.hid hs1
  have HB1 := Lib.hid hb1
  clear hp hx hn hcap h0 h1 h2 h3 c5 hgo hg2 hb2 hW1 hn1 hs1 hb1
  unfold markK
  have HM1 : Hid ((bits .and .i64 (d : Int) ((d : Int) - 1) == 0) = (bits .and .i64 (d : Int) ((d : Int) - 1) == 0)) := rfl
  go_enter Tryz.func49, Tryz.ntmps49
  go_wp2_with fail
  rw [← HW1.out]
  go_region
  obtain ⟨K, hK⟩ : ∃ K, K = W1.heap.size := ⟨_, rfl⟩
  obtain ⟨R0, hR0⟩ : ∃ R0, R0 = W.heap.size := ⟨_, rfl⟩
  obtain ⟨W2, hW2⟩ : ∃ W2 : World, W2 = (W1.alloc (.cells #[.pointer (some ⟨gk, offk + i * 6, none⟩), .pointer m, .int .i64 ((d : Int) + 1), .slice none 0 0] 86)).drew := ⟨_, rfl⟩
  have hb3 : Below W1.heap.size W1 W2 := by rw [hW2]; exact below_drawn ((Below.refl _ _).alloc (Nat.le_refl _) _) 1
  have hg3 : ∀ (j : Nat) (v : Value), W1.cell? ⟨go, j, none⟩ = some v → W2.cell? ⟨go, j, none⟩ = some v := fun j v h => by
    have hl : go < W1.heap.size := by
      unfold World.cell? at h
      cases e : W1.heap[go]? with
      | none => simp [e] at h
      | some o => exact (Array.getElem?_eq_some_iff.1 e).1
    exact (hb3.cell (p := ⟨go, j, none⟩) hl).trans h
  have m0 := hg3 _ _ k0
  have m1 := hg3 _ _ k1
  have m2 := hg3 _ _ k2
  have hnK : W2.heap[K]? = some (.cells #[.pointer (some ⟨gk, offk + i * 6, none⟩), .pointer m, .int .i64 ((d : Int) + 1), .slice none 0 0] 86 (0, 0)) := by rw [hW2, hK]; exact heap_alloc_new _ _
  have hnR : W2.heap[R0]? = some (.cells #[.pointer none, .pointer none, .int .i64 0, .slice none 0 0] 86 (0, 0)) := by
    rw [hR0]
    exact (hb3.block _ (by rw [HS1.out]; omega)).trans HN1.out
  have hne : R0 ≠ K := by rw [hR0, hK, HS1.out]; omega
  have hall : Below R0 W W2 := by rw [hR0]; exact HB1.out.trans (hb3.mono HB1.out.size)
  have hRW : W.heap.size = R0 := hR0.symm
  rw [← hW2, ← hK, ← hR0]
  have HALL := Lib.hid hall
  have HNR := Lib.hid hnR
  have HNK := Lib.hid hnK
  have HNE := Lib.hid hne
  have hKR : R0 ≤ K := by rw [hR0, hK, HS1.out]; omega
  have HKR := Lib.hid hKR
  have q1 : W2.cell? ⟨K, 1, none⟩ = some (.pointer m) := by simp [World.cell?, hnK]
  have qf1 : W2.frozen? ⟨K, 1, none⟩ = false := by simp [World.frozen?, hnK]
  have r0 : W2.cell? ⟨R0, 0, none⟩ = some (.pointer none) := by simp [World.cell?, hnR]
  have r1 : W2.cell? ⟨R0, 1, none⟩ = some (.pointer none) := by simp [World.cell?, hnR]
  have r2 : W2.cell? ⟨R0, 2, none⟩ = some (.int .i64 0) := by simp [World.cell?, hnR]
  have r3 : W2.cell? ⟨R0, 3, none⟩ = some (.slice none 0 0) := by simp [World.cell?, hnR]
  have f0 : W2.frozen? ⟨R0, 0, none⟩ = false := by simp [World.frozen?, hnR]
  have f1 : W2.frozen? ⟨R0, 1, none⟩ = false := by simp [World.frozen?, hnR]
  have f2 : W2.frozen? ⟨R0, 2, none⟩ = false := by simp [World.frozen?, hnR]
  have f3 : W2.frozen? ⟨R0, 3, none⟩ = false := by simp [World.frozen?, hnR]
  have p0 : W2.cell? ⟨K, 0, none⟩ = some (.pointer (some ⟨gk, offk + i * 6, none⟩)) := by simp [World.cell?, hnK]
  have p2 : W2.cell? ⟨K, 2, none⟩ = some (.int .i64 ((d : Int) + 1)) := by simp [World.cell?, hnK]
  have p3 : W2.cell? ⟨K, 3, none⟩ = some (.slice none 0 0) := by simp [World.cell?, hnK]
  clear hW2 hK hR0 hb3 hg3 hnK hnR hall k0 k1 k2 k3 l0 l1 l2 l3 c5' c6' HW1 HN1 HS1 HB1 hne hKR
  cases hc : (bits .and .i64 (d : Int) ((d : Int) - 1) == 0) with
  | true =>
    have t1 : (W2.setCell ⟨K, 1, none⟩ (.pointer (some ⟨b, o, none⟩))).heap[K]? = some (.cells #[.pointer (some ⟨gk, offk + i * 6, none⟩), .pointer (some ⟨b, o, none⟩), .int .i64 ((d : Int) + 1), .slice none 0 0] 86 (0, 0)) := (heap_setCell_same W2 K 1 _ _ _ HNK.out).trans rfl
    have t2 : (W2.setCell ⟨K, 1, none⟩ (.pointer (some ⟨b, o, none⟩))).heap[R0]? = some (.cells #[.pointer none, .pointer none, .int .i64 0, .slice none 0 0] 86 (0, 0)) := (heap_set_ne _ _ _ HNE.out).trans HNR.out
    have u0 : (W2.setCell ⟨K, 1, none⟩ (.pointer (some ⟨b, o, none⟩))).cell? ⟨R0, 0, none⟩ = some (.pointer none) := by simp only [World.cell?, t2]; rfl
    have u1 : (W2.setCell ⟨K, 1, none⟩ (.pointer (some ⟨b, o, none⟩))).cell? ⟨R0, 1, none⟩ = some (.pointer none) := by simp only [World.cell?, t2]; rfl
    have u2 : (W2.setCell ⟨K, 1, none⟩ (.pointer (some ⟨b, o, none⟩))).cell? ⟨R0, 2, none⟩ = some (.int .i64 0) := by simp only [World.cell?, t2]; rfl
    have u3 : (W2.setCell ⟨K, 1, none⟩ (.pointer (some ⟨b, o, none⟩))).cell? ⟨R0, 3, none⟩ = some (.slice none 0 0) := by simp only [World.cell?, t2]; rfl
    have w0 : (W2.setCell ⟨K, 1, none⟩ (.pointer (some ⟨b, o, none⟩))).cell? ⟨K, 0, none⟩ = some (.pointer (some ⟨gk, offk + i * 6, none⟩)) := by simp only [World.cell?, t1]; rfl
    have w1 : (W2.setCell ⟨K, 1, none⟩ (.pointer (some ⟨b, o, none⟩))).cell? ⟨K, 1, none⟩ = some (.pointer (some ⟨b, o, none⟩)) := by simp only [World.cell?, t1]; rfl
    have w2 : (W2.setCell ⟨K, 1, none⟩ (.pointer (some ⟨b, o, none⟩))).cell? ⟨K, 2, none⟩ = some (.int .i64 ((d : Int) + 1)) := by simp only [World.cell?, t1]; rfl
    have w3 : (W2.setCell ⟨K, 1, none⟩ (.pointer (some ⟨b, o, none⟩))).cell? ⟨K, 3, none⟩ = some (.slice none 0 0) := by simp only [World.cell?, t1]; rfl
    have v0 : (W2.setCell ⟨K, 1, none⟩ (.pointer (some ⟨b, o, none⟩))).frozen? ⟨R0, 0, none⟩ = false := frozen_no t2 0
    have v1 : (W2.setCell ⟨K, 1, none⟩ (.pointer (some ⟨b, o, none⟩))).frozen? ⟨R0, 1, none⟩ = false := frozen_no t2 1
    have v2 : (W2.setCell ⟨K, 1, none⟩ (.pointer (some ⟨b, o, none⟩))).frozen? ⟨R0, 2, none⟩ = false := frozen_no t2 2
    have v3 : (W2.setCell ⟨K, 1, none⟩ (.pointer (some ⟨b, o, none⟩))).frozen? ⟨R0, 3, none⟩ = false := frozen_no t2 3
    have T1 := Lib.hid t1
    have T2 := Lib.hid t2
    clear t1 t2
    go_wp2_with fail
    go_region
    go_wp2
    refine bodyPost_ret_by (results_cell_row rfl _ _ R0 86 #[.pointer (some ⟨gk, offk + i * 6, none⟩), .pointer (some ⟨b, o, none⟩), .int .i64 ((d : Int) + 1), .slice none 0 0] (0, 0) _ rfl (set4_heap T2.out _ _ _ _) Tryz.underlying86 rfl (by kernel_rfl)) rfl ?_
    refine ⟨rfl, ?_⟩
    have h1 : Below R0 W (W2.setCell ⟨K, 1, none⟩ (.pointer (some ⟨b, o, none⟩))) := HALL.out.setCell (show R0 ≤ (⟨K, 1, none⟩ : Addr).block from HKR.out) _
    first | exact below_drawn (four_set h1 (Nat.le_refl _) _ _ _ _) 1 | exact four_set h1 (Nat.le_refl _) _ _ _ _
  | false =>
    go_wp2_with fail
    go_region
    go_wp2
    refine bodyPost_ret_by (results_cell_row rfl _ _ R0 86 #[.pointer (some ⟨gk, offk + i * 6, none⟩), .pointer m, .int .i64 ((d : Int) + 1), .slice none 0 0] (0, 0) _ rfl (set4_heap HNR.out _ _ _ _) Tryz.underlying86 rfl (by kernel_rfl)) rfl ?_
    refine ⟨rfl, ?_⟩
    first | exact below_drawn (four_set HALL.out (Nat.le_refl _) _ _ _ _) 1 | exact four_set HALL.out (Nat.le_refl _) _ _ _ _

end Go.Proofs.YtclnadjgbpihcaaGreatDoor
