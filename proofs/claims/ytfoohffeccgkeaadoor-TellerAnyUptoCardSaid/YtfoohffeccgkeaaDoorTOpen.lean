/- A list of rules as an argument, opened, and how much there is in it. No condition. -/
import Derived.Test.YtfoohffeccgkeaaDoorTFrame
import Derived.Test.YtfoohffeccgkeaaDoorTLine
import Derived.Test.YtfoohffeccgkeaaDoorTLen
import Derived.Deep.Slices
namespace Go.Proofs.YtfoohffeccgkeaaDoor
open Go.ChangeShapes Go.WideShapes Go.ChangeAt Go.RowKit Go.Deep
set_option linter.unusedVariables false
set_option linter.unusedSimpArgs false

theorem cellsInt : Tryd.prog.cellsOf 3 = 1 := by kernel_rfl
theorem cellsStr : Tryd.prog.cellsOf 9 = 1 := by kernel_rfl
theorem cellsBool : Tryd.prog.cellsOf 4 = 1 := by kernel_rfl
theorem cellsInts : Tryd.prog.cellsOf 26 = 1 := by kernel_rfl
theorem cellsKids : Tryd.prog.cellsOf 27 = 1 := by kernel_rfl
theorem cellsX : Tryd.prog.cellsOf 29 = 6 := by kernel_rfl
theorem cellsL : Tryd.prog.cellsOf 34 = 8 := by kernel_rfl

/-- What is so much is the sum of its parts' at most. -/
theorem bulk_part {H : Type} {d : DataW H} {l : List (DataW H)} (h : d ∈ l) : Rows.uptoBulk d ≤ Rows.uptoBulkAll l := by
  induction l with
  | nil => cases h
  | cons x r ih =>
    simp only [Rows.uptoBulkAll]
    cases List.mem_cons.1 h with
    | inl e => subst e; omega
    | inr e => have := ih e; omega
theorem bulk_sum {H : Type} (f : Nat → DataW H) (g : Nat → Nat) : ∀ (l : List Nat), (∀ i ∈ l, g i ≤ Rows.uptoBulk (f i)) → (l.map g).sum ≤ Rows.uptoBulkAll (l.map f)
  | [], _ => Nat.zero_le _
  | i :: l, h => by
    have h1 := h i (by simp)
    have h2 := bulk_sum f g l (fun j hj => h j (by simp [hj]))
    simp only [List.map_cons, List.sum_cons, Rows.uptoBulkAll]
    omega
theorem bulk_len {H : Type} : ∀ l : List (DataW H), l.length ≤ Rows.uptoBulkAll l
  | [] => Nat.zero_le _
  | d :: l => by
    have h1 : 1 ≤ Rows.uptoBulk d := by
      cases d with
      | lit l => cases l <;> simp [Rows.uptoBulk]
      | nil => simp [Rows.uptoBulk]
      | ptr d => simp [Rows.uptoBulk]
      | slice elems spare => simp [Rows.uptoBulk]
      | agg parts => simp [Rows.uptoBulk]
      | iface t d => simp [Rows.uptoBulk]
      | map entries => simp [Rows.uptoBulk]
      | held h => simp [Rows.uptoBulk]
    have h2 := bulk_len l
    simp only [List.length_cons, Rows.uptoBulkAll]
    omega

theorem list6 {α : Type} {cs : List α} (h : cs.length = 6) : ∃ c0 c1 c2 c3 c4 c5, cs = [c0, c1, c2, c3, c4, c5] :=
  match cs, h with
  | [c0, c1, c2, c3, c4, c5], _ => ⟨c0, c1, c2, c3, c4, c5, rfl⟩
theorem list3 {α : Type} {cs : List α} (h : cs.length = 3) : ∃ c0 c1 c2, cs = [c0, c1, c2] :=
  match cs, h with
  | [c0, c1, c2], _ => ⟨c0, c1, c2, rfl⟩
theorem list8 {α : Type} {cs : List α} (h : cs.length = 8) : ∃ c0 c1 c2 c3 c4 c5 c6 c7, cs = [c0, c1, c2, c3, c4, c5, c6, c7] :=
  match cs, h with
  | [c0, c1, c2, c3, c4, c5, c6, c7], _ => ⟨c0, c1, c2, c3, c4, c5, c6, c7, rfl⟩

/-- The cells of a row, one by one. -/
theorem flat_get (vs : List XV) (j : Nat) (u : Value) (h : (vs.flatMap XV.cells)[j]? = some u) : ∃ x, vs[j / 6]? = some x ∧ x.cells[j % 6]? = some u ∧ j / 6 < vs.length := by
  have hj : j < vs.length * 6 := by
    have := (List.getElem?_eq_some_iff.1 h).1
    rwa [flat_len] at this
  have hi : j / 6 < vs.length := by omega
  refine ⟨vs[j / 6], List.getElem?_eq_getElem hi, ?_, hi⟩
  have := flat_at vs (j / 6) (j % 6) _ (List.getElem?_eq_getElem hi) (Nat.mod_lt _ (by omega))
  rw [show j / 6 * 6 + j % 6 = j by omega, h] at this
  exact this.symm
theorem flatL_len (vs : List LV) : (vs.flatMap LV.cells).length = vs.length * 8 := by
  induction vs with
  | nil => rfl
  | cons x vs ih => simp [LV.cells] at ih ⊢; omega
theorem flatL_get (vs : List LV) (j : Nat) (u : Value) (h : (vs.flatMap LV.cells)[j]? = some u) : ∃ x, vs[j / 8]? = some x ∧ x.cells[j % 8]? = some u ∧ j / 8 < vs.length := by
  have hj : j < vs.length * 8 := by
    have := (List.getElem?_eq_some_iff.1 h).1
    rwa [flatL_len] at this
  have hi : j / 8 < vs.length := by omega
  refine ⟨vs[j / 8], List.getElem?_eq_getElem hi, ?_, hi⟩
  have := flatL4_at vs (j / 8) (j % 8) _ (List.getElem?_eq_getElem hi) (Nat.mod_lt _ (by omega))
  rw [show j / 8 * 8 + j % 8 = j by omega, h] at this
  exact this.symm

instance : Inhabited (XV × Tree) := ⟨(⟨0, ⟨#[]⟩, .slice none 0 0, 0, 0, .slice none 0 0⟩, .mk 0 [] [] 0 0 [])⟩
instance : Inhabited (LV × Rule) := ⟨(⟨⟨#[]⟩, false, ⟨0, ⟨#[]⟩, .slice none 0 0, 0, 0, .slice none 0 0⟩⟩, ⟨[], false, .mk 0 [] [] 0 0 []⟩)⟩

section
variable {H : Type} {enc : TypeId × Value → H}

theorem ints_open {W : World} {sp : Nat → Bool} {n : Nat} {c : Value} {y : DataW H × List MemPlace} (h : DataW.trod enc Tryd.prog W 0 sp true n 26 [c] = some y) :
    ∃ nums : List Int, RowAny W c nums.length (icells nums) ∧ nums.length ≤ Rows.uptoBulk y.1 := by
  rcases open_ints Tryd.underlying26 Tryd.underlying3 cellsInt h with ⟨hcs, hx⟩ | ⟨a, len, cap, zs, hcs, _, hl, hm, hz, hx, hc, hw⟩
  · simp at hcs
    subst hcs
    exact ⟨[], .inl ⟨rfl, none, 0, rfl⟩, Nat.zero_le _⟩
  · simp at hcs
    subst hcs
    have hle : len ≤ zs.length := by rw [hz]; split <;> omega
    have hlen : (zs.take len).length = len := by rw [List.length_take]; omega
    refine ⟨zs.take len, ?_, ?_⟩
    · by_cases h0 : len = 0
      · subst h0
        exact .inl ⟨by simp, _, _, rfl⟩
      · obtain ⟨b, off, spot⟩ := a
        have c0 := hc 0 (by omega)
        have hspot : spot = none := by simpa [Addr.add] using World.cell?_spot c0
        subst hspot
        have hlt : b < W.heap.size := by
          have := World.block_lt_of_cell? W _ c0
          simpa [Addr.add] using this
        refine .inr ⟨b, off, cap, by rw [hlen], by rw [hlen]; exact hl, hm, hlt, fun j u hj => ?_⟩
        unfold icells at hj
        rw [List.getElem?_map, Option.map_eq_some_iff] at hj
        obtain ⟨z, hz1, rfl⟩ := hj
        have hjl : j < len := by
          have := (List.getElem?_eq_some_iff.1 hz1).1
          omega
        have hci := hc j (by omega)
        rw [List.getElem?_take_of_lt hjl] at hz1
        have e : (⟨b, off, none⟩ : Addr).add j = ⟨b, off + j, none⟩ := by cases j <;> simp [Addr.add]
        rw [e, List.getD_eq_getElem?_getD, hz1] at hci
        exact hci
    · rw [hx, hlen]
      have h1 := bulk_len (H := H) (lits .i64 (zs.take len))
      have h2 : (lits (H := H) .i64 (zs.take len)).length = len := by rw [lits, List.length_map, hlen]
      simp only [Rows.uptoBulk]
      omega

theorem addr_add (b off j : Nat) : (⟨b, off, none⟩ : Addr).add j = ⟨b, off + j, none⟩ := by
  cases j <;> simp [Addr.add]

set_option maxRecDepth 100000 in
/-- An expression, opened. -/
theorem expr_open {W : World} {sp : Nat → Bool} : ∀ (fuel : Nat) (cs : List Value) (x : DataW H × List MemPlace), DataW.trod enc Tryd.prog W 0 sp true fuel 29 cs = some x →
    ∃ (X : XV) (t : Tree), cs = X.cells ∧ ETree W X t ∧ t.tw ≤ Rows.uptoBulk x.1 := by
  intro fuel
  induction fuel using Nat.strongRecOn with
  | _ fuel ih =>
  intro cs x h
  obtain ⟨xs, n, hn, rfl, hl, hlen, hf⟩ := DataW.trod_struct Tryd.underlying29 h
  rw [cellsX] at hl
  obtain ⟨c0, c1, c2, c3, c4, c5, rfl⟩ := list6 hl
  obtain ⟨y0, y1, y2, y3, y4, y5, rfl⟩ := list6 (hlen.trans rfl)
  have g0 := hf 0 _ rfl
  have g1 := hf 1 _ rfl
  have g2 := hf 2 _ rfl
  have g3 := hf 3 _ rfl
  have g4 := hf 4 _ rfl
  have g5 := hf 5 _ rfl
  simp only [List.getElem_toArray, List.getElem_cons_zero, List.getElem_cons_succ, cellsInt, cellsStr, cellsInts, cellsKids, List.drop, List.take, List.getElem?_cons_zero, List.getElem?_cons_succ] at g0 g1 g2 g3 g4 g5
  obtain ⟨k, e0, rfl, w0⟩ := DataW.trod_int Tryd.underlying3 g0
  obtain ⟨s, e1, rfl, w1⟩ := DataW.trod_string Tryd.underlying9 g1
  obtain ⟨lo, e3, rfl, w3⟩ := DataW.trod_int Tryd.underlying3 g3
  obtain ⟨hi, e4, rfl, w4⟩ := DataW.trod_int Tryd.underlying3 g4
  obtain ⟨nums, hnums, hnb⟩ := ints_open g2
  obtain ⟨tx, rfl, hb, hsz⟩ := str_any s
  simp only [List.cons.injEq, and_true] at e0 e1 e3 e4
  subst e0 e1 e3 e4
  have hml : maxLen = 9223372036854775807 := rfl
  have hbl : tx.length + 1 ≤ Rows.uptoBulk (DataW.lit (H := H) (.string (strOf tx).data.toList)) := by
    have : (strOf tx).data.toList.length = tx.length := by rw [strOf_data]; simp
    simp only [Rows.uptoBulk]
    omega
  have bulks : ∀ (ks : List Tree), (ks.map Tree.tw).sum ≤ Rows.uptoBulk y5.1 → (Tree.mk k tx nums lo hi ks).tw ≤ Rows.uptoBulk (DataW.agg (([(DataW.lit (.int .i64 k), ([] : List MemPlace)), (DataW.lit (.string (strOf tx).data.toList), []), y2, (DataW.lit (.int .i64 lo), []), (DataW.lit (.int .i64 hi), []), y5]).map (·.1))) := by
    intro ks hks
    simp only [Tree.tw, List.map_cons, List.map_nil, Rows.uptoBulk, Rows.uptoBulkAll]
    simp only [Rows.uptoBulk] at hbl
    omega
  rcases DataW.trod_slice Tryd.underlying27 g5 with ⟨hcs, hx5⟩ | ⟨a, len, cap, elems, rest, n', hn', hcs, hx5, _, hl', hm, hlen', hel, _, _⟩
  · simp at hcs
    subst hcs
    refine ⟨⟨k, strOf tx, c2, lo, hi, .slice none 0 0⟩, .mk k tx nums lo hi [], rfl, ?_, bulks [] (Nat.zero_le _)⟩
    exact .mk [] hb (by omega) hnums (.inl ⟨rfl, none, 0, rfl⟩) rfl (fun i y t hy _ => by simp at hy)
  · simp at hcs
    subst hcs
    rw [cellsX] at hel
    have each : ∀ i, i < len → ∃ q : XV × Tree, (∀ (j : Nat) (u : Value), q.1.cells[j]? = some u → W.cell? (a.add (i * 6 + j)) = some u) ∧ ETree W q.1 q.2 ∧ q.2.tw ≤ Rows.uptoBulk (elems.getD i (.nil, [])).1 := by
      intro i hi
      have h1 := hel i hi
      rw [List.getElem?_eq_getElem (by omega)] at h1
      obtain ⟨cs', h2, h3⟩ := Option.bind_eq_some_iff.1 h1
      obtain ⟨X, t, rfl, hE, hb'⟩ := ih n' (by omega) cs' _ h3
      obtain ⟨_, hc1, hc2⟩ := World.cells?_some h2
      refine ⟨(X, t), fun j u hj => ?_, hE, by simpa [List.getD, List.getElem?_eq_getElem (show i < elems.length by omega)] using hb'⟩
      have hj6 : j < 6 := by
        have := (List.getElem?_eq_some_iff.1 hj).1
        simpa [XV.cells] using this
      have := hc2 j hj6
      rw [hj] at this
      rw [← this]
      congr 1
      obtain ⟨b, off, spot⟩ := a
      cases j <;> cases i <;> simp [Addr.add] <;> omega
    obtain ⟨q, hq⟩ := choose_lt each
    have hvl : ((List.range len).map fun i => (q i).1).length = len := by simp
    have hkl : ((List.range len).map fun i => (q i).2).length = len := by simp
    refine ⟨⟨k, strOf tx, c2, lo, hi, .slice (some a) len cap⟩, .mk k tx nums lo hi ((List.range len).map fun i => (q i).2), rfl, ?_, bulks _ ?_⟩
    · refine .mk ((List.range len).map fun i => (q i).1) hb (by omega) hnums ?_ (by rw [hvl, hkl]) (fun i y t hy ht => ?_)
      · rw [hkl]
        by_cases h0 : len = 0
        · subst h0
          exact .inl ⟨rfl, _, _, rfl⟩
        · obtain ⟨b, off, spot⟩ := a
          have c0 := (hq 0 (by omega)).1 0 _ rfl
          have hspot : spot = none := by simpa [Addr.add] using World.cell?_spot c0
          subst hspot
          have hlt : b < W.heap.size := by
            have := World.block_lt_of_cell? W _ c0
            simpa [Addr.add] using this
          refine .inr ⟨b, off, cap, rfl, hl', hm, hlt, fun j u hj => ?_⟩
          obtain ⟨X, hX, hu, hjl⟩ := flat_get _ j u hj
          rw [hvl] at hjl
          rw [List.getElem?_map, List.getElem?_range hjl] at hX
          simp at hX
          subst hX
          have := (hq (j / 6) hjl).1 (j % 6) u hu
          rw [addr_add, show j / 6 * 6 + j % 6 = j by omega] at this
          exact this
      · have hil : i < len := by
          have := (List.getElem?_eq_some_iff.1 hy).1
          omega
        rw [List.getElem?_map, List.getElem?_range hil] at hy ht
        simp at hy ht
        subst hy ht
        exact (hq i hil).2.1
    · rw [hx5, List.map_map]
      have h1 := bulk_sum (fun i => (elems.getD i (.nil, [])).1) (fun i => ((q i).2).tw) (List.range len) (fun i hi => (hq i (by simpa using hi)).2.2)
      have h2 : (List.range len).map (fun i => (elems.getD i (.nil, [])).1) = elems.map (·.1) := by
        apply List.ext_getElem? ; intro i
        by_cases hi : i < len
        · rw [List.getElem?_map, List.getElem?_range hi, List.getElem?_map, List.getElem?_eq_getElem (show i < elems.length by omega)]
          simp [List.getD, List.getElem?_eq_getElem (show i < elems.length by omega)]
        · rw [List.getElem?_eq_none (by simp; omega), List.getElem?_eq_none (by simp; omega)]
      rw [h2] at h1
      simp only [Rows.uptoBulk]
      have h3 : ((List.range len).map (Tree.tw ∘ fun i => (q i).2)) = (List.range len).map (fun i => ((q i).2).tw) := rfl
      rw [h3]
      omega

/-- How much there is in rules. -/
def ruleW (r : Rule) : Nat := 1 + r.name.length + r.expr.tw

set_option maxRecDepth 100000 in
/-- A rule, opened. -/
theorem line_open {W : World} {sp : Nat → Bool} (fuel : Nat) (cs : List Value) (x : DataW H × List MemPlace) (h : DataW.trod enc Tryd.prog W 0 sp true fuel 34 cs = some x) :
    ∃ (Y : LV) (r : Rule), cs = Y.cells ∧ LineE W Y r ∧ ruleW r ≤ Rows.uptoBulk x.1 := by
  obtain ⟨xs, n, hn, rfl, hl, hlen, hf⟩ := DataW.trod_struct Tryd.underlying34 h
  rw [cellsL] at hl
  obtain ⟨c0, c1, c2, c3, c4, c5, c6, c7, rfl⟩ := list8 hl
  obtain ⟨y0, y1, y2, rfl⟩ := list3 (hlen.trans rfl)
  have g0 := hf 0 _ rfl
  have g1 := hf 1 _ rfl
  have g2 := hf 2 _ rfl
  simp only [List.getElem_toArray, List.getElem_cons_zero, List.getElem_cons_succ, cellsStr, cellsBool, cellsX, List.drop, List.take, List.getElem?_cons_zero, List.getElem?_cons_succ] at g0 g1 g2
  obtain ⟨s, e0, rfl, w0⟩ := DataW.trod_string Tryd.underlying9 g0
  obtain ⟨m, e1, rfl⟩ := DataW.trod_bool Tryd.underlying4 g1
  obtain ⟨X, t, e2, hE, hb2⟩ := expr_open n _ _ g2
  obtain ⟨tx, rfl, hb, hsz⟩ := str_any s
  simp only [List.cons.injEq, and_true] at e0 e1
  subst e0 e1
  have hml : maxLen = 9223372036854775807 := rfl
  have hl2 : tx.length ≤ 9223372036854775807 := by omega
  refine ⟨⟨strOf tx, m, X⟩, ⟨tx, m, t⟩, ?_, ⟨rfl, hb, hl2, rfl, hE⟩, ?_⟩
  · rw [LV.cells]
    simp [XV.cells] at e2
    simp [e2]
  · have : (strOf tx).data.toList.length = tx.length := by rw [strOf_data]; simp
    simp only [ruleW, List.map_cons, List.map_nil, Rows.uptoBulk, Rows.uptoBulkAll]
    omega

set_option maxRecDepth 100000 in
/-- A list of rules that came in. -/
theorem open_lines {W : World} {base : Nat} {v : Value} {d : DataW H} {p : List MemPlace} (hval : Value.okWide Tryd.prog W .any base 22 v) (h : DataW.Trod enc Tryd.prog W 0 (fun _ => true) true 22 v d p) :
    ∃ ys l, LinesE W v ys l ∧ (l.map ruleW).sum ≤ Rows.uptoBulk d := by
  obtain ⟨a0, len0, cap0, rfl⟩ := okWide_slice Tryd.underlying22 hval
  obtain ⟨fuel, hf⟩ := h
  rcases DataW.trod_slice Tryd.underlying22 hf with ⟨hcs, hx5⟩ | ⟨a, len, cap, elems, rest, n', hn', hcs, hx5, _, hl', hm, hlen', hel, _, _⟩
  · simp [Value.cells] at hcs
    obtain ⟨rfl, rfl, rfl⟩ := hcs
    exact ⟨[], [], ⟨.inl ⟨rfl, none, 0, rfl⟩, rfl, fun i y t hy _ => by simp at hy⟩, Nat.zero_le _⟩
  · simp [Value.cells] at hcs
    obtain ⟨rfl, rfl, rfl⟩ := hcs
    rw [cellsL] at hel
    have each : ∀ i, i < len0 → ∃ q : LV × Rule, (∀ (j : Nat) (u : Value), q.1.cells[j]? = some u → W.cell? (a.add (i * 8 + j)) = some u) ∧ LineE W q.1 q.2 ∧ ruleW q.2 ≤ Rows.uptoBulk (elems.getD i (.nil, [])).1 := by
      intro i hi
      have h1 := hel i hi
      rw [List.getElem?_eq_getElem (by omega)] at h1
      obtain ⟨cs', h2, h3⟩ := Option.bind_eq_some_iff.1 h1
      obtain ⟨X, t, rfl, hE, hb'⟩ := line_open n' cs' _ h3
      obtain ⟨_, hc1, hc2⟩ := World.cells?_some h2
      refine ⟨(X, t), fun j u hj => ?_, hE, by simpa [List.getD, List.getElem?_eq_getElem (show i < elems.length by omega)] using hb'⟩
      have hj6 : j < 8 := by
        have := (List.getElem?_eq_some_iff.1 hj).1
        simpa [LV.cells] using this
      have := hc2 j hj6
      rw [hj] at this
      rw [← this]
      congr 1
      obtain ⟨b, off, spot⟩ := a
      cases j <;> cases i <;> simp [Addr.add] <;> omega
    obtain ⟨q, hq⟩ := choose_lt each
    have hvl : ((List.range len0).map fun i => (q i).1).length = len0 := by simp
    have hkl : ((List.range len0).map fun i => (q i).2).length = len0 := by simp
    refine ⟨(List.range len0).map fun i => (q i).1, (List.range len0).map fun i => (q i).2, ⟨?_, by rw [hvl, hkl], fun i y t hy ht => ?_⟩, ?_⟩
    · rw [hkl]
      by_cases h0 : len0 = 0
      · subst h0
        exact .inl ⟨rfl, _, _, rfl⟩
      · obtain ⟨b, off, spot⟩ := a
        have c0 := (hq 0 (by omega)).1 0 _ rfl
        have hspot : spot = none := by simpa [Addr.add] using World.cell?_spot c0
        subst hspot
        have hlt : b < W.heap.size := by
          have := World.block_lt_of_cell? W _ c0
          simpa [Addr.add] using this
        refine .inr ⟨b, off, cap0, rfl, hl', hm, hlt, fun j u hj => ?_⟩
        obtain ⟨X, hX, hu, hjl⟩ := flatL_get _ j u hj
        rw [hvl] at hjl
        rw [List.getElem?_map, List.getElem?_range hjl] at hX
        simp at hX
        subst hX
        have := (hq (j / 8) hjl).1 (j % 8) u hu
        rw [addr_add, show j / 8 * 8 + j % 8 = j by omega] at this
        exact this
    · have hil : i < len0 := by
        have := (List.getElem?_eq_some_iff.1 hy).1
        omega
      rw [List.getElem?_map, List.getElem?_range hil] at hy ht
      simp at hy ht
      subst hy ht
      exact (hq i hil).2.1
    · have hd : d = DataW.slice (elems.map (·.1)) (rest.map (·.1)) := congrArg Prod.fst hx5
      rw [hd, List.map_map]
      have h1 := bulk_sum (fun i => (elems.getD i (.nil, [])).1) (fun i => ruleW (q i).2) (List.range len0) (fun i hi => (hq i (by simpa using hi)).2.2)
      have h2 : (List.range len0).map (fun i => (elems.getD i (.nil, [])).1) = elems.map (·.1) := by
        apply List.ext_getElem? ; intro i
        by_cases hi : i < len0
        · rw [List.getElem?_map, List.getElem?_range hi, List.getElem?_map, List.getElem?_eq_getElem (show i < elems.length by omega)]
          simp [List.getD, List.getElem?_eq_getElem (show i < elems.length by omega)]
        · rw [List.getElem?_eq_none (by simp; omega), List.getElem?_eq_none (by simp; omega)]
      rw [h2] at h1
      simp only [Rows.uptoBulk]
      have h3 : ((List.range len0).map (ruleW ∘ fun i => (q i).2)) = (List.range len0).map (fun i => ruleW (q i).2) := rfl
      rw [h3]
      omega
end

end Go.Proofs.YtfoohffeccgkeaaDoor
