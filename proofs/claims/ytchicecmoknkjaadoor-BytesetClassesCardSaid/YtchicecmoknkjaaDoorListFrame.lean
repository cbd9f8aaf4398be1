/- A list of sets as an argument, opened and handed back; no condition. -/
import Derived.Carry
import Derived.Deep.Slices
import Derived.Test.YtchicecmoknkjaaDoorRefClasses
import Derived.Test.YtchicecmoknkjaaDoorFrame
namespace Go.Proofs.YtchicecmoknkjaaDoor
open Go.ChangeShapes Go.WideShapes Go.ChangeAt Go.RowKit Go.Deep
set_option linter.unusedVariables false

section
variable {H : Type} {enc : TypeId × Value → H}

set_option maxRecDepth 100000 in
theorem open_sets {W : World} {base : Nat} {v : Value} {d : DataW H} {p : List MemPlace} (hval : Value.okWide Tryd.prog W .any base 37 v) (h : DataW.Trod enc Tryd.prog W 0 (fun _ => true) true 37 v d p) (hlt : ∀ x ∈ p, x.block < W.heap.size) :
    ∃ (a : Option Addr) (n cap : Nat) (x0 x1 x2 x3 : Nat → Int), v = .slice a n cap ∧ n ≤ maxLen ∧ SetsAt W v n x0 x1 x2 x3 ∧ ∀ i, i < n → IsSet (x0 i) (x1 i) (x2 i) (x3 i) (memb (x0 i) (x1 i) (x2 i) (x3 i)) := by
  obtain ⟨a0, len, cap, rfl⟩ := okWide_slice Tryd.underlying37 hval
  obtain ⟨fuel, hf⟩ := h
  rcases open_slice Tryd.underlying37 hf with ⟨hcs, hx⟩ | ⟨a, len', cap', m, n, D, Pl, hcs, _, hl, hm, hmm, hx, hel⟩
  · simp [Value.cells] at hcs
    obtain ⟨rfl, rfl, rfl⟩ := hcs
    exact ⟨none, 0, 0, fun _ => 0, fun _ => 0, fun _ => 0, fun _ => 0, rfl, Nat.zero_le _, .inl ⟨none, 0, rfl, rfl⟩, fun i hi => absurd hi (Nat.not_lt_zero i)⟩
  · simp [Value.cells] at hcs
    obtain ⟨rfl, rfl, rfl⟩ := hcs
    simp only [if_true] at hmm
    subst hmm
    by_cases hl0 : len = 0
    · subst hl0
      exact ⟨some a, 0, m, fun _ => 0, fun _ => 0, fun _ => 0, fun _ => 0, rfl, Nat.zero_le _, .inl ⟨_, _, rfl, rfl⟩, fun i hi => absurd hi (Nat.not_lt_zero i)⟩
    · have hcell : Tryd.prog.cellsOf 24 = 4 := cellsSet
      rw [hcell] at hel hx
      have each : ∀ i, i < len → ∃ q : Int × Int × Int × Int, (W.cell? (a.add (i * 4)) = some (.int .u64 q.1) ∧ W.cell? ((a.add (i * 4)).add 1) = some (.int .u64 q.2.1) ∧ W.cell? ((a.add (i * 4)).add 2) = some (.int .u64 q.2.2.1) ∧ W.cell? ((a.add (i * 4)).add 3) = some (.int .u64 q.2.2.2)) ∧
          IsSet q.1 q.2.1 q.2.2.1 q.2.2.2 (memb q.1 q.2.1 q.2.2.1 q.2.2.2) := by
        intro i hi
        obtain ⟨cs', h1, h2⟩ := hel i (by omega)
        obtain ⟨_, hlen, hat⟩ := World.cells?_some h1
        obtain ⟨c0, c1, c2, c3, rfl⟩ := list4 cs' hlen
        obtain ⟨y0, y1, y2, y3, m', hx', hy0, hy1, hy2, hy3⟩ := trod_array4 Tryd.underlying24 cellsWord h2
        obtain ⟨z0, e0, rfl, w0⟩ := DataW.trod_int Tryd.underlying22 hy0
        obtain ⟨z1, e1, rfl, w1⟩ := DataW.trod_int Tryd.underlying22 hy1
        obtain ⟨z2, e2, rfl, w2⟩ := DataW.trod_int Tryd.underlying22 hy2
        obtain ⟨z3, e3, rfl, w3⟩ := DataW.trod_int Tryd.underlying22 hy3
        simp at e0 e1 e2 e3
        subst e0 e1 e2 e3
        exact ⟨(z0, z1, z2, z3), ⟨by simpa [Addr.add] using hat 0 (by omega), hat 1 (by omega), hat 2 (by omega), hat 3 (by omega)⟩, IsSet.of _ _ _ _ (wf_u64 w0) (wf_u64 w1) (wf_u64 w2) (wf_u64 w3)⟩
      obtain ⟨q, hq⟩ := choose_lt (α := Int × Int × Int × Int) each
      obtain ⟨B, off, spot⟩ := a
      have hspot : spot = none := by simpa [Addr.add] using World.cell?_spot (hq 0 (by omega)).1.1
      subst hspot
      have hBW : B < W.heap.size := by
        have := block_lt_of_cell (hq 0 (by omega)).1.1
        simpa [Addr.add] using this
      have hadd : ∀ (o j : Nat), (⟨B, o, none⟩ : Addr).add j = ⟨B, o + j, none⟩ := by
        intro o j
        by_cases h0 : j = 0 <;> simp [Addr.add, h0]
      refine ⟨_, len, m, fun i => (q i).1, fun i => (q i).2.1, fun i => (q i).2.2.1, fun i => (q i).2.2.2, rfl, Nat.le_trans hl hm, .inr ⟨B, off, m, rfl, hl, hBW, fun i hi => ?_⟩, fun i hi => (hq i hi).2⟩
      obtain ⟨⟨k0, k1, k2, k3⟩, _⟩ := hq i hi
      rw [hadd, hadd] at k1 k2 k3
      rw [hadd] at k0
      exact ⟨k0, k1, k2, k3⟩

end

theorem sizeInt (w : World) : (sizeOf 3).run Tryd.prog w = .ok 1 w := by kernel_rfl

set_option maxRecDepth 100000 in
theorem eql_row (w : World) (cs : Array Value) (hi : ∀ i, i < 256 → ∃ z : Int, cs[i]? = some (.int .i64 z)) :
    (Op.equalIn 10000 38 (.agg cs) (.agg cs)).run Tryd.prog w = .ok true w := by
  rw [Op.equalIn]
  simp only [Sem.run_bind, run_underlying Tryd.underlying38, Result.andThen_ok, sizeInt, Std.Legacy.Range.forIn_eq_forIn_range', Std.Legacy.Range.size, Nat.sub_zero, Nat.add_sub_cancel, Nat.div_one]
  have hl : ∀ i ∈ List.range' 0 256 1, i < 256 := fun i hi => by simpa using (List.mem_range'_1.1 hi).2
  generalize List.range' 0 256 1 = l at hl ⊢
  induction l with
  | nil => simp
  | cons i l ih =>
    obtain ⟨z, hz⟩ := hi i (hl i (by simp))
    have px : (part 3 cs (i * 1)).run Tryd.prog w = .ok (.int .i64 z) w := by
      simp [part, isAgg, run_underlying Tryd.underlying3, hz]
    have pe : (Op.equalIn 9999 3 (.int .i64 z) (.int .i64 z)).run Tryd.prog w = .ok true w := by
      rw [run_equalIn_int w 9998 3 .i64 .i64 _ _ Tryd.underlying3]
      simp
    simp only [List.forIn_cons, Sem.run_bind, px, pe, Result.andThen_ok, Bool.not_true, Bool.false_eq_true, if_false, Sem.run_pure]
    exact ih fun j hj => hl j (by simp [hj])

theorem ccells_int (n : Nat) (fs : Nat → Nat → Bool) (k i : Nat) (hi : i < 256) : ∃ z : Int, (ccells n fs k)[i]? = some (.int .i64 z) := ⟨_, ccells_at n fs k i hi⟩

end Go.Proofs.YtchicecmoknkjaaDoor
