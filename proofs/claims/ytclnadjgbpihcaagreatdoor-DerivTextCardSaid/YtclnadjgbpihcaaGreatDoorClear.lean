/- What deleting in place stands on: 'clear' on a row of expressions, rows that shrink, a store into a row, the predicate of 'without'. No condition. -/
import Derived.Test.YtclnadjgbpihcaaGreatDoorUnion
import Derived.Laws.IdiomCopy
namespace Go.Proofs.YtclnadjgbpihcaaGreatDoor
open Go.RowKit Go.Lib
set_option linter.unusedVariables false
set_option linter.unusedSimpArgs false

def zero6 : Array Value := #[.int .i64 0, .int .u64 0, .int .u64 0, .int .u64 0, .int .u64 0, .slice none 0 0]
theorem zero6_len (n : Nat) : (Builtin.zeroCells zero6 n).toList.length = n * 6 := by
  simp [Builtin.zeroCells, zero6]
theorem zero6_one (n : Nat) : ∀ v ∈ (Builtin.zeroCells zero6 n).toList, v.oneCell' = true := by
  intro v hv
  simp [Builtin.zeroCells] at hv
  obtain ⟨i, _, rfl⟩ := hv
  have h : ∀ j, j < 6 → (zero6[j]!).oneCell' = true := by decide
  exact h _ (Nat.mod_lt _ (by decide))

set_option maxRecDepth 100000 in
theorem run_clear6 (w : World) (ty : TypeId) (g o n c : Nat) (hn : 0 < n) (hc : ∀ j, j < n * 6 → (w.cell? ⟨g, o + j, none⟩).isSome = true) (hf : ∀ j, j < n * 6 → w.frozen? ⟨g, o + j, none⟩ = false) :
    (Builtin.clear_ #[26] ty #[.slice (some ⟨g, o, none⟩) n c]).run Tryz.prog w = .ok (.tuple #[]) (w.setCells g o (Builtin.zeroCells zero6 n).toList) := by
  have hst := run_storeCells_cells (P := Tryz.prog) g o (Builtin.zeroCells zero6 n).toList 0 w (by rw [zero6_len]; simpa using hc) (by rw [zero6_len]; simpa using hf) (zero6_one n)
  simp only [Nat.add_zero] at hst
  obtain ⟨m, rfl⟩ : ∃ m, n = m + 1 := ⟨n - 1, by omega⟩
  have hz : (Value.agg #[.int .i64 0, .int .u64 0, .int .u64 0, .int .u64 0, .int .u64 0, .slice none 0 0]).cells = zero6 := rfl
  simp [Builtin.clear_, run_underlying Tryz.underlying26, Tryz.zeroValue28, hz, hst]

theorem own_cells_out {base size n g cap : Nat} {e : TypeId} {xs : List Value} : ∀ (vs : List Value) (o : Nat) (W : World), xs.length ≤ o → W.ownsRow base e size (.slice (some ⟨g, 0, none⟩) n cap) n xs → (W.setCells g o vs).ownsRow base e size (.slice (some ⟨g, 0, none⟩) n cap) n xs
  | [], _, _, _, h => h
  | v :: vs, o, W, ho, h => by
    have h1 := own_set5r h o v
    rw [List.set_eq_of_length_le ho] at h1
    exact own_cells_out vs (o + 1) _ (by omega) h1
theorem own_less {W : World} {base size n m g cap : Nat} {e : TypeId} {xs : List Value} (h : W.ownsRow base e size (.slice (some ⟨g, 0, none⟩) n cap) n xs) (hm : m ≤ n) : W.ownsRow base e size (.slice (some ⟨g, 0, none⟩) m cap) m (xs.take (m * size)) := by
  obtain ⟨hl, h2⟩ := h
  have hms : m * size ≤ n * size := Nat.mul_le_mul_right _ hm
  refine ⟨by rw [List.length_take]; omega, ?_⟩
  rcases h2 with ⟨h2, _⟩ | ⟨g', cap', cur, hv, hb, hh, hc, hcm, hsz, ht⟩
  · cases h2
  · obtain ⟨rfl, rfl⟩ : g = g' ∧ cap = cap' := by simp at hv; omega
    refine .inr ⟨g, cap, cur, rfl, hb, hh, by omega, hcm, hsz, ?_⟩
    rw [← ht, List.take_take, Nat.min_eq_left hms]
theorem flat6_take : ∀ (k : Nat) (vs : List ReV), (vs.take k).flatMap ReV.cells = (vs.flatMap ReV.cells).take (k * 6)
  | 0, vs => by simp
  | k + 1, [] => by simp
  | k + 1, x :: l => by
    rw [List.take_succ_cons, List.flatMap_cons, List.flatMap_cons, flat6_take k l, List.take_append, List.take_of_length_le (show x.cells.length ≤ (k + 1) * 6 by rw [x.cells_len]; omega), x.cells_len, show (k + 1) * 6 - 6 = k * 6 by omega]
theorem flat6_set (vs : List ReV) (i : Nat) (x : ReV) (h : i < vs.length) :
    ((((((vs.flatMap ReV.cells).set (i * 6) (.int .i64 x.kind)).set (i * 6 + 1) (.int .u64 x.a)).set (i * 6 + 2) (.int .u64 x.b)).set (i * 6 + 3) (.int .u64 x.c)).set (i * 6 + 4) (.int .u64 x.d)).set (i * 6 + 5) (.slice x.p x.n x.cap) = (vs.set i x).flatMap ReV.cells := by
  induction vs generalizing i with
  | nil => simp at h
  | cons y vs ih =>
    cases i with
    | zero => simp [ReV.cells]
    | succ i =>
      have ih := ih i (by simpa using h)
      have e : ∀ (j : Nat) (l : List Value) (u : Value), (y.cells ++ l).set ((i + 1) * 6 + j) u = y.cells ++ l.set (i * 6 + j) u := fun j l u => by
        rw [List.set_append, if_neg (by simp [ReV.cells]; omega), show (i + 1) * 6 + j - y.cells.length = i * 6 + j by simp [ReV.cells]; omega]
      have e0 := e 0
      simp only [Nat.add_zero] at e0
      simp only [List.flatMap_cons, List.set_cons_succ, e0, e]
      rw [ih]

set_option maxRecDepth 100000 in
theorem without1_any (W : World) (x : ReV) (B : Nat) (kk : Int) (hB : W.heap[B]? = some (.cells #[.int .i64 kk] 3 (0, 0))) :
    Calls Tryz.prog 68 (#[x.val] ++ #[.pointer (some ⟨B, 0, none⟩)]) W (GivesBool (x.kind == kk) W) := by
  show Calls Tryz.prog 68 #[x.val, .pointer (some ⟨B, 0, none⟩)] W (GivesBool (x.kind == kk) W)
  obtain ⟨k, a, b, c, d, p, m, cap⟩ := x
  unfold ReV.val
  simp only []
  have hb1 : Below W.heap.size W (W.alloc (.cells #[.int .i64 k, .int .u64 a, .int .u64 b, .int .u64 c, .int .u64 d, .slice p m cap] 28)) := (Below.refl _ _).alloc (Nat.le_refl _) _
  have c0 : (W.alloc (.cells #[.int .i64 k, .int .u64 a, .int .u64 b, .int .u64 c, .int .u64 d, .slice p m cap] 28)).cell? ⟨B, 0, none⟩ = some (.int .i64 kk) := by
    have h2 := (hb1.block B (Array.getElem?_eq_some_iff.1 hB).1).trans hB
    simp [World.cell?, h2]
  have HB1 := Lib.hid hb1
  clear hB hb1
  go_enter Tryz.func68, Tryz.ntmps68
  go_wp2
  go_ret
  exact ⟨rfl, HB1.out⟩

end Go.Proofs.YtclnadjgbpihcaaGreatDoor

