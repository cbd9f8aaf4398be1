/- The program's isEmpty, hasSeveralBytes, hasForm. No condition but size. -/
import Derived.Test.YtclnadjgbpihcaaGreatDoorQuery
namespace Go.Proofs.YtclnadjgbpihcaaGreatDoor
open Go.RowKit Go.Lib
set_option linter.unusedVariables false
set_option linter.unusedSimpArgs false

def Lone (x y : ReV) : Prop := ¬ (x.kind = 2 ∧ y.kind = 2)
theorem lone_none : ∀ l : List ReV, (∀ z ∈ l, z.kind ≠ 2) → l.Pairwise Lone
  | [], _ => .nil
  | x :: l, h => List.pairwise_cons.2 ⟨fun z hz k => h x (by simp) k.1, lone_none l fun z hz => h z (by simp [hz])⟩
theorem lone_at : ∀ (i : Nat) (vs : List ReV) (y : ReV), vs[i]? = some y → y.kind = 2 → (∀ (j : Nat) (z : ReV), j < i → vs[j]? = some z → z.kind ≠ 2) → (vs.Pairwise Lone ↔ ∀ z ∈ vs.drop (i + 1), z.kind ≠ 2)
  | i, [], y, h, _, _ => by simp at h
  | 0, x :: l, y, h, hk, _ => by
    obtain rfl : x = y := by simpa using h
    rw [List.pairwise_cons]
    exact ⟨fun h z hz k => h.1 z hz ⟨hk, k⟩, fun h => ⟨fun z hz k => h z hz k.2, lone_none l h⟩⟩
  | i + 1, x :: l, y, h, hk, hf => by
    rw [List.pairwise_cons, List.drop_succ_cons, ← lone_at i l y (by simpa using h) hk (fun j z hj hz => hf (j + 1) z (by omega) (by simpa using hz))]
    exact ⟨fun h => h.2, fun h => ⟨fun z _ k => hf 0 x (by omega) (by simp) k.1, h⟩⟩
theorem flat6_drop : ∀ (k : Nat) (vs : List ReV), (vs.drop k).flatMap ReV.cells = (vs.flatMap ReV.cells).drop (k * 6)
  | 0, vs => by simp
  | k + 1, [] => by simp
  | k + 1, x :: l => by
    rw [List.drop_succ_cons, flat6_drop k l, List.flatMap_cons, List.drop_append, List.drop_eq_nil_of_le (show x.cells.length ≤ (k + 1) * 6 by rw [x.cells_len]; omega), List.nil_append, x.cells_len, show (k + 1) * 6 - 6 = k * 6 by omega]
theorem RowV.drop {W : World} {P : Nat → Prop} {g off n cap : Nat} {vs : List ReV} (h : RowV W P (some ⟨g, off, none⟩) n cap vs) (k : Nat) (hk : k ≤ n) : RowV W P (some ⟨g, off + k * 6, none⟩) (n - k) (cap - k) (vs.drop k) := by
  refine ⟨?_, by rw [List.length_drop, ← h.num]⟩
  rcases h.row with ⟨h0, _⟩ | ⟨g', off', h1, h2, h3, h4, h5, h6⟩
  · exact .inl ⟨by omega, fun h => by cases h⟩
  · obtain ⟨rfl, rfl⟩ : g = g' ∧ off = off' := by simp at h1; exact h1
    refine .inr ⟨g, _, rfl, by omega, by omega, h4, h5, fun j u hj => ?_⟩
    rw [flat6_drop, List.getElem?_drop] at hj
    rw [Nat.add_assoc]
    exact h6 _ u hj

instance : DecidableRel Lone := fun x y => by unfold Lone; infer_instance
def sevB (vs : List ReV) : Bool := decide (¬ vs.Pairwise Lone)

/-- Two sets compared by '=='. -/
theorem eql_set (a0 a1 a2 a3 b0 b1 b2 b3 : Int) (w : World) :
    (Op.equalIn 10000 25 (.agg #[.int .u64 a0, .int .u64 a1, .int .u64 a2, .int .u64 a3]) (.agg #[.int .u64 b0, .int .u64 b1, .int .u64 b2, .int .u64 b3])).run Tryz.prog w = .ok (a0 == b0 && (a1 == b1 && (a2 == b2 && a3 == b3))) w := by
  rw [Op.equalIn]
  simp only [Sem.run_bind, run_underlying Tryz.underlying25, Result.andThen_ok]
  simp [Std.Legacy.Range.forIn_eq_forIn_range', List.range', go_sem]
  by_cases h0 : a0 = b0 <;> by_cases h1 : a1 = b1 <;> by_cases h2 : a2 = b2 <;> by_cases h3 : a3 = b3 <;> simp [h0, h1, h2, h3]
theorem w4_eq (a b c d e f g h : Int) : (a == e && (b == f && (c == g && d == h))) = decide ((⟨a, b, c, d⟩ : W4) = ⟨e, f, g, h⟩) := by
  by_cases h0 : a = e <;> by_cases h1 : b = f <;> by_cases h2 : c = g <;> by_cases h3 : d = h <;> simp [h0, h1, h2, h3]

set_option maxRecDepth 100000 in
set_option maxHeartbeats 4000000 in
theorem isempty_any (W : World) (a b c d : Int) : Calls Tryz.prog 65 #[.agg #[.int .u64 a, .int .u64 b, .int .u64 c, .int .u64 d]] W (GivesBool (decide ((⟨a, b, c, d⟩ : W4) = W4.zero)) W) := by
  obtain ⟨R, hR⟩ : ∃ R, R = decide ((⟨a, b, c, d⟩ : W4) = W4.zero) := ⟨_, rfl⟩
  rw [← hR]
  have hEq : ∀ w : World, (Op.equalIn 10000 25 (.agg #[.int .u64 a, .int .u64 b, .int .u64 c, .int .u64 d]) (.agg #[.int .u64 0, .int .u64 0, .int .u64 0, .int .u64 0])).run Tryz.prog w = .ok R w := fun w => by rw [eql_set, w4_eq, hR]; rfl
  clear hR
  have HB1 := Lib.hid ((Below.refl W.heap.size W).alloc (Nat.le_refl _) (.cells #[.int .u64 a, .int .u64 b, .int .u64 c, .int .u64 d] 25))
  go_enter Tryz.func65, Tryz.ntmps65
  go_wp2
  go_ret
  exact ⟨rfl, HB1.out⟩

end Go.Proofs.YtclnadjgbpihcaaGreatDoor

