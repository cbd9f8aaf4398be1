/- The program's isEmpty, hasSeveralBytes, hasForm. No condition but size. -/
import Derived.Test.YtchicecmoknkjabDoorQuery
namespace Go.Proofs.YtchicecmoknkjabDoor
open Go.RowKit Go.Lib
set_option linter.unusedVariables false
set_option linter.unusedSimpArgs false

def Lone (x y : ReV) : Prop := ¬ (x.kind = 2 ∧ y.kind = 2)
theorem lone_none : ∀ l : List ReV, (∀ z ∈ l, z.kind ≠ 2) → l.Pairwise Lone
  | [], _ => .nil
  | x :: l, h => List.pairwise_cons.2 ⟨fun z hz k => h x (by simp) k.1, lone_none l fun z hz => h z (by simp [hz])⟩
theorem lone_at : ∀ (i : Nat) (vs : List ReV) (y : ReV), vs[i]? = some y → y.kind = 2 → (∀ (j : Nat) (z : ReV), j < i → vs[j]? = some z → z.kind ≠ 2) → (vs.Pairwise Lone ↔ ∀ z ∈ vs.drop (i + 1), z.kind ≠ 2)
  | i, [], y, h, _, _ => by simp at h
  | 0, x :: l, y, h, hk, _ => by
    obtain rfl : x = y := by simpa using h
    rw [List.pairwise_cons]
    exact ⟨fun h z hz k => h.1 z hz ⟨hk, k⟩, fun h => ⟨fun z hz k => h z hz k.2, lone_none l h⟩⟩
  | i + 1, x :: l, y, h, hk, hf => by
    rw [List.pairwise_cons, List.drop_succ_cons, ← lone_at i l y (by simpa using h) hk (fun j z hj hz => hf (j + 1) z (by omega) (by simpa using hz))]
    exact ⟨fun h => h.2, fun h => ⟨fun z _ k => hf 0 x (by omega) (by simp) k.1, h⟩⟩
theorem flat6_drop : ∀ (k : Nat) (vs : List ReV), (vs.drop k).flatMap ReV.cells = (vs.flatMap ReV.cells).drop (k * 6)
  | 0, vs => by simp
  | k + 1, [] => by simp
  | k + 1, x :: l => by
    rw [List.drop_succ_cons, flat6_drop k l, List.flatMap_cons, List.drop_append, List.drop_eq_nil_of_le (show x.cells.length ≤ (k + 1) * 6 by rw [x.cells_len]; omega), List.nil_append, x.cells_len, show (k + 1) * 6 - 6 = k * 6 by omega]
theorem RowV.drop {W : World} {P : Nat → Prop} {g off n cap : Nat} {vs : List ReV} (h : RowV W P (some ⟨g, off, none⟩) n cap vs) (k : Nat) (hk : k ≤ n) : RowV W P (some ⟨g, off + k * 6, none⟩) (n - k) (cap - k) (vs.drop k) := by
  refine ⟨?_, by rw [List.length_drop, ← h.num]⟩
  rcases h.row with ⟨h0, _⟩ | ⟨g', off', h1, h2, h3, h4, h5, h6⟩
  · exact .inl ⟨by omega, fun h => by cases h⟩
  · obtain ⟨rfl, rfl⟩ : g = g' ∧ off = off' := by simp at h1; exact h1
    refine .inr ⟨g, _, rfl, by omega, by omega, h4, h5, fun j u hj => ?_⟩
    rw [flat6_drop, List.getElem?_drop] at hj
    rw [Nat.add_assoc]
    exact h6 _ u hj

instance : DecidableRel Lone := fun x y => by unfold Lone; infer_instance
def sevB (vs : List ReV) : Bool := decide (¬ vs.Pairwise Lone)

theorem isbyte_any (W : World) (x : ReV) : Calls Tryd.prog 60 (#[x.val] ++ #[]) W (GivesBool (x.kind == 2) W) := by
  show Calls Tryd.prog 60 #[x.val] W (GivesBool (x.kind == 2) W)
  obtain ⟨k, a, b, c, d, p, m, cap⟩ := x
  unfold ReV.val
  simp only []
  have HB1 := Lib.hid ((Below.refl W.heap.size W).alloc (Nat.le_refl _) (.cells #[.int .i64 k, .int .u64 a, .int .u64 b, .int .u64 c, .int .u64 d, .slice p m cap] 30))
  go_enter Tryd.func60, Tryd.ntmps60
  go_wp2
  go_ret
  exact ⟨rfl, HB1.out⟩

set_option maxRecDepth 100000 in
set_option maxHeartbeats 4000000 in
theorem several_any (w : World) {P : Nat → Prop} {p : Option Addr} {n cap : Nat} {vs : List ReV} (h : RowV w P p n cap vs) (hn : n ≤ 9223372036854775807) (hcap : n ≤ cap ∧ cap ≤ maxLen) :
    Calls Tryd.prog 49 #[.slice p n cap] w (GivesBool (sevB vs) w) := by
  have eg : ∀ args w, (callFunc 60 args).run Tryd.prog w = .ok (.enter 60 args) w := fun args w => Go.MuLone.run_callFunc_enter Tryd.func60 (by kernel_rfl) rfl args w
  have EG := Lib.hid eg
  have hcon := index_any 60 #[] eg (fun x => x.kind == 2) w (fun W x _ => isbyte_any W x) h hn
  have HR := Lib.hid h
  have hc1 := hcap.1
  have hc2 := hcap.2
  clear h eg hcap
  obtain ⟨R, hR⟩ : ∃ R, R = sevB vs := ⟨_, rfl⟩
  rw [← hR]
  have HS := Lib.hid hR
  clear hR
  go_enter Tryd.func49, Tryd.ntmps49
  go_wp2_with fail
  ((with_reducible refine hcon.mono ?_))
  rintro _ w2 ⟨r, rfl, hf, hb⟩
  have HB := Lib.hid hb
  clear hb hcon
  rcases hf with ⟨rfl, hf⟩ | ⟨i, y, rfl, hy, hq, hf⟩
  · have HF := Lib.hid hf
    clear hf
    go_wp2
    go_ret
    refine ⟨?_, HB.out⟩
    have e : sevB vs = false := decide_eq_false (fun h => h (lone_none vs fun z hz => by have := HF.out z hz; simpa using this))
    rw [HS.out, e]
    exact rfl
  · have hi : i < n := by rw [HR.out.num]; exact (List.getElem?_eq_some_iff.1 hy).1
    obtain ⟨g, off, rfl⟩ := HR.out.some_of hi
    have c2 := containsf_any 60 #[] EG.out (fun x => x.kind == 2) w2 (fun W x _ => isbyte_any W x) ((HR.out.under HB.out).drop (i + 1) (by omega)) (by omega)
    have hl := lone_at i vs y hy (by simpa using hq) (fun j z hj hz => by have := hf j z hj hz; simpa using this)
    have hRR : R = (vs.drop (i + 1)).any fun x => x.kind == 2 := by
      rw [HS.out]
      cases e : (vs.drop (i + 1)).any fun x => x.kind == 2 with
      | true =>
        refine decide_eq_true (fun h => ?_)
        obtain ⟨z, hz, hk⟩ := List.any_eq_true.1 e
        exact hl.1 h z hz (by simpa using hk)
      | false =>
        refine decide_eq_false (fun h => h (hl.2 fun z hz k => ?_))
        rw [List.any_eq_false] at e
        exact e z hz (by simpa using k)
    rw [← hRR] at c2
    have e2 : decide ((i : Int) ≥ 0) = true := by simp
    have HRR := Lib.hid hRR
    clear hf hy hq hl hRR
    go_wp2_with fail
    case inr =>
      ((with_reducible refine c2.mono ?_))
      rintro _ w3 ⟨rfl, hb3⟩
      have HB3 := Lib.hid hb3
      clear hb3 c2
      go_wp2
      go_ret
      exact ⟨rfl, HB.out.trans (HB3.out.mono HB.out.size)⟩
    case inl =>
      clear c2
      have c3 := containsf_any (P := P) 60 #[] EG.out (fun x => x.kind == 2) w2 (fun W x _ => isbyte_any W x) (p := some ⟨g, off, none⟩) (n := n - (i + 1)) (cap := 0) (vs := vs.drop (i + 1)) ⟨.inl ⟨by omega, fun h => by cases h⟩, by rw [List.length_drop, ← HR.out.num]⟩ (by omega)
      rw [← HRR.out] at c3
      ((with_reducible refine c3.mono ?_))
      rintro _ w3 ⟨rfl, hb3⟩
      have HB3 := Lib.hid hb3
      clear hb3 c3
      go_wp2
      go_ret
      exact ⟨rfl, HB.out.trans (HB3.out.mono HB.out.size)⟩

/-- Two sets compared by '=='. -/
theorem eql_set (a0 a1 a2 a3 b0 b1 b2 b3 : Int) (w : World) :
    (Op.equalIn 10000 28 (.agg #[.int .u64 a0, .int .u64 a1, .int .u64 a2, .int .u64 a3]) (.agg #[.int .u64 b0, .int .u64 b1, .int .u64 b2, .int .u64 b3])).run Tryd.prog w = .ok (a0 == b0 && (a1 == b1 && (a2 == b2 && a3 == b3))) w := by
  rw [Op.equalIn]
  simp only [Sem.run_bind, run_underlying Tryd.underlying28, Result.andThen_ok]
  simp [Std.Legacy.Range.forIn_eq_forIn_range', List.range', go_sem]
  by_cases h0 : a0 = b0 <;> by_cases h1 : a1 = b1 <;> by_cases h2 : a2 = b2 <;> by_cases h3 : a3 = b3 <;> simp [h0, h1, h2, h3]
theorem w4_eq (a b c d e f g h : Int) : (a == e && (b == f && (c == g && d == h))) = decide ((⟨a, b, c, d⟩ : W4) = ⟨e, f, g, h⟩) := by
  by_cases h0 : a = e <;> by_cases h1 : b = f <;> by_cases h2 : c = g <;> by_cases h3 : d = h <;> simp [h0, h1, h2, h3]

set_option maxRecDepth 100000 in
set_option maxHeartbeats 4000000 in
theorem isempty_any (W : World) (a b c d : Int) : Calls Tryd.prog 31 #[.agg #[.int .u64 a, .int .u64 b, .int .u64 c, .int .u64 d]] W (GivesBool (decide ((⟨a, b, c, d⟩ : W4) = W4.zero)) W) := by
  obtain ⟨R, hR⟩ : ∃ R, R = decide ((⟨a, b, c, d⟩ : W4) = W4.zero) := ⟨_, rfl⟩
  rw [← hR]
  have hEq : ∀ w : World, (Op.equalIn 10000 28 (.agg #[.int .u64 a, .int .u64 b, .int .u64 c, .int .u64 d]) (.agg #[.int .u64 0, .int .u64 0, .int .u64 0, .int .u64 0])).run Tryd.prog w = .ok R w := fun w => by rw [eql_set, w4_eq, hR]; rfl
  clear hR
  have HB1 := Lib.hid ((Below.refl W.heap.size W).alloc (Nat.le_refl _) (.cells #[.int .u64 a, .int .u64 b, .int .u64 c, .int .u64 d] 28))
  go_enter Tryd.func31, Tryd.ntmps31
  go_wp2
  go_ret
  exact ⟨rfl, HB1.out⟩

end Go.Proofs.YtchicecmoknkjabDoor
