/- One rule, in a block just made: the law's sameness holds of it. No condition. -/
import Derived.Test.YtddbaacibdmnaaaDoorTFrame
import Derived.Test.YtddbaacibdmnaaaDoorTSame
namespace Go.Proofs.YtddbaacibdmnaaaDoor
open Go.RowKit
set_option linter.unusedVariables false
set_option linter.unusedSimpArgs false

theorem short_one {r : Rule} (h : r.name.length + 20 * r.expr.tw ≤ 999999999990) : ShortL [r] := by
  intro i hi
  match i, hi with
  | 0, _ => simp
  | i + 1, hi =>
    have e : [r].take (i + 1) = [r] := by simp
    rw [e] at hi ⊢
    have hr : rlB r = true := by simpa using hi
    unfold rlB at hr
    rw [Bool.and_eq_true] at hr
    have := text_len 50 r.expr hr.2
    show (lineT r ++ []).length ≤ _
    rw [List.append_nil]
    unfold lineT
    simp only [List.length_append]
    have h4 : (if r.more = true then ([32, 61, 47, 32] : List Int) else [32, 61, 32]).length ≤ 4 := by split <;> simp
    have e10 : ([10] : List Int).length = 1 := rfl
    omega

/-- The law's sameness of one rule. -/
theorem line_same {V : World} {X : XV} {t : Tree} (h : ETree V X t) (ht : t.tw ≤ 10000000) (hT : Tabs V) :
    Calls Tryd.prog 8 #[.slice (some ⟨V.heap.size, 0, none⟩) 1 1] (V.alloc (.cells #[.string ⟨#[97]⟩, .bool false, .int .i64 X.kind, .string X.text, X.ns, .int .i64 X.lo, .int .i64 X.hi, X.ks] 34)) (GivesBool true V) := by
  have hA := (Below.refl V.heap.size V).alloc (Nat.le_refl _) (.cells #[.string ⟨#[97]⟩, .bool false, .int .i64 X.kind, .string X.text, X.ns, .int .i64 X.lo, .int .i64 X.hi, X.ks] 34)
  have hL := one_line (W := V.alloc (.cells #[.string ⟨#[97]⟩, .bool false, .int .i64 X.kind, .string X.text, X.ns, .int .i64 X.lo, .int .i64 X.hi, X.ks] 34)) (g := V.heap.size) (y := ⟨⟨#[97]⟩, false, X⟩) (r := ⟨[97], false, t⟩) (heap_last _ _ _ rfl) ⟨rfl, by simp, by simp, rfl, h.under hA⟩
  exact (same_any hL (hT.below hA) (short_one (by show 1 + 20 * t.tw ≤ _; omega))).mono fun e w' hw => ⟨hw.1, below_then hA hw.2⟩

theorem two_tree {W : World} {B : Nat} {k a b : Int} (h : W.heap[B]? = some (.cells #[.int .i64 a, .int .i64 b] 3 (0, 0))) : ETree W ⟨k, ⟨#[]⟩, .slice (some ⟨B, 0, none⟩) 2 2, 0, 0, .slice none 0 0⟩ (.mk k [] [a, b] 0 0 []) :=
  ETree.mk (x := []) (nums := [a, b]) (kids := []) [] (by simp) (by simp) (ints_at (xs := [a, b]) (by simp) h) (RowAny.nil _ _ _ _) rfl (fun i y t h => by simp at h)
theorem one_tree {W : World} {B : Nat} {lo hi : Int} {X : XV} {t : Tree} (h : W.heap[B]? = some (.cells #[.int .i64 X.kind, .string X.text, X.ns, .int .i64 X.lo, .int .i64 X.hi, X.ks] 32 (0, 0))) (ht : ETree W X t) : ETree W ⟨3, ⟨#[]⟩, .slice none 0 0, lo, hi, .slice (some ⟨B, 0, none⟩) 1 1⟩ (.mk 3 [] [] lo hi [t]) := by
  refine ETree.mk (x := []) (nums := []) [X] (by simp) (by simp) (RowAny.nil _ _ _ _) (RowAny.of_block h (by omega)) rfl (fun i y t' hy ht' => ?_)
  match i, hy, ht' with
  | 0, hy, ht' => cases hy; cases ht'; exact ht
  | i + 1, hy, ht' => simp at hy
theorem a_tree (W : World) : ETree W ⟨4, ⟨#[97]⟩, .slice none 0 0, 0, 0, .slice none 0 0⟩ (.mk 4 [97] [] 0 0 []) := ETree.mk (x := [97]) (nums := []) (kids := []) [] (by simp) (by simp) (RowAny.nil _ _ _ _) (RowAny.nil _ _ _ _) rfl (fun i y t h => by simp at h)

end Go.Proofs.YtddbaacibdmnaaaDoor
