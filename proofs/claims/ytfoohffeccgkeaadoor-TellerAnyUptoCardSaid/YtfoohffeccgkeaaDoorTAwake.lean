/- What the laws of the teller ask of any right program: awake. -/
import Derived.Test.YtfoohffeccgkeaaDoorTTell
namespace Go.Proofs.YtfoohffeccgkeaaDoor
open Go.RowKit
set_option linter.unusedVariables false
set_option linter.unusedSimpArgs false

def awkExpr : Tree := .mk 1 [] [] 0 0 [.mk 3 [] [] 1 2 [.mk 4 [98] [] 0 0 []], .mk 5 [99] [] 0 0 []]
def awkA : Rule := ⟨[97], false, awkExpr⟩
def awkB : Rule := ⟨[65], false, awkExpr⟩

theorem RowAny.of_block {W : World} {g n : Nat} {cs : Array Value} {t : TypeId} (h : W.heap[g]? = some (.cells cs t (0, 0))) (hn : n ≤ 1000000) : RowAny W (.slice (some ⟨g, 0, none⟩) n n) n cs.toList := by
  refine .inr ⟨g, 0, n, rfl, Nat.le_refl _, by unfold maxLen; omega, (Array.getElem?_eq_some_iff.1 h).1, fun j u hj => ?_⟩
  simp only [World.cell?, h, Nat.zero_add]
  simpa using hj
theorem RowAny.nil (W : World) (a : Option Addr) (cap : Nat) (xs : List Value) : RowAny W (.slice a 0 cap) 0 xs := .inl ⟨rfl, a, cap, rfl⟩

/-- The expression as awake lays it down. -/
theorem awk_tree {W : World} {N : Nat}
    (b0 : W.heap[N]? = some (.cells #[.int .i64 4, .string ⟨#[98]⟩, .slice none 0 0, .int .i64 0, .int .i64 0, .slice none 0 0] 29 (0, 0)))
    (b2 : W.heap[N + 2]? = some (.cells #[.int .i64 3, .string ⟨#[]⟩, .slice none 0 0, .int .i64 1, .int .i64 2, .slice (some ⟨N, 0, none⟩) 1 1, .int .i64 5, .string ⟨#[99]⟩, .slice none 0 0, .int .i64 0, .int .i64 0, .slice none 0 0] 29 (0, 0))) :
    ETree W ⟨1, ⟨#[]⟩, .slice none 0 0, 0, 0, .slice (some ⟨N + 2, 0, none⟩) 2 2⟩ awkExpr := by
  have t1 : ETree W ⟨4, ⟨#[98]⟩, .slice none 0 0, 0, 0, .slice none 0 0⟩ (.mk 4 [98] [] 0 0 []) := ETree.mk (x := [98]) (nums := []) (kids := []) [] (by simp) (by simp) (RowAny.nil _ _ _ _) (RowAny.nil _ _ _ _) rfl (fun i y t h => by simp at h)
  have t3 : ETree W ⟨5, ⟨#[99]⟩, .slice none 0 0, 0, 0, .slice none 0 0⟩ (.mk 5 [99] [] 0 0 []) := ETree.mk (x := [99]) (nums := []) (kids := []) [] (by simp) (by simp) (RowAny.nil _ _ _ _) (RowAny.nil _ _ _ _) rfl (fun i y t h => by simp at h)
  have t2 : ETree W ⟨3, ⟨#[]⟩, .slice none 0 0, 1, 2, .slice (some ⟨N, 0, none⟩) 1 1⟩ (.mk 3 [] [] 1 2 [.mk 4 [98] [] 0 0 []]) := by
    refine ETree.mk (x := []) (nums := []) [⟨4, ⟨#[98]⟩, .slice none 0 0, 0, 0, .slice none 0 0⟩] (by simp) (by simp) (RowAny.nil _ _ _ _) (RowAny.of_block b0 (by omega)) rfl (fun i y t hy ht => ?_)
    match i, hy, ht with
    | 0, hy, ht => cases hy; cases ht; exact t1
    | i + 1, hy, ht => simp at hy
  refine ETree.mk (x := []) (nums := []) [⟨3, ⟨#[]⟩, .slice none 0 0, 1, 2, .slice (some ⟨N, 0, none⟩) 1 1⟩, ⟨5, ⟨#[99]⟩, .slice none 0 0, 0, 0, .slice none 0 0⟩] (by simp) (by simp) (RowAny.nil _ _ _ _) (RowAny.of_block b2 (by omega)) rfl (fun i y t hy ht => ?_)
  match i, hy, ht with
  | 0, hy, ht => cases hy; cases ht; exact t2
  | 1, hy, ht => cases hy; cases ht; exact t3
  | i + 2, hy, ht => simp at hy

/-- A list of one rule in a block. -/
theorem one_line {W : World} {g : Nat} {y : LV} {r : Rule} (h : W.heap[g]? = some (.cells y.arr 34 (0, 0))) (hr : LineE W y r) : LinesE W (.slice (some ⟨g, 0, none⟩) 1 1) [y] [r] := by
  refine ⟨RowAny.of_block (cs := y.arr) h (by omega), rfl, fun i y' r' hy ht => ?_⟩
  match i, hy, ht with
  | 0, hy, ht => cases hy; cases ht; exact hr
  | i + 1, hy, ht => simp at hy

theorem awkA_right : rlB awkA = true := by decide +kernel
theorem awkB_right : rlB awkB = false := by decide +kernel
theorem awkE_right : rightF 50 awkExpr = true := by decide +kernel
theorem awkA_text : lineT awkA = [97, 32, 61, 32, 49, 42, 50, 98, 32, 47, 32, 34, 99, 34, 10] := by decide +kernel
theorem tell_awkA : tellV [awkA] = .tuple #[.string ⟨#[97, 32, 61, 32, 49, 42, 50, 98, 32, 47, 32, 34, 99, 34, 10]⟩, .int .i64 0] := by
  unfold tellV
  have : [awkA].all rlB = true := by rw [List.all_cons, awkA_right]; rfl
  rw [if_pos this]
  have e : ([awkA].map lineT).flatten = [97, 32, 61, 32, 49, 42, 50, 98, 32, 47, 32, 34, 99, 34, 10] := by
    show lineT awkA ++ [] = _
    rw [awkA_text]; rfl
  rw [e]
  rfl
theorem tell_awkB : tellV [awkB] = .tuple #[.string ⟨#[]⟩, .int .i64 1] := by
  unfold tellV
  have : ¬ [awkB].all rlB = true := by rw [List.all_cons, awkB_right]; simp
  rw [if_neg this]

theorem empty_tree (W : World) : ETree W ⟨0, ⟨#[]⟩, .slice none 0 0, 0, 0, .slice none 0 0⟩ (.mk 0 [] [] 0 0 []) := ETree.mk (x := []) (nums := []) (kids := []) [] (by simp) (by simp) (RowAny.nil _ _ _ _) (RowAny.nil _ _ _ _) rfl (fun i y t h => by simp at h)
theorem empty_right : rightF 50 (.mk 0 [] [] 0 0 []) = false := by decide +kernel

theorem heap_old (W : World) (o : Obj) {b : Nat} {x : Obj} (h : W.heap[b]? = some x) : (W.alloc o).heap[b]? = some x := by
  have hl : b < W.heap.size := (Array.getElem?_eq_some_iff.1 h).1
  exact (Below.heap_alloc _ _ _ (by omega)).trans h

set_option maxRecDepth 100000 in
theorem awk_laid (w : World) (W : World) (hW : W = (((((w.alloc (.cells #[.int .i64 4, .string ⟨#[98]⟩, .slice none 0 0, .int .i64 0, .int .i64 0, .slice none 0 0] 29)).alloc (.cells #[.int .i64 3, .string ⟨#[]⟩, .slice none 0 0, .int .i64 1, .int .i64 2, .slice (some ⟨w.heap.size, 0, none⟩) 1 1] 29)).alloc (.cells #[.int .i64 3, .string ⟨#[]⟩, .slice none 0 0, .int .i64 1, .int .i64 2, .slice (some ⟨w.heap.size, 0, none⟩) 1 1, .int .i64 5, .string ⟨#[99]⟩, .slice none 0 0, .int .i64 0, .int .i64 0, .slice none 0 0] 29)).alloc (.cells #[.int .i64 1, .string ⟨#[]⟩, .slice none 0 0, .int .i64 0, .int .i64 0, .slice (some ⟨w.heap.size + 1 + 1, 0, none⟩) 2 2] 29)).alloc (.cells #[.string ⟨#[97]⟩, .bool false, .int .i64 1, .string ⟨#[]⟩, .slice none 0 0, .int .i64 0, .int .i64 0, .slice (some ⟨w.heap.size + 1 + 1, 0, none⟩) 2 2] 34))) :
    ETree W ⟨1, ⟨#[]⟩, .slice none 0 0, 0, 0, .slice (some ⟨w.heap.size + 1 + 1, 0, none⟩) 2 2⟩ awkExpr ∧
    LinesE W (.slice (some ⟨w.heap.size + 1 + 1 + 1 + 1, 0, none⟩) 1 1) [⟨⟨#[97]⟩, false, ⟨1, ⟨#[]⟩, .slice none 0 0, 0, 0, .slice (some ⟨w.heap.size + 1 + 1, 0, none⟩) 2 2⟩⟩] [awkA] ∧
    X6 W (w.heap.size + 1 + 1 + 1) 1 0 0 ⟨#[]⟩ (.slice none 0 0) (.slice (some ⟨w.heap.size + 1 + 1, 0, none⟩) 2 2) ∧ Below w.heap.size w W := by
  have b0 : W.heap[w.heap.size]? = some (.cells #[.int .i64 4, .string ⟨#[98]⟩, .slice none 0 0, .int .i64 0, .int .i64 0, .slice none 0 0] 29) := by
    rw [hW]; exact heap_old _ _ (heap_old _ _ (heap_old _ _ (heap_old _ _ (heap_last _ _ _ rfl))))
  have b2 : W.heap[w.heap.size + 1 + 1]? = some (.cells #[.int .i64 3, .string ⟨#[]⟩, .slice none 0 0, .int .i64 1, .int .i64 2, .slice (some ⟨w.heap.size, 0, none⟩) 1 1, .int .i64 5, .string ⟨#[99]⟩, .slice none 0 0, .int .i64 0, .int .i64 0, .slice none 0 0] 29) := by
    rw [hW]; exact heap_old _ _ (heap_old _ _ (heap_last _ _ _ (by simp)))
  have b3 : W.heap[w.heap.size + 1 + 1 + 1]? = some (.cells #[.int .i64 1, .string ⟨#[]⟩, .slice none 0 0, .int .i64 0, .int .i64 0, .slice (some ⟨w.heap.size + 1 + 1, 0, none⟩) 2 2] 29) := by
    rw [hW]; exact heap_old _ _ (heap_last _ _ _ (by simp))
  have b4 : W.heap[w.heap.size + 1 + 1 + 1 + 1]? = some (.cells #[.string ⟨#[97]⟩, .bool false, .int .i64 1, .string ⟨#[]⟩, .slice none 0 0, .int .i64 0, .int .i64 0, .slice (some ⟨w.heap.size + 1 + 1, 0, none⟩) 2 2] 34) := by
    rw [hW]; exact heap_last _ _ _ (by simp)
  have hE := awk_tree b0 b2
  refine ⟨hE, one_line (y := ⟨⟨#[97]⟩, false, ⟨1, ⟨#[]⟩, .slice none 0 0, 0, 0, .slice (some ⟨w.heap.size + 1 + 1, 0, none⟩) 2 2⟩⟩) b4 ⟨rfl, by simp [awkA], by simp [awkA], rfl, hE⟩, b3, ?_⟩
  rw [hW]
  exact (((((Below.refl w.heap.size w).alloc (Nat.le_refl _) _).alloc (by simp) _).alloc (by simp; omega) _).alloc (by simp; omega) _).alloc (by simp; omega) _

set_option maxRecDepth 100000 in
set_option maxHeartbeats 8000000 in
theorem awake_any {w : World} (hT : Tabs w) : Calls Tryd.prog 4 #[] w (GivesBool true w) := by
  obtain ⟨hE, hL, hX, hb⟩ := awk_laid w _ rfl
  have HT := Lib.hid hT
  have HTELL := Lib.hid (tell_any hL (hT.below hb) (fun _ => by
    show (lineT awkA ++ []).length ≤ _
    rw [awkA_text]; simp))
  have HE := Lib.hid hE
  have HX := Lib.hid hX
  have HB := Lib.hid hb
  have HN := Lib.hid (fun W => name_text (x := [97, 45, 49]) W (by simp) (by simp))
  rw [show nameB [97, 45, 49] = true by decide] at HN
  clear hT hE hL hX hb
  go_enter Tryd.func4, Tryd.ntmps4
  go_wp2_with fail
  refine HTELL.out.mono ?_
  rintro e w5 ⟨rfl, hb⟩
  rw [tell_awkA]
  have HB5 := Lib.hid (below_then HB.out hb)
  have HE5 := Lib.hid (HE.out.under hb)
  have HX5 := Lib.hid (HX.out.under hb)
  obtain ⟨a0, a1, a2, a3, a4, a5⟩ := HX5.out.cells
  have hl6 : w5.heap.size + 1 = (w5.alloc (.cells #[.string ⟨#[65]⟩, .bool false, .int .i64 1, .string ⟨#[]⟩, .slice none 0 0, .int .i64 0, .int .i64 0, .slice (some ⟨w.heap.size + 1 + 1, 0, none⟩) 2 2] 34)).heap.size := by simp
  have hB6 := (Below.refl w5.heap.size w5).alloc (Nat.le_refl _) (.cells #[.string ⟨#[65]⟩, .bool false, .int .i64 1, .string ⟨#[]⟩, .slice none 0 0, .int .i64 0, .int .i64 0, .slice (some ⟨w.heap.size + 1 + 1, 0, none⟩) 2 2] 34)
  have HL6 := Lib.hid (one_line (W := w5.alloc (.cells #[.string ⟨#[65]⟩, .bool false, .int .i64 1, .string ⟨#[]⟩, .slice none 0 0, .int .i64 0, .int .i64 0, .slice (some ⟨w.heap.size + 1 + 1, 0, none⟩) 2 2] 34)) (g := w5.heap.size) (y := ⟨⟨#[65]⟩, false, ⟨1, ⟨#[]⟩, .slice none 0 0, 0, 0, .slice (some ⟨w.heap.size + 1 + 1, 0, none⟩) 2 2⟩⟩) (r := awkB) (heap_alloc_new _ _) ⟨rfl, by simp [awkB], by simp [awkB], rfl, HE5.out.under hB6⟩)
  have HB6 := Lib.hid (below_then HB5.out hB6)
  have HE6 := Lib.hid (HE5.out.under hB6)
  have HX6 := Lib.hid (HX5.out.under hB6)
  have HTELL2 := Lib.hid (tell_any HL6.out (HT.out.below HB6.out) (fun h => by rw [List.all_cons, awkB_right] at h; cases h))
  clear hb hB6 hl6
  go_wp2_with fail
  refine HTELL2.out.mono ?_
  rintro e w6 ⟨rfl, hb⟩
  rw [tell_awkB]
  have HB7 := Lib.hid (below_then HB6.out hb)
  have HR7 := Lib.hid (right_any (HE6.out.under hb))
  rw [awkE_right] at HR7
  have HX7 := Lib.hid (HX6.out.under hb)
  clear hb a0 a1 a2 a3 a4 a5
  obtain ⟨a0, a1, a2, a3, a4, a5⟩ := HX7.out.cells
  go_wp2_with fail
  refine HR7.out.mono ?_
  rintro e w7 ⟨rfl, hb⟩
  have HB8 := Lib.hid (below_then HB7.out hb)
  have HR8 := Lib.hid (right_any (empty_tree w7))
  rw [empty_right] at HR8
  clear hb a0 a1 a2 a3 a4 a5
  go_wp2_with fail
  refine HR8.out.mono ?_
  rintro e w8 ⟨rfl, hb⟩
  have HB9 := Lib.hid (below_then HB8.out hb)
  clear hb
  go_wp2_with fail
  refine (HN.out _).mono ?_
  rintro e w9 ⟨rfl, hb⟩
  have HB10 := Lib.hid (below_then HB9.out hb)
  clear hb
  go_wp2_with fail
  go_ret
  exact ⟨rfl, HB10.out⟩

end Go.Proofs.YtfoohffeccgkeaaDoor
