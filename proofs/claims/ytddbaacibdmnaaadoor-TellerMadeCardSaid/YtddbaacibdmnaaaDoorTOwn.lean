/- Expressions that a law itself builds: of what lies in blocks of a kind (TreeAt) to what lies anywhere (ETree); a chain that grows outwards. -/
import Derived.Test.YtddbaacibdmnaaaDoorTLen
import Derived.Test.YtddbaacibdmnaaaDoorTAwake
namespace Go.Proofs.YtddbaacibdmnaaaDoor
open Go.RowKit
set_option linter.unusedVariables false
set_option linter.unusedSimpArgs false

theorem RowIn.any {W : World} {P : Nat → Prop} {v : Value} {n : Nat} {xs : List Value} (h : RowIn W P v n xs) : RowAny W v n xs := by
  rcases h with ⟨rfl, rfl⟩ | ⟨g, cap, rfl, h1, h2, _, h3, h4⟩
  · exact .inl ⟨rfl, _, _, rfl⟩
  · exact .inr ⟨g, 0, cap, rfl, h1, h2, h3, fun j u hj => by rw [Nat.zero_add]; exact h4 j u hj⟩

/-- Every text in an expression is of bytes, and not endless. -/
inductive TreeOk : Tree → Prop
  | mk {k lo hi : Int} {x ns : List Int} {kids : List Tree} : (∀ c ∈ x, 0 ≤ c ∧ c ≤ 255) → x.length ≤ 9223372036854775807 → (∀ u ∈ kids, TreeOk u) → TreeOk (.mk k x ns lo hi kids)

theorem TreeAt.tree {W : World} {P : Nat → Prop} {X : XV} {t : Tree} (h : TreeAt W P X t) (ho : TreeOk t) : ETree W X t := by
  induction h with
  | mk vs h1 h2 h3 _ ih =>
    cases ho with
    | mk o1 o2 o3 => exact .mk vs o1 o2 h1.any h2.any h3 (fun i y t hy ht => ih i y t hy ht (o3 t (List.mem_of_getElem? ht)))

/-- A row in one block just made. -/
theorem RowIn.of_block {W : World} {P : Nat → Prop} {g n : Nat} {cs : Array Value} {t : TypeId} (h : W.heap[g]? = some (.cells cs t (0, 0))) (hn : n ≤ 1000000) (hP : P g) : RowIn W P (.slice (some ⟨g, 0, none⟩) n n) n cs.toList := by
  refine .inr ⟨g, n, rfl, Nat.le_refl _, by unfold maxLen; omega, hP, (Array.getElem?_eq_some_iff.1 h).1, fun j u hj => ?_⟩
  simp only [World.cell?, h, Nat.zero_add]
  simpa using hj
theorem row_none (W : World) (P : Nat → Prop) : RowIn W P (.slice none 0 0) 0 [] := .inl ⟨rfl, rfl⟩

/-- An expression without others in it. -/
theorem leaf_at (W : World) (P : Nat → Prop) (k : Int) (x : List Int) : TreeAt W P ⟨k, strOf x, .slice none 0 0, 0, 0, .slice none 0 0⟩ (.mk k x [] 0 0 []) :=
  TreeAt.mk (nums := []) (kids := []) [] (row_none W P) (row_none W P) rfl (fun i y t h => by simp at h)
theorem leaf_ok (k : Int) {x : List Int} (hx : ∀ c ∈ x, 0 ≤ c ∧ c ≤ 255) (hl : x.length ≤ 1000) : TreeOk (.mk k x [] 0 0 []) := .mk hx (by omega) (fun u h => by simp at h)
/-- One other in it, or two, the list of them in a block just made. -/
theorem wrap1_at {W : World} {P : Nat → Prop} {g : Nat} {k lo hi : Int} {X : XV} {t : Tree} (h : W.heap[g]? = some (.cells #[.int .i64 X.kind, .string X.text, X.ns, .int .i64 X.lo, .int .i64 X.hi, X.ks] 32 (0, 0))) (hP : P g) (ht : TreeAt W P X t) :
    TreeAt W P ⟨k, strOf [], .slice none 0 0, lo, hi, .slice (some ⟨g, 0, none⟩) 1 1⟩ (.mk k [] [] lo hi [t]) := by
  refine TreeAt.mk (nums := []) [X] (row_none W P) (RowIn.of_block h (by omega) hP) rfl (fun i y t' hy ht' => ?_)
  match i, hy, ht' with
  | 0, hy, ht' => cases hy; cases ht'; exact ht
  | i + 1, hy, ht' => simp at hy
theorem wrap2_at {W : World} {P : Nat → Prop} {g : Nat} {k lo hi : Int} {X Y : XV} {t u : Tree} (h : W.heap[g]? = some (.cells #[.int .i64 X.kind, .string X.text, X.ns, .int .i64 X.lo, .int .i64 X.hi, X.ks, .int .i64 Y.kind, .string Y.text, Y.ns, .int .i64 Y.lo, .int .i64 Y.hi, Y.ks] 32 (0, 0))) (hP : P g) (ht : TreeAt W P X t) (hu : TreeAt W P Y u) :
    TreeAt W P ⟨k, strOf [], .slice none 0 0, lo, hi, .slice (some ⟨g, 0, none⟩) 2 2⟩ (.mk k [] [] lo hi [t, u]) := by
  refine TreeAt.mk (nums := []) [X, Y] (row_none W P) (RowIn.of_block h (by omega) hP) rfl (fun i y t' hy ht' => ?_)
  match i, hy, ht' with
  | 0, hy, ht' => cases hy; cases ht'; exact ht
  | 1, hy, ht' => cases hy; cases ht'; exact hu
  | i + 2, hy, ht' => simp at hy
theorem wrap1_ok {k lo hi : Int} {t : Tree} (h : TreeOk t) : TreeOk (.mk k [] [] lo hi [t]) := .mk (by simp) (by simp) (fun u hu => by simp at hu; subst hu; exact h)
theorem wrap2_ok {k lo hi : Int} {t u : Tree} (h : TreeOk t) (hu : TreeOk u) : TreeOk (.mk k [] [] lo hi [t, u]) := .mk (by simp) (by simp) (fun v hv => by simp at hv; rcases hv with rfl | rfl; exact h; exact hu)
theorem wrap1_tw {k lo hi : Int} (t : Tree) : (Tree.mk k [] [] lo hi [t]).tw = 1 + t.tw := by simp [Tree.tw]
theorem wrap2_tw {k lo hi : Int} (t u : Tree) : (Tree.mk k [] [] lo hi [t, u]).tw = 1 + (t.tw + u.tw) := by simp [Tree.tw]

end Go.Proofs.YtddbaacibdmnaaaDoor
