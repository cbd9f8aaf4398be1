/- The program's teller: an expression's own fields. -/
import Derived.Test.YtfoohffeccgkeaaDoorTOf
namespace Go.Proofs.YtfoohffeccgkeaaDoor
open Go.RowKit
set_option linter.unusedVariables false
set_option linter.unusedSimpArgs false

/-- A row of ints that was just made. -/
theorem ints_new (w : World) (xs : List Int) (hl : xs.length ≤ 1000) : RowAny (w.alloc (.cells (icells xs).toArray 3)) (.slice (some ⟨w.heap.size, 0, none⟩) xs.length xs.length) xs.length (icells xs) := by
  refine .inr ⟨w.heap.size, 0, xs.length, rfl, Nat.le_refl _, by unfold maxLen; omega, by simp, fun j u hj => ?_⟩
  simp only [World.cell?, heap_alloc_new, Nat.zero_add]
  simpa using hj

set_option maxRecDepth 100000 in
theorem isOf_any {X : XV} {xs : List Int} {v : Value} (w : World) (hv : RowAny w v xs.length (icells xs)) (h1 : X.ns.oneCell' = true) (h2 : X.ks.oneCell' = true) :
    Calls Tryd.prog 53 #[X.val, v] w (GivesBool (inB xs X.kind) w) := by
  obtain ⟨k, tx, ns, lo, hi, ks⟩ := X
  have hb := (Below.refl w.heap.size w).alloc (Nat.le_refl _) (.cells #[.int .i64 k, .string tx, ns, .int .i64 lo, .int .i64 hi, ks] 29)
  have HV := Lib.hid (contains_of k _ (hv.below hb))
  have HB := Lib.hid hb
  clear hv hb
  show Calls Tryd.prog 53 #[.agg #[.int .i64 k, .string tx, ns, .int .i64 lo, .int .i64 hi, ks], v] w (GivesBool (inB xs k) w)
  go_enter Tryd.func53, Tryd.ntmps53
  go_wp2_with fail
  refine HV.out.mono ?_
  rintro e w' ⟨rfl, rfl⟩
  go_wp2_with fail
  go_ret
  exact ⟨rfl, HB.out⟩

end Go.Proofs.YtfoohffeccgkeaaDoor
