/- TellerRepeats is true for every four numbers, without any condition: of what stands so often, and of numbers, the text is what the document says. -/
import Derived.Test.YtblaeoajcigidaaDoorTFrame
import Derived.Test.YtblaeoajcigidaaDoorTSame
namespace Go.Proofs.YtblaeoajcigidaaDoor.tellerRepeats
open Go.ChangeShapes Go.WideShapes Go.ChangeAt Go.RowKit Go.Proofs.YtblaeoajcigidaaDoor
open Go.ChangeMaps (open_string shut_string)
set_option linter.unusedVariables false
set_option linter.unusedSimpArgs false

theorem short_one {r : Rule} (h : r.name.length + 20 * r.expr.tw ≤ 999999999990) : ShortL [r] := by
  intro i hi
  match i, hi with
  | 0, _ => simp
  | i + 1, hi =>
    have e : [r].take (i + 1) = [r] := by simp
    rw [e] at hi ⊢
    have hr : rlB r = true := by simpa using hi
    unfold rlB at hr
    rw [Bool.and_eq_true] at hr
    have := text_len 50 r.expr hr.2
    show (lineT r ++ []).length ≤ _
    rw [List.append_nil]
    unfold lineT
    simp only [List.length_append]
    have h4 : (if r.more = true then ([32, 61, 47, 32] : List Int) else [32, 61, 32]).length ≤ 4 := by split <;> simp
    have e10 : ([10] : List Int).length = 1 := rfl
    omega

/-- The law's sameness of one rule. -/
theorem line_same {V : World} {X : XV} {t : Tree} (h : ETree V X t) (ht : t.tw ≤ 10000000) (hT : Tabs V) :
    Calls Tryd.prog 10 #[.slice (some ⟨V.heap.size, 0, none⟩) 1 1] (V.alloc (.cells #[.string ⟨#[97]⟩, .bool false, .int .i64 X.kind, .string X.text, X.ns, .int .i64 X.lo, .int .i64 X.hi, X.ks] 34)) (GivesBool true V) := by
  have hA := (Below.refl V.heap.size V).alloc (Nat.le_refl _) (.cells #[.string ⟨#[97]⟩, .bool false, .int .i64 X.kind, .string X.text, X.ns, .int .i64 X.lo, .int .i64 X.hi, X.ks] 34)
  have hL := one_line (W := V.alloc (.cells #[.string ⟨#[97]⟩, .bool false, .int .i64 X.kind, .string X.text, X.ns, .int .i64 X.lo, .int .i64 X.hi, X.ks] 34)) (g := V.heap.size) (y := ⟨⟨#[97]⟩, false, X⟩) (r := ⟨[97], false, t⟩) (heap_last _ _ _ rfl) ⟨rfl, by simp, by simp, rfl, h.under hA⟩
  exact (same_any hL (hT.below hA) (short_one (by show 1 + 20 * t.tw ≤ _; omega))).mono fun e w' hw => ⟨hw.1, below_then hA hw.2⟩

theorem two_tree {W : World} {B : Nat} {k a b : Int} (h : W.heap[B]? = some (.cells #[.int .i64 a, .int .i64 b] 3 (0, 0))) : ETree W ⟨k, ⟨#[]⟩, .slice (some ⟨B, 0, none⟩) 2 2, 0, 0, .slice none 0 0⟩ (.mk k [] [a, b] 0 0 []) :=
  ETree.mk (x := []) (nums := [a, b]) (kids := []) [] (by simp) (by simp) (ints_at (xs := [a, b]) (by simp) h) (RowAny.nil _ _ _ _) rfl (fun i y t h => by simp at h)
theorem one_tree {W : World} {B : Nat} {lo hi : Int} {X : XV} {t : Tree} (h : W.heap[B]? = some (.cells #[.int .i64 X.kind, .string X.text, X.ns, .int .i64 X.lo, .int .i64 X.hi, X.ks] 32 (0, 0))) (ht : ETree W X t) : ETree W ⟨3, ⟨#[]⟩, .slice none 0 0, lo, hi, .slice (some ⟨B, 0, none⟩) 1 1⟩ (.mk 3 [] [] lo hi [t]) := by
  refine ETree.mk (x := []) (nums := []) [X] (by simp) (by simp) (RowAny.nil _ _ _ _) (RowAny.of_block h (by omega)) rfl (fun i y t' hy ht' => ?_)
  match i, hy, ht' with
  | 0, hy, ht' => cases hy; cases ht'; exact ht
  | i + 1, hy, ht' => simp at hy
theorem a_tree (W : World) : ETree W ⟨4, ⟨#[97]⟩, .slice none 0 0, 0, 0, .slice none 0 0⟩ (.mk 4 [97] [] 0 0 []) := ETree.mk (x := [97]) (nums := []) (kids := []) [] (by simp) (by simp) (RowAny.nil _ _ _ _) (RowAny.nil _ _ _ _) rfl (fun i y t h => by simp at h)

set_option maxRecDepth 100000 in
theorem rep_laid (w : World) (lo hi a b : Int) (W : World) (hW : W = ((((((w.alloc (.cells #[.int .i64 a, .int .i64 b] 3)).alloc (.cells #[.int .i64 6, .string ⟨#[]⟩, .slice (some ⟨w.heap.size, 0, none⟩) 2 2, .int .i64 0, .int .i64 0, .slice none 0 0] 32)).alloc (.cells #[.int .i64 a, .int .i64 b] 3)).alloc (.cells #[.int .i64 7, .string ⟨#[]⟩, .slice (some ⟨w.heap.size + 1 + 1, 0, none⟩) 2 2, .int .i64 0, .int .i64 0, .slice none 0 0] 32)).alloc (.cells #[.int .i64 4, .string ⟨#[97]⟩, .slice none 0 0, .int .i64 0, .int .i64 0, .slice none 0 0] 32)).alloc (.cells #[.int .i64 3, .string ⟨#[]⟩, .slice none 0 0, .int .i64 lo, .int .i64 hi, .slice (some ⟨w.heap.size + 1 + 1 + 1 + 1, 0, none⟩) 1 1] 32))) :
    (ETree W ⟨6, ⟨#[]⟩, .slice (some ⟨w.heap.size, 0, none⟩) 2 2, 0, 0, .slice none 0 0⟩ (.mk 6 [] [a, b] 0 0 []) ∧ ETree W ⟨7, ⟨#[]⟩, .slice (some ⟨w.heap.size + 1 + 1, 0, none⟩) 2 2, 0, 0, .slice none 0 0⟩ (.mk 7 [] [a, b] 0 0 []) ∧ ETree W ⟨3, ⟨#[]⟩, .slice none 0 0, lo, hi, .slice (some ⟨w.heap.size + 1 + 1 + 1 + 1, 0, none⟩) 1 1⟩ (.mk 3 [] [] lo hi [.mk 4 [97] [] 0 0 []])) ∧
    (X6 W (w.heap.size + 1) 6 0 0 ⟨#[]⟩ (.slice (some ⟨w.heap.size, 0, none⟩) 2 2) (.slice none 0 0) ∧
     X6 W (w.heap.size + 1 + 1 + 1) 7 0 0 ⟨#[]⟩ (.slice (some ⟨w.heap.size + 1 + 1, 0, none⟩) 2 2) (.slice none 0 0) ∧
     X6 W (w.heap.size + 1 + 1 + 1 + 1 + 1) 3 lo hi ⟨#[]⟩ (.slice none 0 0) (.slice (some ⟨w.heap.size + 1 + 1 + 1 + 1, 0, none⟩) 1 1)) ∧ Below w.heap.size w W := by
  have b0 : W.heap[w.heap.size]? = some (.cells #[.int .i64 a, .int .i64 b] 3 (0, 0)) := by
    rw [hW]; exact heap_old _ _ (heap_old _ _ (heap_old _ _ (heap_old _ _ (heap_old _ _ (heap_last _ _ _ rfl)))))
  have b1 : W.heap[w.heap.size + 1]? = some (.cells #[.int .i64 6, .string ⟨#[]⟩, .slice (some ⟨w.heap.size, 0, none⟩) 2 2, .int .i64 0, .int .i64 0, .slice none 0 0] 32 (0, 0)) := by
    rw [hW]; exact heap_old _ _ (heap_old _ _ (heap_old _ _ (heap_old _ _ (heap_last _ _ _ (by simp)))))
  have b2 : W.heap[w.heap.size + 1 + 1]? = some (.cells #[.int .i64 a, .int .i64 b] 3 (0, 0)) := by
    rw [hW]; exact heap_old _ _ (heap_old _ _ (heap_old _ _ (heap_last _ _ _ (by simp))))
  have b3 : W.heap[w.heap.size + 1 + 1 + 1]? = some (.cells #[.int .i64 7, .string ⟨#[]⟩, .slice (some ⟨w.heap.size + 1 + 1, 0, none⟩) 2 2, .int .i64 0, .int .i64 0, .slice none 0 0] 32 (0, 0)) := by
    rw [hW]; exact heap_old _ _ (heap_old _ _ (heap_last _ _ _ (by simp)))
  have b4 : W.heap[w.heap.size + 1 + 1 + 1 + 1]? = some (.cells #[.int .i64 4, .string ⟨#[97]⟩, .slice none 0 0, .int .i64 0, .int .i64 0, .slice none 0 0] 32 (0, 0)) := by
    rw [hW]; exact heap_old _ _ (heap_last _ _ _ (by simp))
  have b5 : W.heap[w.heap.size + 1 + 1 + 1 + 1 + 1]? = some (.cells #[.int .i64 3, .string ⟨#[]⟩, .slice none 0 0, .int .i64 lo, .int .i64 hi, .slice (some ⟨w.heap.size + 1 + 1 + 1 + 1, 0, none⟩) 1 1] 32 (0, 0)) := by
    rw [hW]; exact heap_last _ _ _ (by simp)
  refine ⟨⟨two_tree b0, two_tree b2, one_tree (X := ⟨4, ⟨#[97]⟩, .slice none 0 0, 0, 0, .slice none 0 0⟩) b4 (a_tree W)⟩, ⟨b1, b3, b5⟩, ?_⟩
  rw [hW]
  exact ((((((Below.refl w.heap.size w).alloc (Nat.le_refl _) _).alloc (by simp) _).alloc (by simp; omega) _).alloc (by simp; omega) _).alloc (by simp; omega) _).alloc (by simp; omega) _


set_option maxRecDepth 100000 in
set_option maxHeartbeats 8000000 in
theorem walk (x0 : Int) (x1 : Int) (x2 : Int) (x3 : Int) (w : World) (hT : Tabs w) (h0 : -9223372036854775808 ≤ x0 ∧ x0 ≤ 9223372036854775807) (h1 : -9223372036854775808 ≤ x1 ∧ x1 ≤ 9223372036854775807) (h2 : -9223372036854775808 ≤ x2 ∧ x2 ≤ 9223372036854775807) (h3 : -9223372036854775808 ≤ x3 ∧ x3 ≤ 9223372036854775807) :
    Calls Tryd.prog 7 #[.int .i64 x0, .int .i64 x1, .int .i64 x2, .int .i64 x3] w (GivesBool true w) := by
  obtain ⟨⟨hE1, hE2, hE3⟩, ⟨hX1, hX2, hX3⟩, hb⟩ := rep_laid w x0 x1 x2 x3 _ rfl
  have HT := Lib.hid hT
  have HA := Lib.hid (awake_any (hT.below hb))
  have HB := Lib.hid hb
  have HE1 := Lib.hid hE1
  have HE2 := Lib.hid hE2
  have HE3 := Lib.hid hE3
  have HX1 := Lib.hid hX1
  have HX2 := Lib.hid hX2
  have HX3 := Lib.hid hX3
  clear hT hE1 hE2 hE3 hX1 hX2 hX3 hb h0 h1 h2 h3
  go_enter Tryd.func7, Tryd.ntmps7
  go_wp2_with fail
  refine HA.out.mono ?_
  rintro e w1 ⟨rfl, hb⟩
  have HB1 := Lib.hid (below_then HB.out hb)
  have HE1_1 := Lib.hid (HE1.out.under hb)
  have HX1_1 := Lib.hid (HX1.out.under hb)
  have HE2_1 := Lib.hid (HE2.out.under hb)
  have HX2_1 := Lib.hid (HX2.out.under hb)
  have HE3_1 := Lib.hid (HE3.out.under hb)
  have HX3_1 := Lib.hid (HX3.out.under hb)
  clear hb
  obtain ⟨a0, a1, a2, a3, a4, a5⟩ := HX1_1.out.cells
  have HS1 := Lib.hid (line_same HE1_1.out (by simp [Tree.tw]) (HT.out.below HB1.out))
  go_wp2_with fail
  refine HS1.out.mono ?_
  rintro e w2 ⟨rfl, hb⟩
  have HB2 := Lib.hid (below_then HB1.out hb)
  have HE1_2 := Lib.hid (HE1_1.out.under hb)
  have HX1_2 := Lib.hid (HX1_1.out.under hb)
  have HE2_2 := Lib.hid (HE2_1.out.under hb)
  have HX2_2 := Lib.hid (HX2_1.out.under hb)
  have HE3_2 := Lib.hid (HE3_1.out.under hb)
  have HX3_2 := Lib.hid (HX3_1.out.under hb)
  clear hb a0 a1 a2 a3 a4 a5
  obtain ⟨a0, a1, a2, a3, a4, a5⟩ := HX2_2.out.cells
  have HS2 := Lib.hid (line_same HE2_2.out (by simp [Tree.tw]) (HT.out.below HB2.out))
  go_wp2_with fail
  refine HS2.out.mono ?_
  rintro e w3 ⟨rfl, hb⟩
  have HB3 := Lib.hid (below_then HB2.out hb)
  have HE1_3 := Lib.hid (HE1_2.out.under hb)
  have HX1_3 := Lib.hid (HX1_2.out.under hb)
  have HE2_3 := Lib.hid (HE2_2.out.under hb)
  have HX2_3 := Lib.hid (HX2_2.out.under hb)
  have HE3_3 := Lib.hid (HE3_2.out.under hb)
  have HX3_3 := Lib.hid (HX3_2.out.under hb)
  clear hb a0 a1 a2 a3 a4 a5
  obtain ⟨a0, a1, a2, a3, a4, a5⟩ := HX3_3.out.cells
  have HS3 := Lib.hid (line_same HE3_3.out (by simp [Tree.tw]) (HT.out.below HB3.out))
  go_wp2_with fail
  refine HS3.out.mono ?_
  rintro e w4 ⟨rfl, hb⟩
  have HB4 := Lib.hid (below_then HB3.out hb)
  have HE1_4 := Lib.hid (HE1_3.out.under hb)
  have HX1_4 := Lib.hid (HX1_3.out.under hb)
  have HE2_4 := Lib.hid (HE2_3.out.under hb)
  have HX2_4 := Lib.hid (HX2_3.out.under hb)
  have HE3_4 := Lib.hid (HE3_3.out.under hb)
  have HX3_4 := Lib.hid (HX3_3.out.under hb)
  clear hb a0 a1 a2 a3 a4 a5
  obtain ⟨a0, a1, a2, a3, a4, a5⟩ := HX3_4.out.cells
  have hA := (Below.refl w4.heap.size w4).alloc (Nat.le_refl _) (.cells #[.int .i64 3, .string ⟨#[]⟩, .slice none 0 0, .int .i64 x0, .int .i64 x1, .slice (some ⟨w.heap.size + 1 + 1 + 1 + 1, 0, none⟩) 1 1] 32)
  have HB5 := Lib.hid (below_then HB4.out hA)
  have hK := one_tree (W := w4.alloc (.cells #[.int .i64 3, .string ⟨#[]⟩, .slice none 0 0, .int .i64 x0, .int .i64 x1, .slice (some ⟨w.heap.size + 1 + 1 + 1 + 1, 0, none⟩) 1 1] 32)) (B := w4.heap.size) (lo := x1) (hi := x0) (X := ⟨3, ⟨#[]⟩, .slice none 0 0, x0, x1, .slice (some ⟨w.heap.size + 1 + 1 + 1 + 1, 0, none⟩) 1 1⟩) (heap_last _ _ _ rfl) (HE3_4.out.under hA)
  have hS4 := line_same hK (by simp [Tree.tw]) (HT.out.below HB5.out)
  have hl : (w4.alloc (.cells #[.int .i64 3, .string ⟨#[]⟩, .slice none 0 0, .int .i64 x0, .int .i64 x1, .slice (some ⟨w.heap.size + 1 + 1 + 1 + 1, 0, none⟩) 1 1] 32)).heap.size = w4.heap.size + 1 := by simp
  rw [hl] at hS4
  have HS4 := Lib.hid hS4
  clear hA hK hl hS4
  go_wp2_with fail
  refine HS4.out.mono ?_
  rintro e w5 ⟨rfl, hb⟩
  have HB6 := Lib.hid (below_then HB5.out hb)
  clear hb a0 a1 a2 a3 a4 a5
  go_wp2_with fail
  go_ret
  exact ⟨rfl, HB6.out⟩

set_option maxRecDepth 100000 in
set_option maxHeartbeats 1000000 in
theorem lifted (os : Os) (started : os.Started) (H : Type) (enc : TypeId × Value → H) :
    ReturnsInHanded {} Tryd.checked os 7 .any (fun w args => (Rows.tellerRepeatsSpec.pre enc Tryd.prog Tryd.f7 Rows.tellerRepeatsRow.domain false w args ∧ laidMetH Tryd.prog Rows.tellerRepeatsRow.laid w) ∧ sizedMet enc Tryd.prog Tryd.f7 (OpenSpec.ofChange Rows.tellerRepeatsSpec) false w args)
      (Rows.tellerRepeatsSpec.post enc Tryd.prog Tryd.f7 false true false false) := by
  refine returnsInHanded_of_change_and (C := Tryd.checked) (X := fun w _ => laidMetH Tryd.prog Rows.tellerRepeatsRow.laid w) (fun _ _ _ hh h => h.of_heap hh) noKnob started (by kernel_rfl) Tryd.func7
    (ChangeSpec.witness_shaped (enc := enc) (C := Tryd.checked) (os := os) (X := fun w _ => laidMetH Tryd.prog Rows.tellerRepeatsRow.laid w) false (World.laidAll Tryd.prog os Rows.tellerRepeatsRow.laid) #[.int .i64 0, .int .i64 0, .int .i64 0, .int .i64 0] 8 (World.laidAll_os _ _ _)
      (World.shaped_of_ZipB (by kernel_rfl) (by kernel_rfl)) (by kernel_rfl) (by kernel_rfl) (by kernel_rfl)
      (by rw [MakeChecks.laidMetH_plain _ _ _ (by kernel_rfl)]; exact laidMet_laidAll _ (by kernel_rfl) (by kernel_rfl))) ?_
  intro W base args ds gs before hval0 hW hcnd _ hL _
  have hval : ∀ (j : Nat) t v, Tryd.f7.params[j]? = some t → args[j]? = some v → Value.okWide Tryd.prog W .any base t v := hval0
  have hW' := hW
  obtain ⟨p, q, hA0, hV, rfl, hfz, hnd⟩ := hW
  have hA : DataW.TrodAll enc Tryd.prog W 0 (fun _ => true) true Tryd.f7.params.toList args.toList ds p := hA0
  rw [Tryd.params7] at hA hval
  obtain ⟨v0, vs0, d0, ds0, p0, q0, hargs, rfl, rfl, h0, r0⟩ := trodAll_cons hA
  obtain ⟨v1, vs1, d1, ds1, p1, q1, rfl, rfl, rfl, h1, r1⟩ := trodAll_cons r0
  obtain ⟨v2, vs2, d2, ds2, p2, q2, rfl, rfl, rfl, h2, r2⟩ := trodAll_cons r1
  obtain ⟨v3, vs3, d3, ds3, p3, q3, rfl, rfl, rfl, h3, r3⟩ := trodAll_cons r2
  obtain ⟨rfl, rfl, rfl⟩ := trodAll_nil r3
  obtain rfl : args = #[v0, v1, v2, v3] := by cases args; simp_all
  obtain ⟨rfl, rfl⟩ := trodVars_none hV
  clear hA0 hval0 hA
  simp only [List.append_nil] at hW'
  have hlt := hW'.lt
  obtain ⟨x0, rfl, rfl, rfl, w0⟩ := open_int Tryd.underlying3 (hval 0 3 v0 rfl rfl) h0
  have b0 := bounds_i64 w0
  obtain ⟨x1, rfl, rfl, rfl, w1⟩ := open_int Tryd.underlying3 (hval 1 3 v1 rfl rfl) h1
  have b1 := bounds_i64 w1
  obtain ⟨x2, rfl, rfl, rfl, w2⟩ := open_int Tryd.underlying3 (hval 2 3 v2 rfl rfl) h2
  have b2 := bounds_i64 w2
  obtain ⟨x3, rfl, rfl, rfl, w3⟩ := open_int Tryd.underlying3 (hval 3 3 v3 rfl rfl) h3
  have b3 := bounds_i64 w3
  refine (walk x0 x1 x2 x3 W (tabs_of_laid hL (MakeChecks.laidMetH_plain _ _ _ (by kernel_rfl)) (by kernel_rfl) (by kernel_rfl)) b0 b1 b2 b3).mono fun e W' ⟨he, hg⟩ => ?_
  subst he
  exact ⟨_, rfl, post_of_old (pv := []) hW' (fun _ _ _ => trodAll_cons_mk (shut_bool Tryd.underlying4 _) trodAll_mk0) (trodAll_cons_mk (Below.trod laidOutP (by kernel_rfl) (of_decide_eq_true (by kernel_rfl)) h0 hg (fun x hx => by simp at hx)) (trodAll_cons_mk (Below.trod laidOutP (by kernel_rfl) (of_decide_eq_true (by kernel_rfl)) h1 hg (fun x hx => by simp at hx)) (trodAll_cons_mk (Below.trod laidOutP (by kernel_rfl) (of_decide_eq_true (by kernel_rfl)) h2 hg (fun x hx => by simp at hx)) (trodAll_cons_mk (Below.trod laidOutP (by kernel_rfl) (of_decide_eq_true (by kernel_rfl)) h3 hg (fun x hx => by simp at hx)) (trodAll_mk0))))) (fun _ => rfl) (by simp) hg⟩

theorem over : Rows.tellerRepeatsRow.holds Tryd.pinned (OpenSpec.ofChange Rows.tellerRepeatsSpec) :=
  OpenClaim.holds_of_wide 7 Tryd.f7 rfl rfl rfl rfl rfl rfl rfl ⟨rfl, rfl, rfl, rfl, rfl⟩ rfl rfl rfl rfl rfl (by kernel_rfl) Tryd.func7 (by kernel_rfl)
    (of_decide_eq_true (by kernel_rfl)) (by unfold Func.isWrapper; first | (rw [if_pos (by decide +kernel)]; kernel_rfl) | (rw [if_neg (by decide +kernel)]; exact ⟨rfl, rfl⟩))
    (fun os started H enc _ => lifted os started H enc)

/-- No parameter wants a stand-in. -/
theorem plain (f : FuncId) (fn : Func) (hf : Tryd.pinned.checked.prog.funcNamed "reglet/regletlaw04.TellerRepeats" = some f) (hfn : Tryd.pinned.checked.prog.funcs[f]? = some fn) :
    false = Tryd.pinned.checked.prog.looks [] ∧ ∀ (j : Nat) t, fn.params[j]? = some t → Tryd.pinned.checked.prog.wantsStandIn t = false := by
  obtain rfl : f = 7 := Option.some.inj ((show Tryd.prog.funcNamed "reglet/regletlaw04.TellerRepeats" = some 7 by kernel_rfl).symm.trans hf) |>.symm
  obtain rfl : fn = Tryd.f7 := (Option.some.inj (Tryd.func7.symm.trans hfn)).symm
  refine ⟨by kernel_rfl, fun j t ht => ?_⟩
  rw [Tryd.params7] at ht
  have hm : t ∈ [3, 3, 3, 3] := by simpa using Array.mem_of_getElem? ht
  have hall : ([3, 3, 3, 3].all fun u => !Tryd.prog.wantsStandIn u) = true := by kernel_rfl
  exact (show Tryd.prog.wantsStandIn t = false by simpa using List.all_eq_true.1 hall t hm)

/-- The statement. -/
theorem proved : Rows.TellerRepeatsCardSaid :=
  Claim7.holds_tied_plain_at .later [] _ _ _ _ over (fun _ h => by cases h) (by kernel_rfl) (fun _ h => by cases h) tellerRepeats_row_tie rfl ⟨rfl, rfl⟩ (by kernel_rfl) rfl plain (by kernel_rfl)

#print axioms proved
end Go.Proofs.YtblaeoajcigidaaDoor.tellerRepeats
