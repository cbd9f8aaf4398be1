/- What any right program answers: awake returns true. -/
import Derived.Test.YtlaglkbcladfbaaDoorROne
import Derived.Test.YtlaglkbcladfbaaDoorRSameL
namespace Go.Proofs.YtlaglkbcladfbaaDoor
open Go.RowKit
set_option linter.unusedVariables false
set_option linter.unusedSimpArgs false

theorem run_of {P : Int → Bool} {f : Nat → Int} {p q : Nat} (h1 : p ≤ q) (h2 : ∀ i, i < q → p ≤ i → P (f i) = true) (h3 : P (f q) = false) : runEnd P f p = q := IsRun.eq ⟨h1, fun i a b => h2 i b a, h3⟩

theorem skip_stop {f : Nat → Int} {p : Nat} (h0 : 0 ≤ f p) (h1 : f p ≠ 59) (h2 : f p ≠ 10) (h3 : f p ≠ 13) (hb : isBl (f p) = false) : Skip f p p := by
  refine .here hb (fun e he => ?_)
  have hc : comEnd f p = p := by unfold comEnd; rw [if_neg h1]
  unfold lineEnd at he
  rw [hc, if_neg (by omega), if_neg h2, if_neg (fun h => h3 h.1)] at he
  cases he
theorem skip_end {f : Nat → Int} {p : Nat} (h0 : f p = -1) : Skip f p p := by
  refine .here (by rw [h0]; decide) (fun e he => ?_)
  have hc : comEnd f p = p := by unfold comEnd; rw [if_neg (by omega)]
  unfold lineEnd at he
  rw [hc, if_pos (by omega)] at he
  have := Option.some.inj he
  subst this
  rw [h0]; decide

def textA : ByteArray := ⟨#[97, 32, 61, 32, 49, 42, 50, 98, 32, 47, 32, 34, 67, 34]⟩
def textB : ByteArray := ⟨#[97, 32, 61, 32]⟩
def ruleA : Rule := ⟨[97], false, .mk 1 [] [] 0 0 [.mk 3 [] [] 1 2 [.mk 4 [98] [] 0 0 []], .mk 5 [99] [] 0 0 []]⟩

theorem answerA : Answer textA (.ok [ruleA] 14) := by
  have hf : ∀ i, rd textA i = ([97, 32, 61, 32, 49, 42, 50, 98, 32, 47, 32, 34, 67, 34] : List Int).getD i (-1) := by
    intro i
    by_cases h : i < 14
    · have : ∀ j : Fin 14, rd textA j.val = ([97, 32, 61, 32, 49, 42, 50, 98, 32, 47, 32, 34, 67, 34] : List Int).getD j.val (-1) := by decide
      exact this ⟨i, h⟩
    · rw [rd_out (by show ¬ i < 14; exact h), List.getD_eq_getElem?_getD, List.getElem?_eq_none (by simp; omega)]
      rfl
  obtain ⟨f, hF⟩ : ∃ f, f = rd textA := ⟨_, rfl⟩
  rw [← hF] at hf
  have g : f = fun i => ([97, 32, 61, 32, 49, 42, 50, 98, 32, 47, 32, 34, 67, 34] : List Int).getD i (-1) := funext hf
  unfold Answer
  rw [if_neg (by show ¬ 50000 < 14; omega), ← hF]
  have sk1 : skipEnd f 1 = 2 := Skip.eq (.blank (by rw [g]; decide) (skip_stop (by rw [g]; decide) (by rw [g]; decide) (by rw [g]; decide) (by rw [g]; decide) (by rw [g]; decide)))
  have sk3 : skipEnd f 3 = 4 := Skip.eq (.blank (by rw [g]; decide) (skip_stop (by rw [g]; decide) (by rw [g]; decide) (by rw [g]; decide) (by rw [g]; decide) (by rw [g]; decide)))
  have sk8 : skipEnd f 8 = 9 := Skip.eq (.blank (by rw [g]; decide) (skip_stop (by rw [g]; decide) (by rw [g]; decide) (by rw [g]; decide) (by rw [g]; decide) (by rw [g]; decide)))
  have sk10 : skipEnd f 10 = 11 := Skip.eq (.blank (by rw [g]; decide) (skip_stop (by rw [g]; decide) (by rw [g]; decide) (by rw [g]; decide) (by rw [g]; decide) (by rw [g]; decide)))
  have sk14 : skipEnd f 14 = 14 := Skip.eq (skip_end (by rw [g]; decide))
  have n0 : nameAt f 0 = .ok [97] 1 := by
    unfold nameAt
    rw [run_of (q := 1) (by omega) (by rw [g]; decide) (by rw [g]; decide), if_neg (by omega), g]
    rfl
  have n7 : nameAt f 7 = .ok [98] 8 := by
    unfold nameAt
    rw [run_of (q := 8) (by omega) (by rw [g]; decide) (by rw [g]; decide), if_neg (by omega), g]
    rfl
  have m4 : numAt 10 200 f 4 = .ok 1 5 := by
    unfold numAt
    rw [run_of (q := 5) (by omega) (by rw [g]; decide) (by rw [g]; decide), if_neg (by omega), g]
    rfl
  have m6 : numAt 10 200 f 6 = .ok 2 7 := by
    unfold numAt
    rw [run_of (q := 7) (by omega) (by rw [g]; decide) (by rw [g]; decide), if_neg (by omega), g]
    rfl
  have c4 : countAt f 4 = .ok (1, 2, true) 7 := by
    have := count_star (f := f) (p := 4) (q := 5) (lo := 1) (hi := 2) (q' := 7) (by rw [if_pos (by rw [g]; decide)]; exact m4) (by rw [g]; decide) (by rw [if_pos (by rw [g]; decide)]; exact m6)
    exact this
  have c11 : countAt f 11 = .ok (0, 0, false) 11 := by
    have := count_no (f := f) (p := 11) (q := 11) (lo := -1) (by rw [if_neg (by rw [g]; decide)]) (by rw [g]; decide)
    exact this
  have q11 : quoteAt f 11 = .ok [67] 14 := by
    unfold quoteAt
    rw [run_of (q := 13) (by omega) (by rw [g]; decide) (by rw [g]; decide), if_pos (by rw [g]; decide), if_pos (by rw [g]; decide), g]
    rfl
  have e7 : Ans f .elem 0 7 (.ok (refT [98]) 8) := .nameOk (by rw [g]; decide) n7
  have r4 : Ans f .rep 0 4 (.ok (repT 1 2 (refT [98])) 8) := .repOk c4 e7 (by omega)
  have k4 : Ans f .conc 0 4 (.ok (repT 1 2 (refT [98])) 9) := by
    refine .concOk r4 ?_
    have := Ans.cmoreEnd (f := f) (d := 0) (p := 8) (l := [repT 1 2 (refT [98])]) (by rw [sk8, g]; decide)
    rw [sk8] at this
    exact this
  have e11 : Ans f .elem 0 11 (.ok (foldT [67]) 14) := .quoteOk (by rw [g]; decide) q11
  have k11 : Ans f .conc 0 11 (.ok (foldT [67]) 14) := by
    refine .concOk (.repBare c11 e11) ?_
    have := Ans.cmoreEnd (f := f) (d := 0) (p := 14) (l := [foldT [67]]) (by rw [sk14]; omega)
    rw [sk14] at this
    exact this
  have a4 : Ans f .alts 0 4 (.ok ruleA.expr 14) := by
    refine .altsOk k4 (.moreOk (by rw [g]; decide) (by rw [sk10]; exact k11) ?_)
    exact .moreEnd (by rw [g]; decide)
  refine .rule (x := ruleA) (by rw [g]; decide) ?_ (by simp) (.done (by rw [g]; decide))
  have heq : eqAt f 1 = 3 := by unfold eqAt; rw [sk1, if_neg (by rw [g]; decide)]
  have hle : lineEnd f 14 = some 14 := by
    have hc : comEnd f 14 = 14 := by unfold comEnd; rw [if_neg (by rw [g]; decide)]
    unfold lineEnd
    rw [hc, if_pos (by rw [g]; decide)]
  have := RuleAt.ok (f := f) (p := 0) n0 (by rw [sk1, g]; decide) (by rw [heq, sk3]; exact a4) hle
  rw [sk1] at this
  rw [show decide (f (2 + 1) = 47) = false by rw [g]; decide] at this
  exact this

theorem answerB : Answer textB (.err 20) := by
  have hf : ∀ i, rd textB i = ([97, 32, 61, 32] : List Int).getD i (-1) := by
    intro i
    by_cases h : i < 4
    · have : ∀ j : Fin 4, rd textB j.val = ([97, 32, 61, 32] : List Int).getD j.val (-1) := by decide
      exact this ⟨i, h⟩
    · rw [rd_out (by show ¬ i < 4; exact h), List.getD_eq_getElem?_getD, List.getElem?_eq_none (by simp; omega)]
      rfl
  obtain ⟨f, hF⟩ : ∃ f, f = rd textB := ⟨_, rfl⟩
  rw [← hF] at hf
  have g : f = fun i => ([97, 32, 61, 32] : List Int).getD i (-1) := funext hf
  unfold Answer
  rw [if_neg (by show ¬ 50000 < 4; omega), ← hF]
  have sk1 : skipEnd f 1 = 2 := Skip.eq (.blank (by rw [g]; decide) (skip_stop (by rw [g]; decide) (by rw [g]; decide) (by rw [g]; decide) (by rw [g]; decide) (by rw [g]; decide)))
  have sk3 : skipEnd f 3 = 4 := Skip.eq (.blank (by rw [g]; decide) (skip_end (by rw [g]; decide)))
  have n0 : nameAt f 0 = .ok [97] 1 := by
    unfold nameAt
    rw [run_of (q := 1) (by omega) (by rw [g]; decide) (by rw [g]; decide), if_neg (by omega), g]
    rfl
  have c4 : countAt f 4 = .ok (0, 0, false) 4 := by
    have := count_no (f := f) (p := 4) (q := 4) (lo := -1) (by rw [if_neg (by rw [g]; decide)]) (by rw [g]; decide)
    exact this
  have e4 : Ans f .elem 0 4 (.err 20) := .no (by rw [g]; decide) (by rw [g]; decide) (by rw [g]; decide) (by rw [g]; decide) (by rw [g]; decide)
  have a4 : Ans f .alts 0 4 (.err 20) := .altsErr (.concErr (.repErr c4 e4))
  have heq : eqAt f 1 = 3 := by unfold eqAt; rw [sk1, if_neg (by rw [g]; decide)]
  exact .err (by rw [g]; decide) (.err n0 (by rw [sk1, g]; decide) (by rw [heq, sk3]; exact a4))

theorem RowIn.of_block {W : World} {P : Nat → Prop} {g n : Nat} {cs : Array Value} {t : TypeId} (h : W.heap[g]? = some (.cells cs t (0, 0))) (hP : P g) (hn : n ≤ 1000000) : RowIn W P (.slice (some ⟨g, 0, none⟩) n n) n cs.toList := by
  refine .inr ⟨g, n, rfl, Nat.le_refl _, by unfold maxLen; omega, hP, (Array.getElem?_eq_some_iff.1 h).1, fun j u hj => ?_⟩
  simp only [World.cell?, h]
  simpa using hj

theorem four_new (w : World) (o0 o1 o2 o3 : Obj) :
    ((((w.alloc o0).alloc o1).alloc o2).alloc o3).heap[w.heap.size]? = some o0 ∧ ((((w.alloc o0).alloc o1).alloc o2).alloc o3).heap[w.heap.size + 2]? = some o2 ∧ ((((w.alloc o0).alloc o1).alloc o2).alloc o3).heap[w.heap.size + 3]? = some o3 := by
  have e : ((((w.alloc o0).alloc o1).alloc o2).alloc o3).heap = (((w.heap.push o0).push o1).push o2).push o3 := rfl
  rw [e]
  refine ⟨?_, ?_, ?_⟩
  · rw [Array.getElem?_push, if_neg (by simp; omega), Array.getElem?_push, if_neg (by simp; omega), Array.getElem?_push, if_neg (by simp), Array.getElem?_push, if_pos rfl]
  · rw [Array.getElem?_push, if_neg (by simp), Array.getElem?_push, if_pos (by simp)]
  · rw [Array.getElem?_push, if_pos (by simp)]

/-- The rules that awake itself lays down. -/
theorem want_reads {W : World} {N : Nat}
    (b0 : W.heap[N]? = some (.cells #[.int .i64 4, .string ⟨#[98]⟩, .slice none 0 0, .int .i64 0, .int .i64 0, .slice none 0 0] 43 (0, 0)))
    (b2 : W.heap[N + 2]? = some (.cells #[.int .i64 3, .string ⟨#[]⟩, .slice none 0 0, .int .i64 1, .int .i64 2, .slice (some ⟨N, 0, none⟩) 1 1, .int .i64 5, .string ⟨#[99]⟩, .slice none 0 0, .int .i64 0, .int .i64 0, .slice none 0 0] 43 (0, 0)))
    (b3 : W.heap[N + 3]? = some (.cells #[.string ⟨#[97]⟩, .bool false, .int .i64 1, .string ⟨#[]⟩, .slice none 0 0, .int .i64 0, .int .i64 0, .slice (some ⟨N + 2, 0, none⟩) 2 2] 45 (0, 0))) :
    LinesIn W (fun b => N ≤ b) (.slice (some ⟨N + 3, 0, none⟩) 1 1) [ruleA] := by
  have t1 : TreeAt W (fun b => N ≤ b) ⟨4, ⟨#[98]⟩, .slice none 0 0, 0, 0, .slice none 0 0⟩ (.mk 4 [98] [] 0 0 []) := tree_leaf W _ 4 0 0 [98]
  have t3 : TreeAt W (fun b => N ≤ b) ⟨5, ⟨#[99]⟩, .slice none 0 0, 0, 0, .slice none 0 0⟩ (.mk 5 [99] [] 0 0 []) := tree_leaf W _ 5 0 0 [99]
  have t2 : TreeAt W (fun b => N ≤ b) ⟨3, ⟨#[]⟩, .slice none 0 0, 1, 2, .slice (some ⟨N, 0, none⟩) 1 1⟩ (.mk 3 [] [] 1 2 [.mk 4 [98] [] 0 0 []]) := by
    refine TreeAt.mk (x := []) (nums := []) [⟨4, ⟨#[98]⟩, .slice none 0 0, 0, 0, .slice none 0 0⟩] (RowIn.nil _ _ _) (RowIn.of_block b0 (Nat.le_refl _) (by omega)) rfl (fun i y t hy ht => ?_)
    match i, hy, ht with
    | 0, hy, ht => cases hy; cases ht; exact t1
    | i + 1, hy, ht => simp at hy
  have t4 : TreeAt W (fun b => N ≤ b) ⟨1, ⟨#[]⟩, .slice none 0 0, 0, 0, .slice (some ⟨N + 2, 0, none⟩) 2 2⟩ ruleA.expr := by
    refine TreeAt.mk (x := []) (nums := []) [⟨3, ⟨#[]⟩, .slice none 0 0, 1, 2, .slice (some ⟨N, 0, none⟩) 1 1⟩, ⟨5, ⟨#[99]⟩, .slice none 0 0, 0, 0, .slice none 0 0⟩] (RowIn.nil _ _ _) (RowIn.of_block b2 (by omega) (by omega)) rfl (fun i y t hy ht => ?_)
    match i, hy, ht with
    | 0, hy, ht => cases hy; cases ht; exact t2
    | 1, hy, ht => cases hy; cases ht; exact t3
    | i + 2, hy, ht => simp at hy
  refine ⟨[⟨⟨#[97]⟩, false, ⟨1, ⟨#[]⟩, .slice none 0 0, 0, 0, .slice (some ⟨N + 2, 0, none⟩) 2 2⟩⟩], rfl, RowIn.of_block b3 (by omega) (by omega), fun i y r hy hr => ?_⟩
  match i, hy, hr with
  | 0, hy, hr => cases hy; cases hr; exact ⟨rfl, rfl, t4⟩
  | i + 1, hy, hr => simp at hy

set_option maxRecDepth 100000 in
set_option maxHeartbeats 8000000 in
theorem awake_any (w : World) : Calls Tryd.prog 13 #[] w (GivesBool true w) := by
  go_enter Tryd.func13, Tryd.ntmps13
  go_wp2_with fail
  refine (read_any textA _ (by decide)).mono ?_
  rintro e w1 ⟨r, hr, hb, hgv⟩
  cases hr.one answerA
  obtain ⟨v, rfl, hl⟩ := hgv
  have HL := Lib.hid hl
  have HB := Lib.hid hb
  clear hl hb hr
  go_wp2_with fail
  have hw := four_new w1 (.cells #[.int .i64 4, .string ⟨#[98]⟩, .slice none 0 0, .int .i64 0, .int .i64 0, .slice none 0 0] 43)
    (.cells #[.int .i64 3, .string ⟨#[]⟩, .slice none 0 0, .int .i64 1, .int .i64 2, .slice (some ⟨w1.heap.size, 0, none⟩) 1 1] 43)
    (.cells #[.int .i64 3, .string ⟨#[]⟩, .slice none 0 0, .int .i64 1, .int .i64 2, .slice (some ⟨w1.heap.size, 0, none⟩) 1 1, .int .i64 5, .string ⟨#[99]⟩, .slice none 0 0, .int .i64 0, .int .i64 0, .slice none 0 0] 43)
    (.cells #[.string ⟨#[97]⟩, .bool false, .int .i64 1, .string ⟨#[]⟩, .slice none 0 0, .int .i64 0, .int .i64 0, .slice (some ⟨w1.heap.size + 1 + 1, 0, none⟩) 2 2] 45)
  have HW := Lib.hid (want_reads hw.1 hw.2.1 hw.2.2)
  have HB4 := Lib.hid ((((((Below.refl w1.heap.size w1).alloc (Nat.le_refl _) (.cells #[.int .i64 4, .string ⟨#[98]⟩, .slice none 0 0, .int .i64 0, .int .i64 0, .slice none 0 0] 43)).alloc (by simp)
    (.cells #[.int .i64 3, .string ⟨#[]⟩, .slice none 0 0, .int .i64 1, .int .i64 2, .slice (some ⟨w1.heap.size, 0, none⟩) 1 1] 43)).alloc (by simp; omega)
    (.cells #[.int .i64 3, .string ⟨#[]⟩, .slice none 0 0, .int .i64 1, .int .i64 2, .slice (some ⟨w1.heap.size, 0, none⟩) 1 1, .int .i64 5, .string ⟨#[99]⟩, .slice none 0 0, .int .i64 0, .int .i64 0, .slice none 0 0] 43)).alloc (by simp; omega)
    (.cells #[.string ⟨#[97]⟩, .bool false, .int .i64 1, .string ⟨#[]⟩, .slice none 0 0, .int .i64 0, .int .i64 0, .slice (some ⟨w1.heap.size + 1 + 1, 0, none⟩) 2 2] 45)))
  clear hw
  refine (read_any textB _ (by decide)).mono ?_
  rintro e w5 ⟨r, hr, hb, hgv⟩
  cases hr.one answerB
  subst hgv
  have HL5 := Lib.hid ((HL.out.reads.under HB4.out).under hb)
  have HW5 := Lib.hid (HW.out.under hb)
  have HB5 := Lib.hid ((HB.out.trans (HB4.out.mono HB.out.size)).trans (hb.mono (by have := HB.out.size; simp; omega)))
  clear hb hr HL HW HB HB4
  go_wp2_with fail
  refine (sameL_any HL5.out HW5.out).mono ?_
  rintro e w6 ⟨rfl, hb⟩
  have HB6 := Lib.hid (HB5.out.trans (hb.mono HB5.out.size))
  clear hb
  go_wp2_with fail
  go_ret
  exact ⟨rfl, HB6.out⟩

end Go.Proofs.YtlaglkbcladfbaaDoor
