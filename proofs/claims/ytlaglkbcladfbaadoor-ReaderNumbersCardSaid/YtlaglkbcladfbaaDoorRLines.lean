/- The rules of a text are read by the program as the words say; for every text of at most 50000 bytes. -/
import Derived.Test.YtlaglkbcladfbaaDoorRRule
namespace Go.Proofs.YtlaglkbcladfbaaDoor
open Go.RowKit
set_option linter.unusedVariables false
set_option linter.unusedSimpArgs false

def LV.cells (y : LV) : List Value := [.string y.name, .bool y.more, .int .i64 y.expr.kind, .string y.expr.text, y.expr.ns, .int .i64 y.expr.lo, .int .i64 y.expr.hi, y.expr.ks]

/-- A row of rules that the call itself has made. -/
def LinesAt (W : World) (base : Nat) (v : Value) (l : List Rule) : Prop :=
  ∃ ys : List LV, ys.length = l.length ∧ W.ownsRow base 45 8 v l.length (ys.flatMap LV.cells) ∧ ∀ (i : Nat) (y : LV) (r : Rule), ys[i]? = some y → l[i]? = some r → LineAt W (fun b => base ≤ b ∧ some b ≠ v.ownBlock) y r

theorem LineAt.kept {W W' : World} {P P' : Nat → Prop} {y : LV} {r : Rule} (h : LineAt W P y r) (hk : ∀ b, P b → b < W.heap.size → W'.heap[b]? = W.heap[b]? ∧ P' b) (hs : W.heap.size ≤ W'.heap.size) : LineAt W' P' y r := ⟨h.1, h.2.1, h.2.2.kept hk hs⟩

theorem LinesAt.kept {W W' : World} {base : Nat} {v : Value} {l : List Rule} (h : LinesAt W base v l) (hk : ∀ b, base ≤ b → b < W.heap.size → W'.heap[b]? = W.heap[b]?) (hs : W.heap.size ≤ W'.heap.size) : LinesAt W' base v l := by
  obtain ⟨vs, h1, h2, h3⟩ := h
  refine ⟨vs, h1, ?_, fun i y t hy ht => (h3 i y t hy ht).kept (fun b hP hl => ⟨hk b hP.1 hl, hP⟩) hs⟩
  refine ⟨h2.1, ?_⟩
  rcases h2.2 with hn | ⟨g, cap, cur, hv, hb, hg, rest⟩
  · exact .inl hn
  · exact .inr ⟨g, cap, cur, hv, hb, (hk g hb (Array.getElem?_eq_some_iff.1 hg).1).trans hg, rest⟩
theorem LinesAt.grown {W W' : World} {base R : Nat} {v : Value} {l : List Rule} (h : LinesAt W base v l) (hg : W.grownBy W' (some R)) (hR : R < base) : LinesAt W' base v l :=
  h.kept (fun b hb hl => hg.block b hl (fun e => by have := Option.some.inj e; omega)) hg.size
theorem LinesAt.below {W W' : World} {base : Nat} {v : Value} {l : List Rule} (h : LinesAt W base v l) (hb : Below W.heap.size W W') : LinesAt W' base v l := h.kept (fun b _ hl => hb.block b hl) hb.size
theorem LinesAt.nil (W : World) (base : Nat) : LinesAt W base (.slice none 0 0) [] := ⟨[], rfl, World.ownsRow_nil _ _ _ _, fun i y r h => by simp at h⟩

theorem LinesAt.push {W W' : World} {base : Nat} {v v' : Value} {l : List Rule} {t : Rule} {x : LV} {vs : List LV} (h1 : vs.length = l.length) (h2 : W.ownsRow base 45 8 v l.length (vs.flatMap LV.cells))
    (h3 : ∀ (i : Nat) (y : LV) (t : Rule), vs[i]? = some y → l[i]? = some t → LineAt W (fun b => base ≤ b ∧ some b ≠ v.ownBlock) y t) (hx : LineAt W (fun b => base ≤ b ∧ some b ≠ v.ownBlock) x t)
    (hown : W'.ownsRow base 45 8 v' (l.length + 1) (vs.flatMap LV.cells ++ x.cells)) (hg : W.grownBy W' v.ownBlock) (hat : v'.ownBlock = v.ownBlock ∨ ∃ k, v'.ownBlock = some k ∧ W.heap.size ≤ k) : LinesAt W' base v' (l ++ [t]) := by
  have key : ∀ (y : LV) (u : Rule), LineAt W (fun b => base ≤ b ∧ some b ≠ v.ownBlock) y u → LineAt W' (fun b => base ≤ b ∧ some b ≠ v'.ownBlock) y u := by
    intro y u hy
    refine hy.kept (fun b hP hl => ⟨hg.block b hl hP.2, hP.1, ?_⟩) hg.size
    rcases hat with e | ⟨k, e, hk⟩
    · rw [e]; exact hP.2
    · rw [e]; intro g; cases g; omega
  refine ⟨vs ++ [x], by simp [h1], by simpa using hown, fun i y u hy hu => ?_⟩
  by_cases hi : i < l.length
  · rw [List.getElem?_append_left (by omega)] at hy
    rw [List.getElem?_append_left hi] at hu
    exact key y u (h3 i y u hy hu)
  · have hi0 : i = l.length := by
      have := (List.getElem?_eq_some_iff.1 hu).1
      simp at this; omega
    subst hi0
    rw [List.getElem?_append_right (by omega), h1] at hy
    rw [List.getElem?_append_right (by omega)] at hu
    simp at hy hu
    subst hy hu
    exact key x t hx

theorem infoL : (Tryd.prog.info? 45).map (fun i => (i.zero, i.size, i.bytes)) = some (some (.agg #[.string ⟨#[]⟩, .bool false, .int .i64 0, .string ⟨#[]⟩, .slice none 0 0, .int .i64 0, .int .i64 0, .slice none 0 0]), 8, 112) := by kernel_rfl

theorem fill_line (y : LV) (h1 : y.expr.ns.oneCell' = true) (h2 : y.expr.ks.oneCell' = true) :
    Instr.fill (fun i => some (i * 8, 8)) ((Array.range (1 * 8)).map ((Value.agg #[.string ⟨#[]⟩, .bool false, .int .i64 0, .string ⟨#[]⟩, .slice none 0 0, .int .i64 0, .int .i64 0, .slice none 0 0]).cells[· % 8]!)) [(0, y.val)] = some y.arr := by
  obtain ⟨a, b, c⟩ := y
  cases c
  kernel_rfl

theorem build_line {ops : Array Oper} {rest : List Oper} {o : Oper} {a : Act} {w : World} {Q : Exit → Act → World → Prop} (hgd : o.guard = none) (z : Operand) (ho : o.op = .buildSlice 35 1 #[(0, z)])
    (y : LV) (hy : a.eval z = y.val) (h1 : y.expr.ns.oneCell' = true) (h2 : y.expr.ks.oneCell' = true)
    (h : wpList Tryd.prog ops Q rest (a.put o.dst (.slice (some ⟨w.heap.size, 0, none⟩) 1 1)) (w.alloc (.cells y.arr 45))) : wpList Tryd.prog ops Q (o :: rest) a w := by
  obtain ⟨i0, hi0, hi1⟩ := Option.map_eq_some_iff.1 infoL
  obtain ⟨hz0, hz1, hz2⟩ : i0.zero = some _ ∧ i0.size = 8 ∧ i0.bytes = _ := by simpa using hi1
  refine wpList_buildSlice hgd 35 45 1 #[(0, z)] ho y.arr i0 _ Tryd.underlying35 hi0 hz0 (by rw [hz1]; decide) (by rw [hz1]; decide) ?_ h
  rw [hz1]
  simp only [List.map_toArray, List.map_cons, List.map_nil, hy]
  exact fill_line y h1 h2

theorem line_cells_new {w : World} {g : Nat} {y : LV} (hb : w.heap[g]? = some (.cells y.arr 45 (0, 0))) : ∀ (j : Nat) (u : Value), y.cells[j]? = some u → w.cell? ((⟨g, 0, none⟩ : Addr).add j) = some u := by
  intro j u hj
  have e : (⟨g, 0, none⟩ : Addr).add j = ⟨g, j, none⟩ := by cases j <;> simp [Addr.add]
  rw [e]
  simp only [World.cell?, hb]
  have : y.arr.toList = y.cells := rfl
  rw [← this] at hj
  simpa using hj

theorem push_lines {ops : Array Oper} {rest : List Oper} {o : Oper} {a : Act} {w : World} {Q : Exit → Act → World → Prop} (hgd : o.guard = none) (sx xx : Operand)
    (ho : o.op = .call { callee := .builtin .append, args := #[sx, xx], argTypes := #[35, 35] }) (base : Nat) (v : Value) (l : List Rule) (t : Rule) (x : LV) (g : Nat)
    (hs : a.eval sx = v) (hx : a.eval xx = .slice (some ⟨g, 0, none⟩) 1 1) (hk : LinesAt w base v l) (ht : LineAt w (fun b => base ≤ b ∧ some b ≠ v.ownBlock) x t)
    (hb : w.heap[g]? = some (.cells x.arr 45 (0, 0))) (hl : l.length ≤ 100000) (hbase : base ≤ w.heap.size)
    (h : ∀ v' w', LinesAt w' base v' (l ++ [t]) → w.grownBy w' v.ownBlock → wpList Tryd.prog ops Q rest (a.put o.dst v') w') : wpList Tryd.prog ops Q (o :: rest) a w := by
  obtain ⟨i0, hi0, hi1⟩ := Option.map_eq_some_iff.1 infoL
  obtain ⟨hz0, hz1, hz2⟩ : i0.zero = some _ ∧ i0.size = 8 ∧ i0.bytes = _ := by simpa using hi1
  obtain ⟨vs, h1, h2, h3⟩ := hk
  have o2 := one_cell_ns ht.2.2
  have o5 := one_cell_ks ht.2.2
  refine wpList_append_own_at _ hgd sx xx 35 ho base 45 i0 _ 8 112 Tryd.underlying35 hi0 hz0 hz1 hz2 rfl (by decide) v l.length (vs.flatMap LV.cells) hs h2 ⟨g, 0, none⟩ 1 1 x.cells hx rfl (line_cells_new hb) ?_ (by unfold maxLen; omega) (by omega) hbase ?_
  · intro u hu
    simp [LV.cells] at hu
    rcases hu with rfl | rfl | rfl | rfl | rfl | rfl | rfl | rfl
    all_goals first | rfl | assumption
  · intro v' w' hown hgrow _ hat
    exact h v' w' (LinesAt.push h1 h2 h3 ht hown hgrow (hat.imp id (fun e => ⟨_, e, Nat.le_refl _⟩))) hgrow

theorem lines_grown {W w w' : World} {base R : Nat} {v : Value} {l : List Rule} (hk : LinesAt w base v l) (h : W.grownBy w (some R)) (hg : w.grownBy w' v.ownBlock) (hW : W.heap.size ≤ base) : W.grownBy w' (some R) := by
  obtain ⟨vs, _, h2, _⟩ := hk
  rcases row_forms h2 with ⟨rfl, _⟩ | ⟨g, cap, rfl⟩
  · exact h.trans ⟨hg.os, hg.tape, hg.output, hg.size, fun k hk _ => hg.block k hk (by simp [Value.ownBlock])⟩
  · have hb := (row_base h2).1
    exact grown_own h hg (show W.heap.size ≤ g by omega)
theorem lines_at {w w' : World} {base R : Nat} {s : ByteArray} {p d : Nat} {v : Value} {l : List Rule} (hk : LinesAt w base v l) (h : At w R s p d) (hg : w.grownBy w' v.ownBlock) (hR : R < base) : At w' R s p d := by
  obtain ⟨vs, _, h2, _⟩ := hk
  refine h.kept hg (fun e => ?_)
  rcases row_forms h2 with ⟨rfl, _⟩ | ⟨g, cap, rfl⟩
  · simp [Value.ownBlock] at e
  · have hb := (row_base h2).1
    have := Option.some.inj e
    simp at this
    omega
theorem lines_sep {w w1 : World} {base : Nat} {v : Value} {l : List Rule} {x : LV} {t : Rule} (hk : LinesAt w base v l) (ht : LineAt w1 (fun b => w.heap.size ≤ b) x t) (hb : base ≤ w.heap.size) : LineAt w1 (fun b => base ≤ b ∧ some b ≠ v.ownBlock) x t := by
  obtain ⟨vs, _, h2, _⟩ := hk
  refine ht.kept (fun b hP _ => ⟨rfl, by omega, fun e => ?_⟩) (Nat.le_refl _)
  rcases row_forms h2 with ⟨rfl, _⟩ | ⟨k, cap, rfl⟩
  · simp [Value.ownBlock] at e
  · have hb := (row_base h2).2.2.2
    have := Option.some.inj e
    simp at this
    omega

theorem end_lt {s : ByteArray} {p e : Nat} (hp : p < s.size) (h : lineEnd (rd s) p = some e) : p < e := by
  have h1 := end_le (by omega) h
  by_cases hpe : p < e
  · exact hpe
  · have he : e = p := by omega
    subst he
    exfalso
    have hc := com_le (s := s) (p := e) (by omega)
    unfold lineEnd at h
    split at h
    · rename_i h0
      have h2 : comEnd (rd s) e = e := by have := Option.some.inj h; omega
      rw [h2, rd_in hp] at h0
      omega
    · split at h
      · have := Option.some.inj h; omega
      · split at h
        · have := Option.some.inj h; omega
        · cases h

theorem rule_bound {s : ByteArray} {p q : Nat} {x : Rule} (hp : p ≤ s.size) (h : RuleAt (rd s) p (.ok x q)) : p + 1 ≤ q ∧ q ≤ s.size ∧ (isAl (rd s p) = true → p + 2 ≤ q) := by
  cases h with
  | ok hn h61 ha he =>
    rename_i q1 q2 x0 t0
    have h1 := nameAt_in hp hn
    have h2 := skip_at h1.2
    have hlt := rd_lt (by omega) h61
    have h3 : skipEnd (rd s) q1 + 1 ≤ eqAt (rd s) q1 ∧ eqAt (rd s) q1 ≤ s.size := by
      unfold eqAt
      split
      · rename_i h47
        have := rd_lt (by omega) h47
        omega
      · omega
    have h4 := skip_at h3.2
    have h5 := ha.bound trivial h4.2.2 _ _ rfl
    have h6 := end_le h5.2 he
    refine ⟨by omega, by omega, fun hal => ?_⟩
    have h7 : p + 1 ≤ q1 := by
      obtain ⟨hr, hq⟩ := run_at (P := isNm) (by decide) hp
      unfold nameAt at hn
      split at hn
      · cases hn
      · cases hn
        have hle := hr.le
        by_cases g : p + 1 ≤ runEnd isNm (rd s) p
        · exact g
        · have e : runEnd isNm (rd s) p = p := by omega
          have hst := hr.stop
          rw [e] at hst
          have : isNm (rd s p) = true := by unfold isNm; simp [hal]
          rw [this] at hst
          cases hst
    omega

end Go.Proofs.YtlaglkbcladfbaaDoor
