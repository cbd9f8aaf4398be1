/- Read answers as the words say; for every text. -/
import Derived.Test.YtlaglkbcladfbaaDoorRAll
import Derived.Defers
import Derived.Recover
import Derived.Laws.Pointers
namespace Go.Proofs.YtlaglkbcladfbaaDoor
open Go.RowKit
set_option linter.unusedVariables false
set_option linter.unusedSimpArgs false

/-- What the deferred closure leaves. -/
def Caught (B g0 g1 : Nat) (c : Int) (w w' : World) : Prop := w'.cell? ⟨g0, 0, none⟩ = some (.slice none 0 0) ∧ w'.cell? ⟨g1, 0, none⟩ = some (.int .i64 c) ∧ Below B w w'

theorem cell_apart {w : World} {g h : Nat} {x : Value} (hne : g ≠ h) (v : Value) (hc : w.cell? ⟨h, 0, none⟩ = some x) : ((w.drew).setCell ⟨g, 0, none⟩ v).cell? ⟨h, 0, none⟩ = some x := by
  rw [World.cell?_setCell_other _ _ _ _ (fun e => hne (by injection e))]
  exact hc
theorem cell_put {w : World} {g : Nat} {x : Value} (v : Value) (hc : w.cell? ⟨g, 0, none⟩ = some x) : (w.setCell ⟨g, 0, none⟩ v).cell? ⟨g, 0, none⟩ = some v := by
  obtain ⟨o, ho⟩ : ∃ o, w.heap[g]? = some o := by
    cases h : w.heap[g]? with
    | some o => exact ⟨o, rfl⟩
    | none => simp [World.cell?, h] at hc
  cases o with
  | cells cs t fr =>
    have hs : 0 < cs.size := by
      simp only [World.cell?, ho] at hc
      exact (Array.getElem?_eq_some_iff.1 hc).1
    rw [setCell_eq_setRow _ _ _ _ _ _ _ ho, cell_setRow_same _ _ _ _ _ _ _ ho]
    simp [hs]
  | _ => simp [World.cell?, ho] at hc

theorem caught_1 {w : World} {B g0 g1 : Nat} {x y : Value} {c : Int} (hne : g0 ≠ g1) (hb0 : B ≤ g0) (hb1 : B ≤ g1) (h0 : w.cell? ⟨g0, 0, none⟩ = some x) (h1 : w.cell? ⟨g1, 0, none⟩ = some y) :
    Caught B g0 g1 c w ((w.drew.setCell ⟨g0, 0, none⟩ (.slice none 0 0)).setCell ⟨g1, 0, none⟩ (.int .i64 c)) :=
  ⟨by rw [World.cell?_setCell_other _ _ _ _ (fun e => hne (by injection e with e; exact e.symm))]; exact cell_put (w := w.drew) _ h0, cell_put _ (cell_apart hne _ h1), ((Below.refl _ _).drew.setCell hb0 _).setCell hb1 _⟩
theorem caught_2 {w : World} {B g0 g1 : Nat} {x y : Value} {c : Int} (hne : g0 ≠ g1) (hb0 : B ≤ g0) (hb1 : B ≤ g1) (h0 : w.cell? ⟨g0, 0, none⟩ = some x) (h1 : w.cell? ⟨g1, 0, none⟩ = some y) :
    Caught B g0 g1 c w ((w.drew.setCell ⟨g1, 0, none⟩ (.int .i64 c)).setCell ⟨g0, 0, none⟩ (.slice none 0 0)) :=
  ⟨cell_put _ (cell_apart (fun e => hne e.symm) _ h0), by rw [World.cell?_setCell_other _ _ _ _ (fun e => hne (by injection e))]; exact cell_put (w := w.drew) _ h1, ((Below.refl _ _).drew.setCell hb1 _).setCell hb0 _⟩

theorem catch_panicking (g0 g1 : Nat) (x y : Value) (c : Int) (older : List PanicEntry) (w : World) (B : Nat) (hne : g0 ≠ g1) (hb0 : B ≤ g0) (hb1 : B ≤ g1) (h0 : w.cell? ⟨g0, 0, none⟩ = some x) (h1 : w.cell? ⟨g1, 0, none⟩ = some y)
    (z0 : w.frozen? ⟨g0, 0, none⟩ = false) (z1 : w.frozen? ⟨g1, 0, none⟩ = false) :
    CallsD Tryd.prog 40 #[.pointer (some ⟨g0, 0, none⟩), .pointer (some ⟨g1, 0, none⟩)] (.panicking ({ v := .iface 66 (.agg #[.int .i64 c]), recovered := false } :: older)) w fun e u' w' =>
      e = .returned (.tuple #[]) ∧ u' = .panicking ({ v := .iface 66 (.agg #[.int .i64 c]), recovered := true } :: older) ∧ Caught B g0 g1 c w w' := by
  refine callsD_of_wpS Tryd.func40 rfl fun c₀ cs hu => ?_
  apply wpS_seq
  apply wpS_region
  simp [wpOpsS, go_sem, recoverD, hu, Tryd.ntmps40, Exit.thenS]
  apply wpS_seq
  apply wpS_region
  simp [wpOpsS, go_sem, Tryd.ntmps40, Exit.thenS]
  refine wpS_cond (t := true) (by simp [Act.eval, Array.replicate]) ?_
  simp only [if_true]
  refine wpS_of_wp ?_
  have hta : ∀ W : World, (Instr.typeAssert (.iface 66 (.agg #[.int .i64 c])) 20 66 false).run Tryd.prog W = .ok (.agg #[.int .i64 c]) W := fun W => by kernel_rfl
  have hfd : ∀ W : World, (Instr.field 66 (.agg #[.int .i64 c]) 0).run Tryd.prog W = .ok (.int .i64 c) W := fun W => by kernel_rfl
  have h0' : ∀ (v : Value), ((w.drew).setCell ⟨g1, 0, none⟩ v).cell? ⟨g0, 0, none⟩ = some x := fun v => cell_apart (fun e => hne e.symm) v h0
  have h1' : ∀ (v : Value), ((w.drew).setCell ⟨g0, 0, none⟩ v).cell? ⟨g1, 0, none⟩ = some y := fun v => cell_apart hne v h1
  go_region
  all_goals first
    | exact ⟨rfl, _, rfl, .tuple #[], results_none rfl _ _ _, rfl, rfl, caught_1 hne hb0 hb1 h0 h1⟩
    | exact ⟨rfl, _, rfl, .tuple #[], results_none rfl _ _ _, rfl, rfl, caught_2 hne hb0 hb1 h0 h1⟩

theorem catch_idle (g0 g1 : Nat) (w : World) :
    CallsD Tryd.prog 40 #[.pointer (some ⟨g0, 0, none⟩), .pointer (some ⟨g1, 0, none⟩)] .returning w fun e u' w' => e = .returned (.tuple #[]) ∧ u' = .returning ∧ w' = w := by
  refine callsD_of_wpS Tryd.func40 rfl fun c₀ cs hu => ?_
  apply wpS_seq
  apply wpS_region
  simp [wpOpsS, go_sem, recoverD, hu, Tryd.ntmps40, Exit.thenS]
  apply wpS_seq
  apply wpS_region
  simp [wpOpsS, go_sem, Tryd.ntmps40, Exit.thenS]
  refine wpS_cond (t := false) (by simp [Act.eval, Array.replicate]) ?_
  simp only [Bool.false_eq_true, if_false]
  refine wpS_of_wp (wp_skip ?_)
  cases c₀
  simp_all [bodyPostS, results, Tryd.results40]

theorem LinesAt.base {W : World} {base base' : Nat} {v : Value} {l : List Rule} (h : LinesAt W base v l) (hb : base' ≤ base) : LinesAt W base' v l := by
  obtain ⟨vs, h1, h2, h3⟩ := h
  exact ⟨vs, h1, row_mono h2 hb, fun i y r hy hr => (h3 i y r hy hr).kept (fun b hP _ => ⟨rfl, by omega, hP.2⟩) (Nat.le_refl _)⟩

/-- The rules of a text, or its error, as the document has them. -/
def Answer (s : ByteArray) (r : Got (List Rule)) : Prop := if 50000 < s.size then r = .err 2 else Rules (rd s) [] 0 r

/-- The call answers what the text comes to. -/
def GivesRead (s : ByteArray) (w : World) (e : Ending) (w' : World) : Prop :=
  ∃ r : Got (List Rule), Answer s r ∧ Below w.heap.size w w' ∧ match r with
    | .ok l _ => ∃ v, e = .returned (.tuple #[v, .int .i64 0]) ∧ LinesAt w' w.heap.size v l
    | .err c => e = .returned (.tuple #[.slice none 0 0, .int .i64 c])

set_option maxRecDepth 100000 in
set_option maxHeartbeats 8000000 in
theorem read_any (s : ByteArray) (w : World) (hs : s.size ≤ maxLen) : Calls Tryd.prog 25 #[.string s] w (GivesRead s w) := by
  unfold maxLen at hs
  have hmf : ∀ (fn : Fn) (first cap : Array Value) (w : World), (Instr.makeFunc fn first cap).run Tryd.prog w = .ok (.func fn first cap) w := fun _ _ _ _ => rfl
  by_cases hbig : 50000 < s.size
  · have hq : decide (50000 < s.size) = true := decide_eq_true hbig
    go_enter_defers Tryd.func25, Tryd.ntmps25
    go_wp2
    simp [Leaves, settle, results, Tryd.results25, go_sem, bodyPostD]
    exact ⟨.err 2, by unfold Answer; rw [if_pos hbig], ((Below.refl _ _).alloc (Nat.le_refl _) _).alloc (by simp) _, rfl⟩
  · have hq : decide (50000 < s.size) = false := decide_eq_false hbig
    have hR : At (((w.alloc (.cells #[.slice none 0 0] 35)).alloc (.cells #[.int .i64 0] 49)).alloc (.cells #[.string s, .int .i64 0, .int .i64 0] 69)) (w.heap.size + 2) s 0 0 := by
      have := heap_alloc_new ((w.alloc (.cells #[.slice none 0 0] 35)).alloc (.cells #[.int .i64 0] 49)) (.cells #[.string s, .int .i64 0, .int .i64 0] 69)
      rw [show ((w.alloc (.cells #[.slice none 0 0] 35)).alloc (.cells #[.int .i64 0] 49)).heap.size = w.heap.size + 2 by simp] at this
      exact this
    have HR := Lib.hid hR
    clear hR
    go_enter_defers Tryd.func25, Tryd.ntmps25
    go_wp2_with fail
    refine (lines_any HR.out (by omega)).mono ?_
    rintro e w1 ⟨r, hr, hgv⟩
    have HRU := Lib.hid hr
    clear hr
    cases r with
    | err c =>
      obtain ⟨rfl, hg⟩ := hgv
      have hb1 : Below w.heap.size w w1 := ⟨hg.os, hg.tape, hg.output, by have := hg.size; simp at this; omega, fun k hk => by
        rw [hg.block k (by simp; omega) (fun e => by have := Option.some.inj e; omega), Below.heap_alloc _ _ _ (by simp; omega), Below.heap_alloc _ _ _ (by simp; omega), Below.heap_alloc _ _ _ hk]⟩
      have b0 : w1.heap[w.heap.size]? = some (.cells #[.slice none 0 0] 35 (0, 0)) := by
        rw [hg.block w.heap.size (by simp; omega) (fun e => by have := Option.some.inj e; omega), Below.heap_alloc _ _ _ (by simp; omega), Below.heap_alloc _ _ _ (by simp)]
        exact heap_alloc_new _ _
      have b1 : w1.heap[w.heap.size + 1]? = some (.cells #[.int .i64 0] 49 (0, 0)) := by
        rw [hg.block (w.heap.size + 1) (by simp) (fun e => by have := Option.some.inj e; omega), Below.heap_alloc _ _ _ (by simp)]
        have := heap_alloc_new (w.alloc (.cells #[.slice none 0 0] 35)) (.cells #[.int .i64 0] 49)
        rwa [show (w.alloc (.cells #[.slice none 0 0] 35)).heap.size = w.heap.size + 1 by simp] at this
      have HB1 := Lib.hid hb1
      have B0 := Lib.hid b0
      have B1 := Lib.hid b1
      clear hg hb1 b0 b1
      go_wp2_with fail
      refine leaves_cons (f := 40) (args := #[.pointer (some ⟨w.heap.size, 0, none⟩), .pointer (some ⟨w.heap.size + 1, 0, none⟩)]) (by simp) (by simp [go_sem]) ?_
      refine (catch_panicking w.heap.size (w.heap.size + 1) (.slice none 0 0) (.int .i64 0) c [] w1 w.heap.size (by omega) (Nat.le_refl _) (by omega) (by simp [World.cell?, B0.out]) (by simp [World.cell?, B1.out]) (by simp [World.frozen?, B0.out]) (by simp [World.frozen?, B1.out])).mono ?_
      rintro e u' w2 ⟨rfl, rfl, hc0, hc1, hb⟩
      simp [Leaves, settle, results, Tryd.results25, go_sem, hc0, hc1]
      exact ⟨.err c, (if_neg hbig).mpr HRU.out, HB1.out.trans hb, rfl⟩
    | ok l q =>
      obtain ⟨v, rfl, hl, hg⟩ := hgv
      have hb1 : Below w.heap.size w w1 := ⟨hg.os, hg.tape, hg.output, by have := hg.size; simp at this; omega, fun k hk => by
        rw [hg.block k (by simp; omega) (fun e => by have := Option.some.inj e; omega), Below.heap_alloc _ _ _ (by simp; omega), Below.heap_alloc _ _ _ (by simp; omega), Below.heap_alloc _ _ _ hk]⟩
      have b0 : w1.heap[w.heap.size]? = some (.cells #[.slice none 0 0] 35 (0, 0)) := by
        rw [hg.block w.heap.size (by simp; omega) (fun e => by have := Option.some.inj e; omega), Below.heap_alloc _ _ _ (by simp; omega), Below.heap_alloc _ _ _ (by simp)]
        exact heap_alloc_new _ _
      have b1 : w1.heap[w.heap.size + 1]? = some (.cells #[.int .i64 0] 49 (0, 0)) := by
        rw [hg.block (w.heap.size + 1) (by simp) (fun e => by have := Option.some.inj e; omega), Below.heap_alloc _ _ _ (by simp)]
        have := heap_alloc_new (w.alloc (.cells #[.slice none 0 0] 35)) (.cells #[.int .i64 0] 49)
        rwa [show (w.alloc (.cells #[.slice none 0 0] 35)).heap.size = w.heap.size + 1 by simp] at this
      have hlb : LinesAt w1 (w.heap.size + 3) v l := by
        have := hl
        rwa [show (((w.alloc (.cells #[.slice none 0 0] 35)).alloc (.cells #[.int .i64 0] 49)).alloc (.cells #[.string s, .int .i64 0, .int .i64 0] 69)).heap.size = w.heap.size + 3 by simp] at this
      have HL := Lib.hid ((hlb.kept (W' := (w1.setCell ⟨w.heap.size, 0, none⟩ v).setCell ⟨w.heap.size + 1, 0, none⟩ (.int .i64 0)) (fun b hb _ => by
        rw [Below.heap_setCell _ _ _ _ (show b ≠ w.heap.size + 1 by omega), Below.heap_setCell _ _ _ _ (show b ≠ w.heap.size by omega)]) (by simp)).base (show w.heap.size ≤ w.heap.size + 3 by omega))
      have HBB : Hid (Below w.heap.size w ((w1.setCell ⟨w.heap.size, 0, none⟩ v).setCell ⟨w.heap.size + 1, 0, none⟩ (.int .i64 0))) := (hb1.setCell (Nat.le_refl _) _).setCell (by simp) _
      have c0 : w1.cell? ⟨w.heap.size, 0, none⟩ = some (.slice none 0 0) := by simp [World.cell?, b0]
      have c1 : w1.cell? ⟨w.heap.size + 1, 0, none⟩ = some (.int .i64 0) := by simp [World.cell?, b1]
      have z0 : w1.frozen? ⟨w.heap.size, 0, none⟩ = false := by simp [World.frozen?, b0]
      have z1 : w1.frozen? ⟨w.heap.size + 1, 0, none⟩ = false := by simp [World.frozen?, b1]
      have hcl0 : ((w1.setCell ⟨w.heap.size, 0, none⟩ v).setCell ⟨w.heap.size + 1, 0, none⟩ (.int .i64 0)).cell? ⟨w.heap.size, 0, none⟩ = some v := by
        rw [World.cell?_setCell_other _ _ _ _ (fun e => by injection e with e; omega)]; exact cell_put _ c0
      have hcl1 : ((w1.setCell ⟨w.heap.size, 0, none⟩ v).setCell ⟨w.heap.size + 1, 0, none⟩ (.int .i64 0)).cell? ⟨w.heap.size + 1, 0, none⟩ = some (.int .i64 0) := by
        refine cell_put (x := .int .i64 0) _ ?_
        rw [World.cell?_setCell_other _ _ _ _ (fun e => by injection e with e; omega)]; exact c1
      have HC0 := Lib.hid hcl0
      have HC1 := Lib.hid hcl1
      have hform := own_slice hl
      clear hl hg hb1 b0 b1 hlb hcl0 hcl1
      rcases hform with ⟨rfl, hl0⟩ | ⟨g, cap, rfl⟩
      · clear hl0
        go_wp2_with fail
        refine leaves_cons (f := 40) (args := #[.pointer (some ⟨w.heap.size, 0, none⟩), .pointer (some ⟨w.heap.size + 1, 0, none⟩)]) (by simp) (by simp [go_sem]) ?_
        refine (catch_idle w.heap.size (w.heap.size + 1) _).mono ?_
        rintro e u' w2 ⟨rfl, rfl, rfl⟩
        have hc0 := HC0.out
        have hc1 := HC1.out
        simp [Leaves, settle, results, Tryd.results25, go_sem, hc0, hc1]
        exact ⟨.ok l q, (if_neg hbig).mpr HRU.out, HBB.out, _, rfl, HL.out⟩
      · go_wp2_with fail
        refine leaves_cons (f := 40) (args := #[.pointer (some ⟨w.heap.size, 0, none⟩), .pointer (some ⟨w.heap.size + 1, 0, none⟩)]) (by simp) (by simp [go_sem]) ?_
        refine (catch_idle w.heap.size (w.heap.size + 1) _).mono ?_
        rintro e u' w2 ⟨rfl, rfl, rfl⟩
        have hc0 := HC0.out
        have hc1 := HC1.out
        simp [Leaves, settle, results, Tryd.results25, go_sem, hc0, hc1]
        exact ⟨.ok l q, (if_neg hbig).mpr HRU.out, HBB.out, _, rfl, HL.out⟩

end Go.Proofs.YtlaglkbcladfbaaDoor
