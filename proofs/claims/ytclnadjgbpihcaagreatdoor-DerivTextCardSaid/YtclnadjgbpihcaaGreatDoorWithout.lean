/- The program's without: the expressions of a kind removed, in place. No condition but size. -/
import Derived.Test.YtclnadjgbpihcaaGreatDoorDelete
namespace Go.Proofs.YtclnadjgbpihcaaGreatDoor
open Go.RowKit Go.Lib
set_option linter.unusedVariables false
set_option linter.unusedSimpArgs false

set_option maxRecDepth 100000 in
set_option maxHeartbeats 4000000 in
theorem delete_none (w : World) (B : Nat) (kk : Int) (hB : w.heap[B]? = some (.cells #[.int .i64 kk] 3 (0, 0))) :
    Calls Tryz.prog 67 #[.slice none 0 0, .func (.func 68) #[] #[.pointer (some ⟨B, 0, none⟩)]] w fun e w' => e = .returned (.slice none 0 0) ∧ Below w.heap.size w w' := by
  have eg : ∀ args w, (callFunc 68 args).run Tryz.prog w = .ok (.enter 68 args) w := fun args w => Go.MuLone.run_callFunc_enter Tryz.func68 (by kernel_rfl) rfl args w
  have hcon := index_any 68 #[.pointer (some ⟨B, 0, none⟩)] eg (fun y => y.kind == kk) w (fun W x hW => without1_any W x B kk ((hW.block B (Array.getElem?_eq_some_iff.1 hB).1).trans hB)) (P := fun _ => True) (p := none) (n := 0) (cap := 0) (vs := []) ⟨.inl ⟨rfl, fun _ => rfl⟩, rfl⟩ (by omega)
  clear hB
  go_enter Tryz.func67, Tryz.ntmps67
  go_wp2_with fail
  ((with_reducible refine hcon.mono ?_))
  rintro _ w1 ⟨r, rfl, hf, hb1⟩
  have HB1 := Lib.hid hb1
  clear hb1 hcon
  rcases hf with ⟨rfl, hf⟩ | ⟨i0, y0, rfl, hy0, hk0, hf⟩
  · clear hf
    go_wp2
    go_ret
    exact ⟨rfl, HB1.out⟩
  · simp at hy0

/-- The expressions that are not of a kind. -/
def noKind (kk : Int) (l : List RT) : List RT := l.filter fun t => !(t.kind == kk)
theorem OwnRe.kept_kinds {w : World} {P : Nat → Prop} {v : Value} {vs : List ReV} {l : List RT} (hl : vs.length = l.length) (h : ∀ (i : Nat) (y : ReV) (t : RT), vs[i]? = some y → l[i]? = some t → RAt w P y t) (kk : Int) :
    (vs.filter (keepQ kk)).length = (noKind kk l).length ∧ ∀ (i : Nat) (y : ReV) (t : RT), (vs.filter (keepQ kk))[i]? = some y → (noKind kk l)[i]? = some t → RAt w P y t := by
  induction vs generalizing l with
  | nil =>
    cases l with
    | nil => exact ⟨rfl, fun i y t hy => by simp at hy⟩
    | cons a l => simp at hl
  | cons x vs ih =>
    cases l with
    | nil => simp at hl
    | cons a l =>
      obtain ⟨i1, i2⟩ := ih (l := l) (by simpa using hl) fun i y t hy ht => h (i + 1) y t (by simpa using hy) (by simpa using ht)
      have hk : a.kind = x.kind := by
        obtain ⟨_, e, _⟩ := (h 0 x a rfl rfl).kids
        rw [e]
        rfl
      unfold noKind at i1 i2 ⊢
      by_cases c : x.kind = kk
      · have c1 : keepQ kk x = false := by simp [keepQ, c]
        have c2 : (!(a.kind == kk)) = false := by simp [hk, c]
        rw [List.filter_cons, List.filter_cons, c1, c2]
        exact ⟨i1, i2⟩
      · have c1 : keepQ kk x = true := by simp [keepQ, c]
        have c2 : (!(a.kind == kk)) = true := by simp [hk, c]
        rw [List.filter_cons, List.filter_cons, c1, c2]
        refine ⟨by simp [i1], fun i y t hy ht => ?_⟩
        cases i with
        | zero => simp at hy ht; subst hy ht; exact h 0 x a rfl rfl
        | succ i => exact i2 i y t (by simpa using hy) (by simpa using ht)

/-- The call returns a row of the first world's own. -/
def GivesOwn (w0 : World) (P : Nat → Prop) (l : List RT) (w : World) (e : Ending) (w' : World) : Prop := ∃ (v : Value) (us : List ReV), e = .returned v ∧ OwnRe w0 w' P v us l ∧ Below w0.heap.size w w'

/-- The same, and nothing but the row has turned. -/
def GivesDel (w0 : World) (P : Nat → Prop) (l : List RT) (v0 : Value) (w : World) (e : Ending) (w' : World) : Prop := ∃ (v : Value) (us : List ReV), e = .returned v ∧ OwnRe w0 w' P v us l ∧ w.grownBy w' v0.ownBlock ∧ v.ownBlock = v0.ownBlock

set_option maxRecDepth 100000 in
set_option maxHeartbeats 4000000 in
theorem without_any {w0 : World} {P : Nat → Prop} (w : World) (kk : Int) {v : Value} {us : List ReV} {l : List RT} (hO : OwnRe w0 w P v us l) (hw : w0.heap.size ≤ w.heap.size) (hn : l.length ≤ 1000000000000) :
    Calls Tryz.prog 61 #[v, .int .i64 kk] w (GivesDel w0 P (noKind kk l) v w) := by
  obtain ⟨w1, hw1⟩ : ∃ w1 : World, w1 = w.alloc (.cells #[.int .i64 kk] 3) := ⟨_, rfl⟩
  have hB : w1.heap[w.heap.size]? = some (.cells #[.int .i64 kk] 3 (0, 0)) := by rw [hw1]; exact heap_alloc_new _ _
  have hb1 : Below w.heap.size w w1 := by rw [hw1]; exact (Below.refl _ _).alloc (Nat.le_refl _) _
  have hO1 : w1.ownsRow w0.heap.size 28 6 v l.length (us.flatMap ReV.cells) := by rw [hw1]; exact hO.own.alloc _
  obtain ⟨k1, k2⟩ := OwnRe.kept_kinds (v := v) hO.len hO.each kk
  have HK := Lib.hid k2
  have HKL := Lib.hid k1
  have HW1 := Lib.hid hw1
  have HB1 := Lib.hid hb1
  rcases row_forms hO1 with ⟨rfl, h0⟩ | ⟨g, cap, rfl⟩
  · have c := delete_none w1 w.heap.size kk hB
    have hl0 : l = [] := List.length_eq_zero_iff.1 h0
    have HL := Lib.hid hl0
    have hu0 : us = [] := List.length_eq_zero_iff.1 (by rw [hO.len, hl0]; rfl)
    have HU := Lib.hid hu0
    clear k1 k2 hw1 hb1 hO hO1 hB hl0 hu0
    go_enter Tryz.func61, Tryz.ntmps61
    go_wp2_with fail
    rw [← HW1.out]
    ((with_reducible refine c.mono ?_))
    rintro _ w2 ⟨rfl, hb2⟩
    have HB2 := Lib.hid hb2
    clear hb2 c
    go_wp2
    go_ret
    refine ⟨_, [], rfl, ⟨?_, ?_, fun i y t hy => by simp at hy⟩, grown_of (HB1.out.trans (HB2.out.mono HB1.out.size)), rfl⟩
    · rw [HL.out]; exact World.ownsRow_nil _ _ _ _
    · rw [HL.out]; rfl
  · obtain ⟨r1, r2, r3, r4⟩ := row_base hO.own
    have c := delete_any w1 w0.heap.size g l.length cap w.heap.size us kk hO1 hB (by omega) (Nat.le_trans hw hb1.size) hn
    clear k1 k2 hw1 hb1 hO hO1 hB
    go_enter Tryz.func61, Tryz.ntmps61
    go_wp2_with fail
    rw [← HW1.out]
    ((with_reducible refine c.mono ?_))
    rintro _ w2 ⟨N, rfl, hO2, hb2⟩
    have HO2 := Lib.hid hO2
    have HB2 := Lib.hid hb2
    clear hb2 c hO2
    go_wp2
    go_ret
    refine ⟨_, us.filter (keepQ kk), rfl, ⟨?_, HKL.out, HK.out⟩, (grown_of HB1.out).trans HB2.out, rfl⟩
    have h := HO2.out
    have h1 := h.1
    rw [flat6_len, HKL.out] at h1
    have e : (noKind kk l).length = N := by omega
    rw [e]
    exact h

end Go.Proofs.YtclnadjgbpihcaaGreatDoor

