/- BytesetSmall is true for every input: for all bytes a, b, c and d, without any condition: ranges of bytes, joined and cut, are the document's answers. -/
import Derived.Deep.CutRange
import Derived.Test.YtchicecmoknkjaaDoorFrame
namespace Go.Proofs.YtchicecmoknkjaaDoor.bytesetSmall
open Go.ChangeShapes Go.WideShapes Go.ChangeAt Go.RowKit Go.Proofs.YtchicecmoknkjaaDoor
set_option linter.unusedVariables false
set_option linter.unusedSimpArgs false

theorem ranges_h (a0 a1 a2 a3 : Int) (f : Nat → Bool) (R : List (Nat × Nat)) (w : World) (ha : IsSet a0 a1 a2 a3 f) (hR : Hid (R = rgs f 256)) (hT : TabD w) :
    Calls Tryd.prog 31 #[.agg #[.int .u64 a0, .int .u64 a1, .int .u64 a2, .int .u64 a3]] w (RetRanges R w) := by
  rw [hR.out]; exact ranges_any a0 a1 a2 a3 f w ha hT
theorem refranges_h (a0 a1 a2 a3 : Int) (f : Nat → Bool) (R : List (Nat × Nat)) (w : World) (ha : IsSet a0 a1 a2 a3 f) (hR : Hid (R = rgs f 256)) :
    Calls Tryd.prog 32 #[.agg #[.int .u64 a0, .int .u64 a1, .int .u64 a2, .int .u64 a3]] w (RetRanges R w) := by
  rw [hR.out]; exact refranges_any a0 a1 a2 a3 f w ha

abbrev C4 (W : World) (B : Nat) (a0 a1 a2 a3 : Int) : Prop :=
  W.cell? ⟨B, 0, none⟩ = some (.int .u64 a0) ∧ W.cell? ⟨B, 1, none⟩ = some (.int .u64 a1) ∧ W.cell? ⟨B, 2, none⟩ = some (.int .u64 a2) ∧ W.cell? ⟨B, 3, none⟩ = some (.int .u64 a3)

/-- Two boxes, wherever they lie, through whatever calls. -/
abbrev Twin (n₀ : Nat) (B C : Nat) (a0 a1 a2 a3 b0 b1 b2 b3 : Int) (w W : World) : Prop :=
  C4 W B a0 a1 a2 a3 ∧ C4 W C b0 b1 b2 b3 ∧ Box4 W B a0 a1 a2 a3 ∧ Box4 W C b0 b1 b2 b3 ∧ n₀ ≤ W.heap.size ∧ Below n₀ w W

theorem Twin.of {n₀ B C : Nat} {a0 a1 a2 a3 b0 b1 b2 b3 : Int} {w W : World} (ha : Box4 W B a0 a1 a2 a3) (hb : Box4 W C b0 b1 b2 b3) (hn : n₀ ≤ W.heap.size) (h : Below n₀ w W) : Twin n₀ B C a0 a1 a2 a3 b0 b1 b2 b3 w W := ⟨ha.cells, hb.cells, ha, hb, hn, h⟩
theorem Twin.step {n₀ B C : Nat} {a0 a1 a2 a3 b0 b1 b2 b3 : Int} {w W W' : World} (hb : Below W.heap.size W W') (h : Twin n₀ B C a0 a1 a2 a3 b0 b1 b2 b3 w W) : Twin n₀ B C a0 a1 a2 a3 b0 b1 b2 b3 w W' :=
  Twin.of (h.2.2.1.below hb h.2.2.1.lt) (h.2.2.2.1.below hb h.2.2.2.1.lt) (Nat.le_trans h.2.2.2.2.1 hb.size) (h.2.2.2.2.2.trans (hb.mono h.2.2.2.2.1))
theorem Twin.drew {n₀ B C : Nat} {a0 a1 a2 a3 b0 b1 b2 b3 : Int} {w W : World} (h : Twin n₀ B C a0 a1 a2 a3 b0 b1 b2 b3 w W) : Twin n₀ B C a0 a1 a2 a3 b0 b1 b2 b3 w W.drew := Twin.of h.2.2.1.drew h.2.2.2.1.drew h.2.2.2.2.1 h.2.2.2.2.2.drew
theorem Twin.alloc {n₀ B C : Nat} {a0 a1 a2 a3 b0 b1 b2 b3 : Int} {w W : World} (h : Twin n₀ B C a0 a1 a2 a3 b0 b1 b2 b3 w W) (o : Obj) : Twin n₀ B C a0 a1 a2 a3 b0 b1 b2 b3 w (W.alloc o) :=
  Twin.of (h.2.2.1.alloc o) (h.2.2.2.1.alloc o) (Nat.le_trans h.2.2.2.2.1 (by simp)) (h.2.2.2.2.2.alloc h.2.2.2.2.1 o)
theorem Twin.allocDrew {n₀ B C : Nat} {a0 a1 a2 a3 b0 b1 b2 b3 : Int} {w W : World} (h : Twin n₀ B C a0 a1 a2 a3 b0 b1 b2 b3 w W.drew) (o : Obj) : Twin n₀ B C a0 a1 a2 a3 b0 b1 b2 b3 w (W.alloc o).drew :=
  Twin.of (Box4.drew (Box4.alloc (show Box4 W B a0 a1 a2 a3 from h.2.2.1) o)) (Box4.drew (Box4.alloc (show Box4 W C b0 b1 b2 b3 from h.2.2.2.1) o)) (Nat.le_trans h.2.2.2.2.1 (by simp)) ((⟨h.2.2.2.2.2.os, h.2.2.2.2.2.tape, h.2.2.2.2.2.output, h.2.2.2.2.2.size, h.2.2.2.2.2.block⟩ : Below n₀ w W).alloc h.2.2.2.2.1 o).drew
theorem Twin.relit {n₀ B C : Nat} {a0 a1 a2 a3 b0 b1 b2 b3 : Int} {w W : World} (h : Twin n₀ B C a0 a1 a2 a3 b0 b1 b2 b3 w (W.alloc (.cells #[.int .u64 0, .int .u64 0, .int .u64 0, .int .u64 0] 24))) (h1 : B ≠ W.heap.size) (h2 : C ≠ W.heap.size) (h3 : n₀ ≤ W.heap.size) (o' : Obj) :
    Twin n₀ B C a0 a1 a2 a3 b0 b1 b2 b3 w (W.alloc o') := by
  have key : ∀ k, k ≠ W.heap.size → (W.alloc o').heap[k]? = (W.alloc (.cells #[.int .u64 0, .int .u64 0, .int .u64 0, .int .u64 0] 24)).heap[k]? := by
    intro k hk
    show (W.heap.push o')[k]? = (W.heap.push _)[k]?
    rw [Array.getElem?_push, Array.getElem?_push, if_neg hk, if_neg hk]
  obtain ⟨_, _, ha, hb, _, hl⟩ := h
  refine Twin.of ((key B h1).trans ha) ((key C h2).trans hb) (Nat.le_trans h3 (by simp)) ⟨hl.os, hl.tape, hl.output, ?_, fun k hk => (key k (by omega)).trans (hl.block k hk)⟩
  have := hl.size
  simpa using this
theorem Twin.set4 {n₀ B C : Nat} {a0 a1 a2 a3 b0 b1 b2 b3 : Int} {w W : World} (h : Twin n₀ B C a0 a1 a2 a3 b0 b1 b2 b3 w W) (D : Nat) (h1 : B ≠ D) (h2 : C ≠ D) (h3 : n₀ ≤ D) (v0 v1 v2 v3 : Value) :
    Twin n₀ B C a0 a1 a2 a3 b0 b1 b2 b3 w ((((W.setCell ⟨D, 0, none⟩ v0).setCell ⟨D, 1, none⟩ v1).setCell ⟨D, 2, none⟩ v2).setCell ⟨D, 3, none⟩ v3) :=
  Twin.of (h.2.2.1.keep4 D h1 _ _ _ _) (h.2.2.2.1.keep4 D h2 _ _ _ _) (by simp only [World.size_setCell]; exact h.2.2.2.2.1)
    ((((h.2.2.2.2.2.setCell (p := ⟨D, 0, none⟩) h3 v0).setCell (p := ⟨D, 1, none⟩) h3 v1).setCell (p := ⟨D, 2, none⟩) h3 v2).setCell (p := ⟨D, 3, none⟩) h3 v3)

theorem Twin.tab {n₀ B C : Nat} {a0 a1 a2 a3 b0 b1 b2 b3 : Int} {w W : World} (hT : TabD w) (hn : w.heap.size ≤ n₀) (h : Twin n₀ B C a0 a1 a2 a3 b0 b1 b2 b3 w W) : TabD W := hT.below h.2.2.2.2.2 hn

/-- What is known of a new box behind a call, for whatever follows. -/
theorem ub_newK {W w' : World} (hb : Below (W.alloc (.cells #[.int .u64 0, .int .u64 0, .int .u64 0, .int .u64 0] 24)).heap.size (W.alloc (.cells #[.int .u64 0, .int .u64 0, .int .u64 0, .int .u64 0] 24)) w') {P : Prop}
    (k : Box4 w' W.heap.size 0 0 0 0 → w'.cell? ⟨W.heap.size, 0, none⟩ = some (.int .u64 0) → w'.cell? ⟨W.heap.size, 1, none⟩ = some (.int .u64 0) → w'.cell? ⟨W.heap.size, 2, none⟩ = some (.int .u64 0) → w'.cell? ⟨W.heap.size, 3, none⟩ = some (.int .u64 0) →
      w'.frozen? ⟨W.heap.size, 0, none⟩ = false → w'.frozen? ⟨W.heap.size, 1, none⟩ = false → w'.frozen? ⟨W.heap.size, 2, none⟩ = false → w'.frozen? ⟨W.heap.size, 3, none⟩ = false → P) : P := by
  have h := (Box4.new W 0 0 0 0).below hb (Box4.new W 0 0 0 0).lt
  exact k h h.cell0 h.cell1 h.cell2 h.cell3 (h.frozen 0) (h.frozen 1) (h.frozen 2) (h.frozen 3)
theorem ub_newDK {W w' : World} (hb : Below (W.alloc (.cells #[.int .u64 0, .int .u64 0, .int .u64 0, .int .u64 0] 24)).drew.heap.size (W.alloc (.cells #[.int .u64 0, .int .u64 0, .int .u64 0, .int .u64 0] 24)).drew w') {P : Prop}
    (k : Box4 w' W.heap.size 0 0 0 0 → w'.cell? ⟨W.heap.size, 0, none⟩ = some (.int .u64 0) → w'.cell? ⟨W.heap.size, 1, none⟩ = some (.int .u64 0) → w'.cell? ⟨W.heap.size, 2, none⟩ = some (.int .u64 0) → w'.cell? ⟨W.heap.size, 3, none⟩ = some (.int .u64 0) →
      w'.frozen? ⟨W.heap.size, 0, none⟩ = false → w'.frozen? ⟨W.heap.size, 1, none⟩ = false → w'.frozen? ⟨W.heap.size, 2, none⟩ = false → w'.frozen? ⟨W.heap.size, 3, none⟩ = false → P) : P := by
  have h := Box4.below (Box4.drew (Box4.new W 0 0 0 0)) hb (Box4.new W 0 0 0 0).lt
  exact k h h.cell0 h.cell1 h.cell2 h.cell3 (h.frozen 0) (h.frozen 1) (h.frozen 2) (h.frozen 3)
theorem ub_stepK {W w' : World} {B : Nat} (hU : Box4 W B 0 0 0 0) (hb : Below W.heap.size W w') {P : Prop}
    (k : Box4 w' B 0 0 0 0 → w'.cell? ⟨B, 0, none⟩ = some (.int .u64 0) → w'.cell? ⟨B, 1, none⟩ = some (.int .u64 0) → w'.cell? ⟨B, 2, none⟩ = some (.int .u64 0) → w'.cell? ⟨B, 3, none⟩ = some (.int .u64 0) →
      w'.frozen? ⟨B, 0, none⟩ = false → w'.frozen? ⟨B, 1, none⟩ = false → w'.frozen? ⟨B, 2, none⟩ = false → w'.frozen? ⟨B, 3, none⟩ = false → P) : P := by
  have h := hU.below hb hU.lt
  exact k h h.cell0 h.cell1 h.cell2 h.cell3 (h.frozen 0) (h.frozen 1) (h.frozen 2) (h.frozen 3)

theorem nameIt {p q : Prop} (h : p) (k : p → q) : q := k h

set_option maxRecDepth 100000 in
set_option maxHeartbeats 16000000 in
theorem walk (a b c d : Int) (ha : 0 ≤ a ∧ a ≤ 255) (hb : 0 ≤ b ∧ b ≤ 255) (hc : 0 ≤ c ∧ c ≤ 255) (hd : 0 ≤ d ∧ d ≤ 255) (w : World) (hTD : TabD w) :
    Calls Tryd.prog 5 #[.int .u8 a, .int .u8 b, .int .u8 c, .int .u8 d] w (RetBool true w) := by
  have HT := Lib.hid hTD
  clear hTD
  obtain ⟨ha1, ha2⟩ := ha
  obtain ⟨hb1, hb2⟩ := hb
  obtain ⟨hc1, hc2⟩ := hc
  obtain ⟨hd1, hd2⟩ := hd
  obtain ⟨F, hF⟩ : ∃ F : Nat → Bool, F = fun j => (rng a b j || rng c d j) && !(rng a b j && rng c d j) := ⟨_, rfl⟩
  obtain ⟨R, hR⟩ : ∃ R, R = rgs F 256 := ⟨_, rfl⟩
  have hlen : R.length ≤ 256 := by rw [hR]; exact rgs_len F 256
  have HR := Lib.hid hR
  clear hR
  obtain ⟨N, hN⟩ : ∃ N, N = cnt F 256 := ⟨_, rfl⟩
  have HN := Lib.hid hN
  clear hN
  have HF := Lib.hid hF
  clear hF
  have hEq := eql_set
  have hU : True := trivial
  go_enter Tryd.func5, Tryd.ntmps5
  go_wp2_with fail
  refine (of_any _ _ _ (by omega) (by omega) (by omega) (by omega)).mono ?_
  rintro e w1 ⟨s0, s1, s2, s3, hs, rfl, hw1⟩
  go_wp2_with fail
  refine (of_any _ _ _ (by omega) (by omega) (by omega) (by omega)).mono ?_
  rintro e w2 ⟨t0, t1, t2, t3, ht, rfl, hw2⟩
  have HW2 := below_step hw1 hw2
  have T0 : Twin w.heap.size w2.heap.size (w2.heap.size + 1) s0 s1 s2 s3 t0 t1 t2 t3 w ((w2.alloc (.cells #[.int .u64 s0, .int .u64 s1, .int .u64 s2, .int .u64 s3] 24)).alloc (.cells #[.int .u64 t0, .int .u64 t1, .int .u64 t2, .int .u64 t3] 24)) :=
    Twin.of ((Box4.new _ _ _ _ _).alloc _) (Box4.new' _ _ _ _ _ _ (by simp)) (by have := HW2.size; simp; omega) (by have := HW2.size; go_grown)
  have hsz2 := HW2.size
  clear hw1 hw2 HW2
  go_wp2_with fail
  go_cut [11] from 23 to 29 (fun s11 W => ∃ (B : Nat) (r0 r1 r2 r3 : Int), s11 = .pointer (some ⟨B, 0, none⟩) ∧ IsSet r0 r1 r2 r3 (fun j => (rng a b j || rng c d j) && !(rng a b j && rng c d j)) ∧ Box4 W B r0 r1 r2 r3 ∧ Below w.heap.size w W)
  case first =>
    go_region_held3 (fun W => (W.cell? ⟨w2.heap.size, 0, none⟩ = some (.int .u64 s0) ∧ W.cell? ⟨w2.heap.size, 1, none⟩ = some (.int .u64 s1) ∧ W.cell? ⟨w2.heap.size, 2, none⟩ = some (.int .u64 s2) ∧ W.cell? ⟨w2.heap.size, 3, none⟩ = some (.int .u64 s3)) ∧ (W.cell? ⟨w2.heap.size + 1, 0, none⟩ = some (.int .u64 t0) ∧ W.cell? ⟨w2.heap.size + 1, 1, none⟩ = some (.int .u64 t1) ∧ W.cell? ⟨w2.heap.size + 1, 2, none⟩ = some (.int .u64 t2) ∧ W.cell? ⟨w2.heap.size + 1, 3, none⟩ = some (.int .u64 t3)) ∧ Box4 W w2.heap.size s0 s1 s2 s3 ∧ Box4 W (w2.heap.size + 1) t0 t1 t2 t3 ∧ w.heap.size ≤ W.heap.size ∧ Below w.heap.size w W)
      (first | ((with_reducible refine Twin.set4 ?_ _ ?_ ?_ ?_ _ _ _ _); with_reducible assumption; omega; omega; omega) | ((with_reducible refine Twin.alloc ?_ _); with_reducible assumption) | ((with_reducible refine Twin.allocDrew ?_ _); with_reducible assumption) | ((with_reducible refine Twin.drew ?_); with_reducible assumption) | ((with_reducible refine Twin.relit ?_ ?_ ?_ ?_ _); with_reducible assumption; omega; omega; omega) | exact Twin.step (by assumption) (by assumption))
      (first | (go_at_call 16; refine (join_any _ _ _ _ _ _ _ _ _ _ _ hs ht).mono ?_; rintro e w' ⟨j0, j1, j2, j3, hJ, rfl, hb'⟩; have hz := hb'.size; (try simp only [World.size_alloc, World.size_drew] at hz); first | ((with_reducible refine ub_newK hb' ?_); intro hU z0 z1 z2 z3 z4 z5 z6 z7; (try simp only [World.size_alloc] at hU z0 z1 z2 z3 z4 z5 z6 z7)) | ((with_reducible refine ub_newDK hb' ?_); intro hU z0 z1 z2 z3 z4 z5 z6 z7; (try simp only [World.size_alloc] at hU z0 z1 z2 z3 z4 z5 z6 z7)) | ((with_reducible refine ub_stepK hU hb' ?_); intro hU z0 z1 z2 z3 z4 z5 z6 z7; (try simp only [World.size_alloc] at hU z0 z1 z2 z3 z4 z5 z6 z7)) | skip) | (go_at_call 18; refine (meet_any _ _ _ _ _ _ _ _ _ _ _ hs ht).mono ?_; rintro e w' ⟨m0, m1, m2, m3, hM, rfl, hb'⟩; have hz := hb'.size; (try simp only [World.size_alloc, World.size_drew] at hz); first | ((with_reducible refine ub_newK hb' ?_); intro hU z0 z1 z2 z3 z4 z5 z6 z7; (try simp only [World.size_alloc] at hU z0 z1 z2 z3 z4 z5 z6 z7)) | ((with_reducible refine ub_newDK hb' ?_); intro hU z0 z1 z2 z3 z4 z5 z6 z7; (try simp only [World.size_alloc] at hU z0 z1 z2 z3 z4 z5 z6 z7)) | ((with_reducible refine ub_stepK hU hb' ?_); intro hU z0 z1 z2 z3 z4 z5 z6 z7; (try simp only [World.size_alloc] at hU z0 z1 z2 z3 z4 z5 z6 z7)) | skip) | (go_at_call 20; refine (without_any _ _ _ _ _ _ _ _ _ _ _ hJ hM).mono ?_; rintro e w' ⟨r0, r1, r2, r3, hr, rfl, hb'⟩; have hz := hb'.size; (try simp only [World.size_alloc, World.size_drew] at hz); first | ((with_reducible refine ub_newK hb' ?_); intro hU z0 z1 z2 z3 z4 z5 z6 z7; (try simp only [World.size_alloc] at hU z0 z1 z2 z3 z4 z5 z6 z7)) | ((with_reducible refine ub_newDK hb' ?_); intro hU z0 z1 z2 z3 z4 z5 z6 z7; (try simp only [World.size_alloc] at hU z0 z1 z2 z3 z4 z5 z6 z7)) | ((with_reducible refine ub_stepK hU hb' ?_); intro hU z0 z1 z2 z3 z4 z5 z6 z7; (try simp only [World.size_alloc] at hU z0 z1 z2 z3 z4 z5 z6 z7)) | skip))
    all_goals
      rename_i hS
      obtain ⟨_, _, _, _, _, hbel⟩ := hS
      first | refine nameIt (hU.set4 r0 r1 r2 r3) ?_ | refine nameIt (Box4.new w' r0 r1 r2 r3) ?_
      intro hUB
      go_wp2_with fail
      go_meet
      exact ⟨_, r0, r1, r2, r3, rfl, hr, hUB, hbel⟩
  case rest =>
    obtain ⟨B, r0, r1, r2, r3, rfl, hr, hUB, hbel⟩ := hcut
    go_wp2_with fail
    refine (refof_any _ _ _).mono ?_
    rintro e w3 ⟨p0, p1, p2, p3, hp, rfl, hb3⟩
    have hUB := hUB.below hb3 hUB.lt
    have hbel := below_step hbel hb3
    clear hb3
    go_wp2_with fail
    refine (refof_any _ _ _).mono ?_
    rintro e w4 ⟨q0, q1, q2, q3, hq, rfl, hb4⟩
    have hUB := hUB.below hb4 hUB.lt
    have hbel := below_step hbel hb4
    clear hb4
    go_wp2_with fail
    refine (refjoin_any _ _ _ _ _ _ _ _ _ _ _ hp hq).mono ?_
    rintro e w5 ⟨j0, j1, j2, j3, hj, rfl, hb5⟩
    have hUB := hUB.below hb5 hUB.lt
    have hbel := below_step hbel hb5
    clear hb5
    go_wp2_with fail
    refine (refof_any _ _ _).mono ?_
    rintro e w6 ⟨p0, p1, p2, p3, hp2, rfl, hb6⟩
    have hUB := hUB.below hb6 hUB.lt
    have hbel := below_step hbel hb6
    clear hb6
    go_wp2_with fail
    refine (refof_any _ _ _).mono ?_
    rintro e w7 ⟨q0, q1, q2, q3, hq2, rfl, hb7⟩
    have hUB := hUB.below hb7 hUB.lt
    have hbel := below_step hbel hb7
    clear hb7
    go_wp2_with fail
    refine (refmeet_any _ _ _ _ _ _ _ _ _ _ _ hp2 hq2).mono ?_
    rintro e w8 ⟨m0, m1, m2, m3, hm, rfl, hb8⟩
    have hUB := hUB.below hb8 hUB.lt
    have hbel := below_step hbel hb8
    clear hb8
    go_wp2_with fail
    refine (refwithout_any _ _ _ _ _ _ _ _ _ _ _ hj hm).mono ?_
    rintro e w9 ⟨v0, v1, v2, v3, hv, rfl, hb9⟩
    have hUB := hUB.below hb9 hUB.lt
    have hbel := below_step hbel hb9
    clear hb9
    obtain ⟨rfl, rfl, rfl, rfl⟩ := IsSet.eq hr hv (fun b _ => rfl)
    have hr' : IsSet v0 v1 v2 v3 F := by rw [HF.out]; exact hr
    have hVB := Box4.new w9 v0 v1 v2 v3
    have hUB := hUB.alloc (.cells #[.int .u64 v0, .int .u64 v1, .int .u64 v2, .int .u64 v3] 24)
    have hbel := below_alloc hbel (.cells #[.int .u64 v0, .int .u64 v1, .int .u64 v2, .int .u64 v3] 24)
    have T0 : Twin w.heap.size B w9.heap.size v0 v1 v2 v3 v0 v1 v2 v3 w (w9.alloc (.cells #[.int .u64 v0, .int .u64 v1, .int .u64 v2, .int .u64 v3] 24)) := Twin.of hUB hVB hbel.size hbel
    clear hp hq hj hp2 hq2 hm hv hr hUB hVB hbel
    go_wp2_with fail
    go_region_held3 (fun W => (W.cell? ⟨B, 0, none⟩ = some (.int .u64 v0) ∧ W.cell? ⟨B, 1, none⟩ = some (.int .u64 v1) ∧ W.cell? ⟨B, 2, none⟩ = some (.int .u64 v2) ∧ W.cell? ⟨B, 3, none⟩ = some (.int .u64 v3)) ∧ (W.cell? ⟨w9.heap.size, 0, none⟩ = some (.int .u64 v0) ∧ W.cell? ⟨w9.heap.size, 1, none⟩ = some (.int .u64 v1) ∧ W.cell? ⟨w9.heap.size, 2, none⟩ = some (.int .u64 v2) ∧ W.cell? ⟨w9.heap.size, 3, none⟩ = some (.int .u64 v3)) ∧ Box4 W B v0 v1 v2 v3 ∧ Box4 W w9.heap.size v0 v1 v2 v3 ∧ w.heap.size ≤ W.heap.size ∧ Below w.heap.size w W)
      (first | ((with_reducible refine Twin.drew ?_); with_reducible assumption) | exact Twin.step (by assumption) (by assumption))
      (first | (go_at_call 15; refine (awake_any _ (Twin.tab HT.out (Nat.le_refl _) (by assumption))).mono ?_; rintro e w' ⟨rfl, hb'⟩) | (go_at_call 31; refine (ranges_h _ _ _ _ _ _ _ hr' HR (Twin.tab HT.out (Nat.le_refl _) (by assumption))).mono ?_; rintro e w' ⟨y, rfl, hy, hb'⟩) | (go_at_call 32; refine (refranges_h _ _ _ _ _ _ _ hr' HR).mono ?_; rintro e w' ⟨y2, rfl, hy2, hb'⟩; have hy3 := own_below hy hb') | (go_at_call 30; refine (same_any _ _ _ _ R hlen _ hy3 hy2).mono ?_; rintro e w' ⟨rfl, hb'⟩) | (go_at_call 24; refine (count_h _ _ _ _ _ _ _ hr' HN (Twin.tab HT.out (Nat.le_refl _) (by assumption))).mono ?_; rintro e w' ⟨rfl, hb'⟩) | (go_at_call 25; refine (refcount_h _ _ _ _ _ _ _ hr' HN).mono ?_; rintro e w' ⟨rfl, hb'⟩))
    rename_i hS
    obtain ⟨_, _, _, _, _, hbel⟩ := hS
    go_wp2
    go_ret
    exact ⟨rfl, hbel⟩

set_option maxRecDepth 100000 in
set_option maxHeartbeats 1000000 in
theorem lifted (os : Os) (started : os.Started) (H : Type) (enc : TypeId × Value → H) :
    ReturnsInHanded {} Tryd.checked os 5 .any (fun w args => (Rows.bytesetSmallSpec.pre enc Tryd.prog Tryd.f5 Rows.bytesetSmallRow.domain false w args ∧ laidMetH Tryd.prog Rows.bytesetSmallRow.laid w) ∧ sizedMet enc Tryd.prog Tryd.f5 (OpenSpec.ofChange Rows.bytesetSmallSpec) false w args)
      (Rows.bytesetSmallSpec.post enc Tryd.prog Tryd.f5 false true false false) := by
  refine returnsInHanded_of_change_and (C := Tryd.checked) (X := fun w _ => laidMetH Tryd.prog Rows.bytesetSmallRow.laid w) (fun _ _ _ hh h => h.of_heap hh) noKnob started (by kernel_rfl) Tryd.func5
    (ChangeSpec.witness_shaped (enc := enc) (C := Tryd.checked) (os := os) (X := fun w _ => laidMetH Tryd.prog Rows.bytesetSmallRow.laid w) false (World.laidAll Tryd.prog os Rows.bytesetSmallRow.laid) #[.int .u8 0, .int .u8 0, .int .u8 0, .int .u8 0] 8 (World.laidAll_os _ _ _)
      (World.shaped_of_ZipB (by kernel_rfl) (by kernel_rfl)) (by kernel_rfl) (by kernel_rfl) (by kernel_rfl)
      (by rw [MakeChecks.laidMetH_plain _ _ _ (by kernel_rfl)]; exact laidMet_laidAll _ (by kernel_rfl) (by kernel_rfl))) ?_
  intro W base args ds gs before hval0 hW hcnd _ hL _
  have hval : ∀ (j : Nat) t v, Tryd.f5.params[j]? = some t → args[j]? = some v → Value.okWide Tryd.prog W .any base t v := hval0
  have hW' := hW
  obtain ⟨p, q, hA0, hV, rfl, hfz, hnd⟩ := hW
  have hA : DataW.TrodAll enc Tryd.prog W 0 (fun _ => true) true Tryd.f5.params.toList args.toList ds p := hA0
  rw [Tryd.params5] at hA hval
  obtain ⟨v0, vs0, d0, ds0, p0, q0, hargs, rfl, rfl, h0, r0⟩ := trodAll_cons hA
  obtain ⟨v1, vs1, d1, ds1, p1, q1, rfl, rfl, rfl, h1, r1⟩ := trodAll_cons r0
  obtain ⟨v2, vs2, d2, ds2, p2, q2, rfl, rfl, rfl, h2, r2⟩ := trodAll_cons r1
  obtain ⟨v3, vs3, d3, ds3, p3, q3, rfl, rfl, rfl, h3, r3⟩ := trodAll_cons r2
  obtain ⟨rfl, rfl, rfl⟩ := trodAll_nil r3
  obtain rfl : args = #[v0, v1, v2, v3] := by cases args; simp_all
  obtain ⟨rfl, rfl⟩ := trodVars_none hV
  clear hA0 hval0 hA
  simp only [List.append_nil] at hW'
  have hlt := hW'.lt
  obtain ⟨x0, rfl, rfl, rfl, w0⟩ := open_int Tryd.underlying5 (hval 0 5 v0 rfl rfl) h0
  have b0 := bounds_u8 w0
  obtain ⟨x1, rfl, rfl, rfl, w1⟩ := open_int Tryd.underlying5 (hval 1 5 v1 rfl rfl) h1
  have b1 := bounds_u8 w1
  obtain ⟨x2, rfl, rfl, rfl, w2⟩ := open_int Tryd.underlying5 (hval 2 5 v2 rfl rfl) h2
  have b2 := bounds_u8 w2
  obtain ⟨x3, rfl, rfl, rfl, w3⟩ := open_int Tryd.underlying5 (hval 3 5 v3 rfl rfl) h3
  have b3 := bounds_u8 w3
  have hTD := tab_of_laid hL (MakeChecks.laidMetH_plain _ _ _ (by kernel_rfl)) (by kernel_rfl)
  refine (walk x0 x1 x2 x3 b0 b1 b2 b3 W hTD).mono fun e W' ⟨he, hg⟩ => ?_
  subst he
  exact ⟨_, rfl, post_of_old (pv := []) hW' (fun _ _ _ => trodAll_cons_mk (shut_bool Tryd.underlying4 _) trodAll_mk0) (trodAll_cons_mk (Below.trod laidOutP (by kernel_rfl) (of_decide_eq_true (by kernel_rfl)) h0 hg (fun x hx => by simp at hx)) (trodAll_cons_mk (Below.trod laidOutP (by kernel_rfl) (of_decide_eq_true (by kernel_rfl)) h1 hg (fun x hx => by simp at hx)) (trodAll_cons_mk (Below.trod laidOutP (by kernel_rfl) (of_decide_eq_true (by kernel_rfl)) h2 hg (fun x hx => by simp at hx)) (trodAll_cons_mk (Below.trod laidOutP (by kernel_rfl) (of_decide_eq_true (by kernel_rfl)) h3 hg (fun x hx => by simp at hx)) (trodAll_mk0))))) (fun _ => rfl) (by simp) hg⟩

theorem over : Rows.bytesetSmallRow.holds Tryd.pinned (OpenSpec.ofChange Rows.bytesetSmallSpec) :=
  OpenClaim.holds_of_wide 5 Tryd.f5 rfl rfl rfl rfl rfl rfl rfl ⟨rfl, rfl, rfl, rfl, rfl⟩ rfl rfl rfl rfl rfl (by kernel_rfl) Tryd.func5 (by kernel_rfl)
    (of_decide_eq_true (by kernel_rfl)) (by unfold Func.isWrapper; first | (rw [if_pos (by decide +kernel)]; kernel_rfl) | (rw [if_neg (by decide +kernel)]; exact ⟨rfl, rfl⟩))
    (fun os started H enc _ => lifted os started H enc)

/-- No parameter wants a stand-in. -/
theorem plain (f : FuncId) (fn : Func) (hf : Tryd.pinned.checked.prog.funcNamed "reglet/regletlaw01.BytesetSmall" = some f) (hfn : Tryd.pinned.checked.prog.funcs[f]? = some fn) :
    false = Tryd.pinned.checked.prog.looks [] ∧ ∀ (j : Nat) t, fn.params[j]? = some t → Tryd.pinned.checked.prog.wantsStandIn t = false := by
  obtain rfl : f = 5 := Option.some.inj ((show Tryd.prog.funcNamed "reglet/regletlaw01.BytesetSmall" = some 5 by kernel_rfl).symm.trans hf) |>.symm
  obtain rfl : fn = Tryd.f5 := (Option.some.inj (Tryd.func5.symm.trans hfn)).symm
  refine ⟨by kernel_rfl, fun j t ht => ?_⟩
  rw [Tryd.params5] at ht
  have hm : t ∈ [5, 5, 5, 5] := by simpa using Array.mem_of_getElem? ht
  have hall : ([5, 5, 5, 5].all fun u => !Tryd.prog.wantsStandIn u) = true := by kernel_rfl
  exact (show Tryd.prog.wantsStandIn t = false by simpa using List.all_eq_true.1 hall t hm)

/-- The statement. -/
theorem proved : Rows.BytesetSmallCardSaid :=
  Claim7.holds_tied_plain_at .later [] _ _ _ _ over (fun _ h => by cases h) (by kernel_rfl) (fun _ h => by cases h) bytesetSmall_row_tie rfl ⟨rfl, rfl⟩ (by kernel_rfl) rfl plain (by kernel_rfl)

#print axioms proved
end Go.Proofs.YtchicecmoknkjaaDoor.bytesetSmall
