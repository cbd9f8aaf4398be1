/- What sequence returns: the ranges of bytes of a part; memory that was there stays as it was. -/
import Derived.Test.YtdcjlncbchhanaaBytes
namespace Go.Proofs.Ytdcjlncbchhanaa
open Go.RowKit
set_option linter.unusedVariables false
set_option linter.unusedSimpArgs false

/-- The cells of a list of pairs. -/
def pcells (l : List (Int × Int)) : List Value := l.flatMap fun r => [.int .i64 r.1, .int .i64 r.2]

/-- The call returns a slice of its own that holds these ranges. -/
def GivesSeq (s : List (Int × Int)) (w : World) (e : Ending) (w' : World) : Prop := GivesRow 40 2 s.length (pcells s) w e w'

theorem rmake_1 (w : World) : (Instr.makeSlice 37 (.int .i64 1) (.int .i64 1)).run Try.prog w = .ok (.slice (some ⟨w.heap.size, 0, none⟩) 1 1) (w.alloc (.cells #[.int .i64 0, .int .i64 0] 40)) := by kernel_rfl
theorem rmake_2 (w : World) : (Instr.makeSlice 37 (.int .i64 2) (.int .i64 2)).run Try.prog w = .ok (.slice (some ⟨w.heap.size, 0, none⟩) 2 2) (w.alloc (.cells #[.int .i64 0, .int .i64 0, .int .i64 0, .int .i64 0] 40)) := by kernel_rfl
theorem rmake_3 (w : World) : (Instr.makeSlice 37 (.int .i64 3) (.int .i64 3)).run Try.prog w = .ok (.slice (some ⟨w.heap.size, 0, none⟩) 3 3) (w.alloc (.cells #[.int .i64 0, .int .i64 0, .int .i64 0, .int .i64 0, .int .i64 0, .int .i64 0] 40)) := by kernel_rfl
theorem rmake_4 (w : World) : (Instr.makeSlice 37 (.int .i64 4) (.int .i64 4)).run Try.prog w = .ok (.slice (some ⟨w.heap.size, 0, none⟩) 4 4) (w.alloc (.cells #[.int .i64 0, .int .i64 0, .int .i64 0, .int .i64 0, .int .i64 0, .int .i64 0, .int .i64 0, .int .i64 0] 40)) := by kernel_rfl

set_option maxRecDepth 100000 in
set_option maxHeartbeats 2000000 in
theorem seq_1 (lo hi a0 b0 : Int) (ha : encS lo = [a0]) (hb : encS hi = [b0]) (w : World) :
    Calls Try.prog 22 #[.int .i64 lo, .int .i64 hi] w (GivesRow 40 2 1 [.int .i64 a0, .int .i64 b0] w) := by
  have HA := Lib.hid ha
  have HB := Lib.hid hb
  clear ha hb
  have hmk := rmake_1
  go_enter Try.func22, Try.ntmps22
  go_wp2_with fail
  refine (bytes_any lo _).mono ?_
  rw [HA.out]
  rintro e w1 ⟨v1, rfl, hv1, hb1⟩
  obtain ⟨g1, cap1, rfl⟩ := (row_forms hv1).resolve_left (fun h => by cases h.2)
  go_wp2_with fail
  refine (bytes_any hi _).mono ?_
  rw [HB.out]
  rintro e w2 ⟨v2, rfl, hv2, hb2⟩
  obtain ⟨g2, cap2, rfl⟩ := (row_forms hv2).resolve_left (fun h => by cases h.2)
  have hv1' := row_below hv1 hb2
  have c0 := row_cell hv1' (j := 0) rfl
  have d0 := row_cell hv2 (j := 0) rfl
  obtain ⟨_, _, _, k1⟩ := row_base hv1'
  obtain ⟨_, _, _, k2⟩ := row_base hv2
  have HW := below_then hb1 hb2
  clear hv1 hv2 hv1' hb1 hb2
  simp only [List.length_cons, List.length_nil, Nat.zero_add, Nat.reduceAdd]
  go_wp2
  refine wp_loop_rounds 2 ?_
  rw [rounds_succ]
  go_wp2
  go_region
  go_wp2
  rw [rounds_succ]
  go_wp2
  go_ret
  exact gives_in (w2 := w2) (cs := #[.int .i64 a0, .int .i64 b0]) (by omega) rfl rfl rfl HW.size (by show (w2.heap.push _)[w2.heap.size]? = _; simp) (by go_grown)

set_option maxRecDepth 100000 in
set_option maxHeartbeats 2000000 in
theorem seq_2 (lo hi a0 a1 b0 b1 : Int) (ha : encS lo = [a0, a1]) (hb : encS hi = [b0, b1]) (w : World) :
    Calls Try.prog 22 #[.int .i64 lo, .int .i64 hi] w (GivesRow 40 2 2 [.int .i64 a0, .int .i64 b0, .int .i64 a1, .int .i64 b1] w) := by
  have HA := Lib.hid ha
  have HB := Lib.hid hb
  clear ha hb
  have hmk := rmake_2
  go_enter Try.func22, Try.ntmps22
  go_wp2_with fail
  refine (bytes_any lo _).mono ?_
  rw [HA.out]
  rintro e w1 ⟨v1, rfl, hv1, hb1⟩
  obtain ⟨g1, cap1, rfl⟩ := (row_forms hv1).resolve_left (fun h => by cases h.2)
  go_wp2_with fail
  refine (bytes_any hi _).mono ?_
  rw [HB.out]
  rintro e w2 ⟨v2, rfl, hv2, hb2⟩
  obtain ⟨g2, cap2, rfl⟩ := (row_forms hv2).resolve_left (fun h => by cases h.2)
  have hv1' := row_below hv1 hb2
  have c0 := row_cell hv1' (j := 0) rfl
  have d0 := row_cell hv2 (j := 0) rfl
  have c1 := row_cell hv1' (j := 1) rfl
  have d1 := row_cell hv2 (j := 1) rfl
  obtain ⟨_, _, _, k1⟩ := row_base hv1'
  obtain ⟨_, _, _, k2⟩ := row_base hv2
  have HW := below_then hb1 hb2
  clear hv1 hv2 hv1' hb1 hb2
  simp only [List.length_cons, List.length_nil, Nat.zero_add, Nat.reduceAdd]
  go_wp2
  refine wp_loop_rounds 3 ?_
  rw [rounds_succ]
  go_wp2
  go_region
  go_wp2
  rw [rounds_succ]
  go_wp2
  go_region
  go_wp2
  rw [rounds_succ]
  go_wp2
  go_ret
  exact gives_in (w2 := w2) (cs := #[.int .i64 a0, .int .i64 b0, .int .i64 a1, .int .i64 b1]) (by omega) rfl rfl rfl HW.size (by show (w2.heap.push _)[w2.heap.size]? = _; simp) (by go_grown)

set_option maxRecDepth 100000 in
set_option maxHeartbeats 2000000 in
theorem seq_3 (lo hi a0 a1 a2 b0 b1 b2 : Int) (ha : encS lo = [a0, a1, a2]) (hb : encS hi = [b0, b1, b2]) (w : World) :
    Calls Try.prog 22 #[.int .i64 lo, .int .i64 hi] w (GivesRow 40 2 3 [.int .i64 a0, .int .i64 b0, .int .i64 a1, .int .i64 b1, .int .i64 a2, .int .i64 b2] w) := by
  have HA := Lib.hid ha
  have HB := Lib.hid hb
  clear ha hb
  have hmk := rmake_3
  go_enter Try.func22, Try.ntmps22
  go_wp2_with fail
  refine (bytes_any lo _).mono ?_
  rw [HA.out]
  rintro e w1 ⟨v1, rfl, hv1, hb1⟩
  obtain ⟨g1, cap1, rfl⟩ := (row_forms hv1).resolve_left (fun h => by cases h.2)
  go_wp2_with fail
  refine (bytes_any hi _).mono ?_
  rw [HB.out]
  rintro e w2 ⟨v2, rfl, hv2, hb2⟩
  obtain ⟨g2, cap2, rfl⟩ := (row_forms hv2).resolve_left (fun h => by cases h.2)
  have hv1' := row_below hv1 hb2
  have c0 := row_cell hv1' (j := 0) rfl
  have d0 := row_cell hv2 (j := 0) rfl
  have c1 := row_cell hv1' (j := 1) rfl
  have d1 := row_cell hv2 (j := 1) rfl
  have c2 := row_cell hv1' (j := 2) rfl
  have d2 := row_cell hv2 (j := 2) rfl
  obtain ⟨_, _, _, k1⟩ := row_base hv1'
  obtain ⟨_, _, _, k2⟩ := row_base hv2
  have HW := below_then hb1 hb2
  clear hv1 hv2 hv1' hb1 hb2
  simp only [List.length_cons, List.length_nil, Nat.zero_add, Nat.reduceAdd]
  go_wp2
  refine wp_loop_rounds 4 ?_
  rw [rounds_succ]
  go_wp2
  go_region
  go_wp2
  rw [rounds_succ]
  go_wp2
  go_region
  go_wp2
  rw [rounds_succ]
  go_wp2
  go_region
  go_wp2
  rw [rounds_succ]
  go_wp2
  go_ret
  exact gives_in (w2 := w2) (cs := #[.int .i64 a0, .int .i64 b0, .int .i64 a1, .int .i64 b1, .int .i64 a2, .int .i64 b2]) (by omega) rfl rfl rfl HW.size (by show (w2.heap.push _)[w2.heap.size]? = _; simp) (by go_grown)

set_option maxRecDepth 100000 in
set_option maxHeartbeats 2000000 in
theorem seq_4 (lo hi a0 a1 a2 a3 b0 b1 b2 b3 : Int) (ha : encS lo = [a0, a1, a2, a3]) (hb : encS hi = [b0, b1, b2, b3]) (w : World) :
    Calls Try.prog 22 #[.int .i64 lo, .int .i64 hi] w (GivesRow 40 2 4 [.int .i64 a0, .int .i64 b0, .int .i64 a1, .int .i64 b1, .int .i64 a2, .int .i64 b2, .int .i64 a3, .int .i64 b3] w) := by
  have HA := Lib.hid ha
  have HB := Lib.hid hb
  clear ha hb
  have hmk := rmake_4
  go_enter Try.func22, Try.ntmps22
  go_wp2_with fail
  refine (bytes_any lo _).mono ?_
  rw [HA.out]
  rintro e w1 ⟨v1, rfl, hv1, hb1⟩
  obtain ⟨g1, cap1, rfl⟩ := (row_forms hv1).resolve_left (fun h => by cases h.2)
  go_wp2_with fail
  refine (bytes_any hi _).mono ?_
  rw [HB.out]
  rintro e w2 ⟨v2, rfl, hv2, hb2⟩
  obtain ⟨g2, cap2, rfl⟩ := (row_forms hv2).resolve_left (fun h => by cases h.2)
  have hv1' := row_below hv1 hb2
  have c0 := row_cell hv1' (j := 0) rfl
  have d0 := row_cell hv2 (j := 0) rfl
  have c1 := row_cell hv1' (j := 1) rfl
  have d1 := row_cell hv2 (j := 1) rfl
  have c2 := row_cell hv1' (j := 2) rfl
  have d2 := row_cell hv2 (j := 2) rfl
  have c3 := row_cell hv1' (j := 3) rfl
  have d3 := row_cell hv2 (j := 3) rfl
  obtain ⟨_, _, _, k1⟩ := row_base hv1'
  obtain ⟨_, _, _, k2⟩ := row_base hv2
  have HW := below_then hb1 hb2
  clear hv1 hv2 hv1' hb1 hb2
  simp only [List.length_cons, List.length_nil, Nat.zero_add, Nat.reduceAdd]
  go_wp2
  refine wp_loop_rounds 5 ?_
  rw [rounds_succ]
  go_wp2
  go_region
  go_wp2
  rw [rounds_succ]
  go_wp2
  go_region
  go_wp2
  rw [rounds_succ]
  go_wp2
  go_region
  go_wp2
  rw [rounds_succ]
  go_wp2
  go_region
  go_wp2
  rw [rounds_succ]
  go_wp2
  go_ret
  exact gives_in (w2 := w2) (cs := #[.int .i64 a0, .int .i64 b0, .int .i64 a1, .int .i64 b1, .int .i64 a2, .int .i64 b2, .int .i64 a3, .int .i64 b3]) (by omega) rfl rfl rfl HW.size (by show (w2.heap.push _)[w2.heap.size]? = _; simp) (by go_grown)

theorem encS_yes {c : Int} (h0 : 0 ≤ c) (h1 : c ≤ 1114111) (hg : c < 55296 ∨ 57343 < c) : encS c = enc c := by
  unfold encS
  rw [if_pos (isSc_yes (by omega))]

theorem seq_any (lo hi : Int) (h : Good lo hi) (w : World) : Calls Try.prog 22 #[.int .i64 lo, .int .i64 hi] w (GivesSeq (seqOf (lo, hi)) w) := by
  have hw := h.ways
  obtain ⟨h0, h1, h2, h3, _⟩ := h
  have ea := encS_yes (c := lo) (by omega) (by omega) (by omega)
  have eb := encS_yes (c := hi) (by omega) (by omega) (by omega)
  unfold seqOf
  by_cases q1 : hi ≤ 127
  · rw [enc1 (show lo < 128 by omega)] at ea ⊢
    rw [enc1 (show hi < 128 by omega)] at eb ⊢
    exact seq_1 lo hi _ _ ea eb w
  obtain ⟨g0, gw, g2, g3⟩ := hw.resolve_left q1
  by_cases q2 : hi ≤ 2047
  · rw [enc2 (show 128 ≤ lo by omega) (show lo < 2048 by omega)] at ea ⊢
    rw [enc2 (show 128 ≤ hi by omega) (show hi < 2048 by omega)] at eb ⊢
    exact seq_2 lo hi _ _ _ _ ea eb w
  by_cases q3 : hi ≤ 65535
  · rw [enc3 (show 2048 ≤ lo by omega) (show lo < 65536 by omega)] at ea ⊢
    rw [enc3 (show 2048 ≤ hi by omega) (show hi < 65536 by omega)] at eb ⊢
    exact seq_3 lo hi _ _ _ _ _ _ ea eb w
  · rw [enc4 (show 65536 ≤ lo by omega)] at ea ⊢
    rw [enc4 (show 65536 ≤ hi by omega)] at eb ⊢
    exact seq_4 lo hi _ _ _ _ _ _ _ _ ea eb w

end Go.Proofs.Ytdcjlncbchhanaa
