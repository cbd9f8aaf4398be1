/- The iterator over a set's bytes, bit by bit: for every loop body that keeps the set's box and the library's table, its rounds are given the set's bytes in ascending order. -/
import Derived.RangeFuncNested
import Derived.RangeFuncBound
import Derived.RangeFuncCalls
import Derived.RangeFuncLeaves
import Derived.RangeFuncBox
import Derived.Shelf.Abstract
import Derived.Shelf.RegionOpen
import Derived.OwnWalkIn
import Derived.TacticsInMore
import Derived.LoopNIn
import Derived.LoopIn
import Derived.Lib.LaidTab
import Derived.Lib.SmallJoins
import Derived.Laws.Bits64b
import Derived.Test.YtclnadjgbpihcaaGreatDoorBit
namespace Go.Proofs.YtclnadjgbpihcaaGreatDoor
open Go.RowKit Go.Shelf
attribute [local go_sem] Oper.semAt_some
set_option linter.unusedVariables false
set_option linter.unusedSimpArgs false

/-- The library's table, as the rows list it. -/
def bruijnTab : List Int := [0, 1, 56, 2, 57, 49, 28, 3, 61, 58, 42, 50, 38, 29, 17, 4, 62, 47, 59, 36, 45, 43, 51, 22, 53, 39, 33, 30, 24, 18, 12, 5, 63, 55, 48, 27, 60, 41, 37, 16, 46, 35, 44, 21, 52, 32, 23, 11, 54, 26, 40, 15, 34, 20, 31, 10, 25, 14, 19, 9, 13, 8, 7, 6]
theorem bruijn_at (k : Nat) (h : k < 64) : bruijnTab.getD k 0 = ((Lib.deBruijn64tab.getD k 0 : Nat) : Int) := by
  have key : ∀ i : Fin 64, bruijnTab.getD i.val 0 = ((Lib.deBruijn64tab.getD i.val 0 : Nat) : Int) := by decide +kernel
  exact key ⟨k, h⟩
def TabD (W : World) : Prop := Lib.TabIs Tryz.prog W "math/bits.deBruijn64tab" .u8 bruijnTab
theorem TabD.below {B : Nat} {wB W : World} (h : TabD wB) (hb : Below B wB W) (hB : wB.heap.size ≤ B) : TabD W := Go.Joins.tab_stays (g := 1) (by kernel_rfl) h hb hB
theorem TabD.stays {w W : World} (h : TabD w) (hb : Below w.heap.size w W) : TabD W := h.below hb (Nat.le_refl _)

theorem tz_key (x a : Nat) (hx : x < 18446744073709551616) (hx0 : x ≠ 0) (hlow : x &&& (18446744073709551616 - x) = a) :
    IntKind.u64.wrap (bits BinOp.and IntKind.u64 (x : Int) (IntKind.u64.wrap (-(x : Int))) * 285870213051353865) / 288230376151711744 = ((a * 285870213051353865 % 18446744073709551616 / 288230376151711744 : Nat) : Int) := by
  have e1 : IntKind.u64.wrap (-(x : Int)) = ((18446744073709551616 - x : Nat) : Int) := by rw [IntKind.wrap_u64]; omega
  rw [e1, bits_and_u64_nat x _ hx (by omega), hlow, IntKind.wrap_u64]
  omega

set_option maxHeartbeats 1000000 in
theorem tz_core (x k idx : Nat) (w : World) (hz : ((x : Int) == 0) = false) (key : IntKind.u64.wrap (bits BinOp.and IntKind.u64 (x : Int) (IntKind.u64.wrap (-(x : Int))) * 285870213051353865) / 288230376151711744 = (idx : Int))
    (hi : idx < 64) (hk : k < 64) (hc : w.cell? ⟨1, idx, none⟩ = some (.int .u8 (k : Int))) :
    Calls Tryz.prog 104 #[.int .u64 x] w fun e w' => e = .returned (.int .i64 (k : Int)) ∧ w' = w := by
  go_enter Tryz.func104, Tryz.ntmps104
  go_wp2_with (simp only [key])
  go_ret
  exact ⟨rfl, rfl⟩
theorem tab_cell {w : World} (hT : TabD w) (idx : Nat) (hi : idx < 64) : w.cell? ⟨1, idx, none⟩ = some (.int .u8 ((Lib.deBruijn64tab.getD idx 0 : Nat) : Int)) := by
  have h := Lib.TabIs.cell hT (g := 1) (by kernel_rfl) idx (by rw [show bruijnTab.length = 64 from rfl]; exact hi)
  rw [bruijn_at idx hi] at h
  exact h
theorem tz_any (x : Nat) (hx : x < 18446744073709551616) (hx0 : x ≠ 0) (w : World) (hT : TabD w) :
    Calls Tryz.prog 104 #[.int .u64 x] w fun e w' => e = .returned (.int .i64 (Lib.ctz 64 x : Int)) ∧ w' = w := by
  obtain ⟨hlow, hk⟩ := Lib.lowest_bit 64 x hx0 hx
  obtain ⟨h1, h2⟩ := Lib.deBruijn64_at _ hk
  have key := tz_key x _ hx hx0 hlow
  have hc := tab_cell hT _ h1
  rw [h2] at hc
  exact tz_core x _ _ w (by simpa using hx0) key h1 hk hc

/-- What a round keeps: the box of the set, and the library's table. -/
def KeepsBox (B : Nat) (W W' : World) : Prop := W'.heap[B]? = W.heap[B]? ∧ (TabD W → TabD W')

theorem keepsBox_t {B : Nat} {X Y Z : World} (h : KeepsBox B X Y) (k : KeepsBox B Y Z) : KeepsBox B X Z := ⟨k.1.trans h.1, fun t => k.2 (h.2 t)⟩
theorem TabD.heap {W W' : World} (h : TabD W) (e : W'.heap[1]? = W.heap[1]?) : TabD W' := by
  unfold TabD Lib.TabIs at h ⊢
  rw [← h]
  have hg : Tryz.prog.globalNamed "math/bits.deBruijn64tab" = some 1 := by kernel_rfl
  unfold World.var?
  rw [hg]
  simp only [Option.bind_some, e]
theorem keepsBox_b {B : Nat} {w : World} (hB : B < w.heap.size) (hg : 1 < w.heap.size) (W : World) (l : Nat) (o o' : Obj) (hl : w.heap.size ≤ l) (_ : W.heap[l]? = some o) (_ : o.isCells = false) (_ : o.isWalk = false) : KeepsBox B W (W.putObj l o') :=
  ⟨World.putObj_heap_other (by omega), fun h => h.heap (World.putObj_heap_other (by omega))⟩

theorem abides_alloc {β : Type} {B : Nat} {J : β → World → Prop} (h : AbidesFrom B J) {s : β} {W : World} (hs : J s W) (o : Obj) : J s (W.alloc o) :=
  h s W _ none hs (World.grownBy_alloc W o none) (fun r e => by cases e)

theorem IsSet.lefts {a0 a1 a2 a3 : Int} {f : Nat → Bool} (h : IsSet a0 a1 a2 a3 f) : a0 = (left f 0 0 : Int) ∧ a1 = (left f 64 64 : Int) ∧ a2 = (left f 128 128 : Int) ∧ a3 = (left f 192 192 : Int) := by
  obtain ⟨h0, h1, h2, h3⟩ := h
  have e0 := left_all f 0
  simp only [Nat.zero_add] at e0
  exact ⟨by rw [h0, e0], by rw [h1, left_all], by rw [h2, left_all], by rw [h3, left_all]⟩

theorem index4 (a0 a1 a2 a3 : Int) (w : World) (k : Nat) (x : Int) (h : #[Value.int .u64 a0, Value.int .u64 a1, Value.int .u64 a2, Value.int .u64 a3][k]? = some (.int .u64 x)) :
    (Instr.index 25 (.agg #[.int .u64 a0, .int .u64 a1, .int .u64 a2, .int .u64 a3]) (.int .i64 (k : Int))).run Tryz.prog w = .ok (.int .u64 x) w := by
  have hk : k < 4 := by have := (Array.getElem?_eq_some_iff.1 h).1; simpa using this
  obtain rfl | rfl | rfl | rfl : k = 0 ∨ k = 1 ∨ k = 2 ∨ k = 3 := by omega
  all_goals
    simp at h
    subst h
    simp [Instr.index, run_underlying Tryz.underlying25, asIntOf, go_sem]

set_option maxRecDepth 100000 in
set_option maxHeartbeats 4000000 in
theorem members1_in (n : Nat) (hn : 1 ≤ n) (l Bs B : Nat) (a0 a1 a2 a3 : Int) (f : Nat → Bool) (ha : IsSet a0 a1 a2 a3 f) (J Jx : List B8 → World → Prop) (hJ : AbidesFrom B J)
    (hY : ∀ pre (x : B8) W, J pre W → pre.length < 256 → YieldAt Fence.wide (n - 1) Tryz.prog l #[.int .i64 (x.1 : Int)] W fun e W' =>
      (e = .returned (.bool true) ∧ J (pre ++ [x]) W' ∧ KeepsBox Bs W W') ∨ (e = .returned (.bool false) ∧ Jx (pre ++ [x]) W'))
    (W : World) (hBs : Box4 W Bs a0 a1 a2 a3) (hTB : TabD W) (h0 : J [] W) :
    CallsIn Fence.wide n Tryz.prog 103 #[.func (.yield l) #[] #[], .pointer (some ⟨Bs, 0, none⟩)] W fun e W' => (∃ v, e = .returned v) ∧
      ((∃ ys, ys = els f 256 ∧ J ys W') ∨ (∃ pre, True ∧ Jx pre W')) := by
  obtain ⟨E, hE⟩ : ∃ E, E = els f 256 := ⟨_, rfl⟩
  rw [← hE]
  have HE := Lib.hid hE
  clear hE
  have hc0 := hBs.cell0
  have hc1 := hBs.cell1
  have hc2 := hBs.cell2
  have hc3 := hBs.cell3
  have HA := Lib.hid ha.lefts
  have HTB := Lib.hid hTB
  have HY := Lib.hid hY
  clear ha hTB hY hBs
  refine callsIn_of_wp Tryz.func103 rfl trivial ?_ rfl
  simp only [Tryz.ntmps103, List.size_toArray, List.length_cons, List.length_nil, Nat.reduceAdd, Nat.reduceSub, Array.replicate_succ, Array.replicate_zero, List.push_toArray, List.append_toArray, List.nil_append, List.cons_append]
  gi_wp2
  gi_loopw [6] (fun i wr => ∃ k : Nat, k ≤ 4 ∧ i = .int .i64 (k : Int) ∧ J (els f (64 * k)) wr ∧ Hid (TabD wr))
    (fun i _ => 4 - (intOf i).toNat)
  case atStart => exact ⟨0, Nat.zero_le _, rfl, h0, HTB⟩
  case round =>
    obtain ⟨k, hk, rfl, hJs, HT⟩ := hrel
    obtain ⟨wo, hwo⟩ : ∃ x : World, x = wr := ⟨_, rfl⟩
    subst hwo
    by_cases hlt : k < 4
    · obtain rfl | rfl | rfl | rfl : k = 0 ∨ k = 1 ∨ k = 2 ∨ k = 3 := by omega
      · have hX9 : ∀ w, (Instr.index 25 (.agg #[.int .u64 a0, .int .u64 a1, .int .u64 a2, .int .u64 a3]) (.int .i64 0)).run Tryz.prog w = .ok (.int .u64 a0) w := fun w => index4 a0 a1 a2 a3 w 0 a0 rfl
        rw [show ((0 : Nat) : Int) = 0 from rfl]
        gi_wp2
        clear hX9
        gi_loopw [4] (fun v wr => ∃ j : Nat, 0 ≤ j ∧ j ≤ 0 + 64 ∧ v = .int .u64 (left f j 0 : Int) ∧ J (els f j) wr ∧ Hid (TabD wr)) (fun v _ => (intOf v).toNat)
        case atStart => exact ⟨0, Nat.le_refl _, by omega, by rw [HA.out.1], hJs, HT⟩
        case round =>
          obtain ⟨j, hj1, hj2, rfl, hJj, HTj⟩ := hrel
          obtain ⟨X, hX⟩ : ∃ X, X = left f j 0 := ⟨_, rfl⟩
          have hXl : X < 18446744073709551616 := by rw [hX]; exact left_lt f j _
          rw [← hX]
          by_cases h0X : X = 0
          · have hz : ((X : Int) == 0) = true := by simp [h0X]
            have He2 : Hid (els f (64 * (0 + 1)) = els f j) := left_none (hX ▸ h0X) hj1 hj2
            clear hX
            gi_wp2
            go_roundw
            case rel => exact ⟨0 + 1, by omega, by go_num, by rw [He2.out]; exact hJj, HTj⟩
            case measure => simp [intOf]
          · have hz : ((X : Int) == 0) = false := by simpa using h0X
            have HXX := Lib.hid hX
            obtain ⟨s1, s2, s3, s4, s5⟩ := left_some (f := f) (k := j) (d := 0) (hX ▸ h0X) hj1
            rw [← hX] at s1 s2 s3 s4 s5
            have hc9 : ∀ W, TabD W → Calls Tryz.prog 104 #[.int .u64 (X : Int)] W fun e w' => e = .returned (.int .i64 (Lib.ctz 64 X : Int)) ∧ w' = W := fun W hW => tz_any X hXl h0X W hW
            have hlo : bits .and .u64 (X : Int) ((X : Int) - 1) = ((X &&& (X - 1) : Nat) : Int) := by
              have h := bits_low X h0X (by rw [two64]; exact hXl)
              rw [show IntKind.u64.wrap ((X : Int) - 1) = (X : Int) - 1 from by rw [wrap_u64]; omega] at h
              exact h
            have hle : (X &&& (X - 1)) < X := Nat.lt_of_le_of_lt Nat.and_le_right (by omega)
            rw [s5] at hlo hle
            rw [Nat.zero_add] at hlo hle
            generalize Lib.ctz 64 X = c at s1 s2 s3 s4 hc9 hlo hle
            have hb : 0 + c < 256 := by omega
            have HJ2 : Hid (els f (0 + c + 1) = els f j ++ [⟨0 + c, hb⟩]) := by unfold Hid; rw [els_yes hb s3, s4]
            have hYY := HY.out _ ⟨0 + c, hb⟩ _ hJj (Nat.lt_of_le_of_lt (els_len f j) (by omega))
            dsimp only at hYY
            rw [show ((0 + c : Nat) : Int) = (c : Int) from by omega] at hYY
            obtain ⟨fn, tmps, assign, body, hy, hR⟩ := hYY
            have HR := Lib.hid hR
            have HS := Lib.hid s2
            clear hR hX s3 s4 s5 s2
            gi_wp2_with (refine ⟨trivial, ?_⟩; gi_at_call 104; refine (callsIn_wide.2 (hc9 _ HTj.out)).mono ?_; rintro e w' ⟨rfl, rfl⟩)
            have HL := Lib.hid hle
            refine HR.out.mono ?_
            rintro e W3 (⟨rfl, hJ3, hk3⟩ | ⟨rfl, hJx3⟩)
            · have HT3 : Hid (TabD W3) := hk3.2 HTj.out
              gi_wp2
              go_roundw
              case rel => exact ⟨0 + c + 1, by omega, by omega, by first | rfl | (rw [hlo]) | (rw [Nat.zero_add]), by rw [HJ2.out]; exact hJ3, HT3⟩
              case measure => simp only [intOf, hlo]; have := HL.out; omega
            · gi_wp2
              refine bodyPost_ret (results_none rfl _ _ _) rfl ?_
              exact ⟨⟨_, rfl⟩, .inr ⟨_, trivial, hJx3⟩⟩
      · have hX9 : ∀ w, (Instr.index 25 (.agg #[.int .u64 a0, .int .u64 a1, .int .u64 a2, .int .u64 a3]) (.int .i64 1)).run Tryz.prog w = .ok (.int .u64 a1) w := fun w => index4 a0 a1 a2 a3 w 1 a1 rfl
        rw [show ((1 : Nat) : Int) = 1 from rfl]
        gi_wp2
        clear hX9
        gi_loopw [4] (fun v wr => ∃ j : Nat, 64 ≤ j ∧ j ≤ 64 + 64 ∧ v = .int .u64 (left f j 64 : Int) ∧ J (els f j) wr ∧ Hid (TabD wr)) (fun v _ => (intOf v).toNat)
        case atStart => exact ⟨64, Nat.le_refl _, by omega, by rw [HA.out.2.1], hJs, HT⟩
        case round =>
          obtain ⟨j, hj1, hj2, rfl, hJj, HTj⟩ := hrel
          obtain ⟨X, hX⟩ : ∃ X, X = left f j 64 := ⟨_, rfl⟩
          have hXl : X < 18446744073709551616 := by rw [hX]; exact left_lt f j _
          rw [← hX]
          by_cases h0X : X = 0
          · have hz : ((X : Int) == 0) = true := by simp [h0X]
            have He2 : Hid (els f (64 * (1 + 1)) = els f j) := left_none (hX ▸ h0X) hj1 hj2
            clear hX
            gi_wp2
            go_roundw
            case rel => exact ⟨1 + 1, by omega, by go_num, by rw [He2.out]; exact hJj, HTj⟩
            case measure => simp [intOf]
          · have hz : ((X : Int) == 0) = false := by simpa using h0X
            have HXX := Lib.hid hX
            obtain ⟨s1, s2, s3, s4, s5⟩ := left_some (f := f) (k := j) (d := 64) (hX ▸ h0X) hj1
            rw [← hX] at s1 s2 s3 s4 s5
            have hc9 : ∀ W, TabD W → Calls Tryz.prog 104 #[.int .u64 (X : Int)] W fun e w' => e = .returned (.int .i64 (Lib.ctz 64 X : Int)) ∧ w' = W := fun W hW => tz_any X hXl h0X W hW
            have hlo : bits .and .u64 (X : Int) ((X : Int) - 1) = ((X &&& (X - 1) : Nat) : Int) := by
              have h := bits_low X h0X (by rw [two64]; exact hXl)
              rw [show IntKind.u64.wrap ((X : Int) - 1) = (X : Int) - 1 from by rw [wrap_u64]; omega] at h
              exact h
            have hle : (X &&& (X - 1)) < X := Nat.lt_of_le_of_lt Nat.and_le_right (by omega)
            rw [s5] at hlo hle
            generalize Lib.ctz 64 X = c at s1 s2 s3 s4 hc9 hlo hle
            have hb : 64 + c < 256 := by omega
            have HJ2 : Hid (els f (64 + c + 1) = els f j ++ [⟨64 + c, hb⟩]) := by unfold Hid; rw [els_yes hb s3, s4]
            have hYY := HY.out _ ⟨64 + c, hb⟩ _ hJj (Nat.lt_of_le_of_lt (els_len f j) (by omega))
            dsimp only at hYY
            rw [show ((64 + c : Nat) : Int) = 64 + (c : Int) from by omega] at hYY
            obtain ⟨fn, tmps, assign, body, hy, hR⟩ := hYY
            have HR := Lib.hid hR
            have HS := Lib.hid s2
            clear hR hX s3 s4 s5 s2
            gi_wp2_with (refine ⟨trivial, ?_⟩; gi_at_call 104; refine (callsIn_wide.2 (hc9 _ HTj.out)).mono ?_; rintro e w' ⟨rfl, rfl⟩)
            have HL := Lib.hid hle
            refine HR.out.mono ?_
            rintro e W3 (⟨rfl, hJ3, hk3⟩ | ⟨rfl, hJx3⟩)
            · have HT3 : Hid (TabD W3) := hk3.2 HTj.out
              gi_wp2
              go_roundw
              case rel => exact ⟨64 + c + 1, by omega, by omega, by first | rfl | (rw [hlo]) | (rw [Nat.zero_add]), by rw [HJ2.out]; exact hJ3, HT3⟩
              case measure => simp only [intOf, hlo]; have := HL.out; omega
            · gi_wp2
              refine bodyPost_ret (results_none rfl _ _ _) rfl ?_
              exact ⟨⟨_, rfl⟩, .inr ⟨_, trivial, hJx3⟩⟩
      · have hX9 : ∀ w, (Instr.index 25 (.agg #[.int .u64 a0, .int .u64 a1, .int .u64 a2, .int .u64 a3]) (.int .i64 2)).run Tryz.prog w = .ok (.int .u64 a2) w := fun w => index4 a0 a1 a2 a3 w 2 a2 rfl
        rw [show ((2 : Nat) : Int) = 2 from rfl]
        gi_wp2
        clear hX9
        gi_loopw [4] (fun v wr => ∃ j : Nat, 128 ≤ j ∧ j ≤ 128 + 64 ∧ v = .int .u64 (left f j 128 : Int) ∧ J (els f j) wr ∧ Hid (TabD wr)) (fun v _ => (intOf v).toNat)
        case atStart => exact ⟨128, Nat.le_refl _, by omega, by rw [HA.out.2.2.1], hJs, HT⟩
        case round =>
          obtain ⟨j, hj1, hj2, rfl, hJj, HTj⟩ := hrel
          obtain ⟨X, hX⟩ : ∃ X, X = left f j 128 := ⟨_, rfl⟩
          have hXl : X < 18446744073709551616 := by rw [hX]; exact left_lt f j _
          rw [← hX]
          by_cases h0X : X = 0
          · have hz : ((X : Int) == 0) = true := by simp [h0X]
            have He2 : Hid (els f (64 * (2 + 1)) = els f j) := left_none (hX ▸ h0X) hj1 hj2
            clear hX
            gi_wp2
            go_roundw
            case rel => exact ⟨2 + 1, by omega, by go_num, by rw [He2.out]; exact hJj, HTj⟩
            case measure => simp [intOf]
          · have hz : ((X : Int) == 0) = false := by simpa using h0X
            have HXX := Lib.hid hX
            obtain ⟨s1, s2, s3, s4, s5⟩ := left_some (f := f) (k := j) (d := 128) (hX ▸ h0X) hj1
            rw [← hX] at s1 s2 s3 s4 s5
            have hc9 : ∀ W, TabD W → Calls Tryz.prog 104 #[.int .u64 (X : Int)] W fun e w' => e = .returned (.int .i64 (Lib.ctz 64 X : Int)) ∧ w' = W := fun W hW => tz_any X hXl h0X W hW
            have hlo : bits .and .u64 (X : Int) ((X : Int) - 1) = ((X &&& (X - 1) : Nat) : Int) := by
              have h := bits_low X h0X (by rw [two64]; exact hXl)
              rw [show IntKind.u64.wrap ((X : Int) - 1) = (X : Int) - 1 from by rw [wrap_u64]; omega] at h
              exact h
            have hle : (X &&& (X - 1)) < X := Nat.lt_of_le_of_lt Nat.and_le_right (by omega)
            rw [s5] at hlo hle
            generalize Lib.ctz 64 X = c at s1 s2 s3 s4 hc9 hlo hle
            have hb : 128 + c < 256 := by omega
            have HJ2 : Hid (els f (128 + c + 1) = els f j ++ [⟨128 + c, hb⟩]) := by unfold Hid; rw [els_yes hb s3, s4]
            have hYY := HY.out _ ⟨128 + c, hb⟩ _ hJj (Nat.lt_of_le_of_lt (els_len f j) (by omega))
            dsimp only at hYY
            rw [show ((128 + c : Nat) : Int) = 128 + (c : Int) from by omega] at hYY
            obtain ⟨fn, tmps, assign, body, hy, hR⟩ := hYY
            have HR := Lib.hid hR
            have HS := Lib.hid s2
            clear hR hX s3 s4 s5 s2
            gi_wp2_with (refine ⟨trivial, ?_⟩; gi_at_call 104; refine (callsIn_wide.2 (hc9 _ HTj.out)).mono ?_; rintro e w' ⟨rfl, rfl⟩)
            have HL := Lib.hid hle
            refine HR.out.mono ?_
            rintro e W3 (⟨rfl, hJ3, hk3⟩ | ⟨rfl, hJx3⟩)
            · have HT3 : Hid (TabD W3) := hk3.2 HTj.out
              gi_wp2
              go_roundw
              case rel => exact ⟨128 + c + 1, by omega, by omega, by first | rfl | (rw [hlo]) | (rw [Nat.zero_add]), by rw [HJ2.out]; exact hJ3, HT3⟩
              case measure => simp only [intOf, hlo]; have := HL.out; omega
            · gi_wp2
              refine bodyPost_ret (results_none rfl _ _ _) rfl ?_
              exact ⟨⟨_, rfl⟩, .inr ⟨_, trivial, hJx3⟩⟩
      · have hX9 : ∀ w, (Instr.index 25 (.agg #[.int .u64 a0, .int .u64 a1, .int .u64 a2, .int .u64 a3]) (.int .i64 3)).run Tryz.prog w = .ok (.int .u64 a3) w := fun w => index4 a0 a1 a2 a3 w 3 a3 rfl
        rw [show ((3 : Nat) : Int) = 3 from rfl]
        gi_wp2
        clear hX9
        gi_loopw [4] (fun v wr => ∃ j : Nat, 192 ≤ j ∧ j ≤ 192 + 64 ∧ v = .int .u64 (left f j 192 : Int) ∧ J (els f j) wr ∧ Hid (TabD wr)) (fun v _ => (intOf v).toNat)
        case atStart => exact ⟨192, Nat.le_refl _, by omega, by rw [HA.out.2.2.2], hJs, HT⟩
        case round =>
          obtain ⟨j, hj1, hj2, rfl, hJj, HTj⟩ := hrel
          obtain ⟨X, hX⟩ : ∃ X, X = left f j 192 := ⟨_, rfl⟩
          have hXl : X < 18446744073709551616 := by rw [hX]; exact left_lt f j _
          rw [← hX]
          by_cases h0X : X = 0
          · have hz : ((X : Int) == 0) = true := by simp [h0X]
            have He2 : Hid (els f (64 * (3 + 1)) = els f j) := left_none (hX ▸ h0X) hj1 hj2
            clear hX
            gi_wp2
            go_roundw
            case rel => exact ⟨3 + 1, by omega, by go_num, by rw [He2.out]; exact hJj, HTj⟩
            case measure => simp [intOf]
          · have hz : ((X : Int) == 0) = false := by simpa using h0X
            have HXX := Lib.hid hX
            obtain ⟨s1, s2, s3, s4, s5⟩ := left_some (f := f) (k := j) (d := 192) (hX ▸ h0X) hj1
            rw [← hX] at s1 s2 s3 s4 s5
            have hc9 : ∀ W, TabD W → Calls Tryz.prog 104 #[.int .u64 (X : Int)] W fun e w' => e = .returned (.int .i64 (Lib.ctz 64 X : Int)) ∧ w' = W := fun W hW => tz_any X hXl h0X W hW
            have hlo : bits .and .u64 (X : Int) ((X : Int) - 1) = ((X &&& (X - 1) : Nat) : Int) := by
              have h := bits_low X h0X (by rw [two64]; exact hXl)
              rw [show IntKind.u64.wrap ((X : Int) - 1) = (X : Int) - 1 from by rw [wrap_u64]; omega] at h
              exact h
            have hle : (X &&& (X - 1)) < X := Nat.lt_of_le_of_lt Nat.and_le_right (by omega)
            rw [s5] at hlo hle
            generalize Lib.ctz 64 X = c at s1 s2 s3 s4 hc9 hlo hle
            have hb : 192 + c < 256 := by omega
            have HJ2 : Hid (els f (192 + c + 1) = els f j ++ [⟨192 + c, hb⟩]) := by unfold Hid; rw [els_yes hb s3, s4]
            have hYY := HY.out _ ⟨192 + c, hb⟩ _ hJj (Nat.lt_of_le_of_lt (els_len f j) (by omega))
            dsimp only at hYY
            rw [show ((192 + c : Nat) : Int) = 192 + (c : Int) from by omega] at hYY
            obtain ⟨fn, tmps, assign, body, hy, hR⟩ := hYY
            have HR := Lib.hid hR
            have HS := Lib.hid s2
            clear hR hX s3 s4 s5 s2
            gi_wp2_with (refine ⟨trivial, ?_⟩; gi_at_call 104; refine (callsIn_wide.2 (hc9 _ HTj.out)).mono ?_; rintro e w' ⟨rfl, rfl⟩)
            have HL := Lib.hid hle
            refine HR.out.mono ?_
            rintro e W3 (⟨rfl, hJ3, hk3⟩ | ⟨rfl, hJx3⟩)
            · have HT3 : Hid (TabD W3) := hk3.2 HTj.out
              gi_wp2
              go_roundw
              case rel => exact ⟨192 + c + 1, by omega, by omega, by first | rfl | (rw [hlo]) | (rw [Nat.zero_add]), by rw [HJ2.out]; exact hJ3, HT3⟩
              case measure => simp only [intOf, hlo]; have := HL.out; omega
            · gi_wp2
              refine bodyPost_ret (results_none rfl _ _ _) rfl ?_
              exact ⟨⟨_, rfl⟩, .inr ⟨_, trivial, hJx3⟩⟩
    · obtain rfl : k = 4 := by omega
      gi_wp2
      go_end0
      exact ⟨⟨_, rfl⟩, .inl ⟨_, HE.out.symm, hJs⟩⟩

theorem members_stops (n : Nat) (hn : 1 ≤ n) (Bs : Nat) (a0 a1 a2 a3 : Int) (f : Nat → Bool) (ha : IsSet a0 a1 a2 a3 f) (w : World) (hb : Box4 w Bs a0 a1 a2 a3) (hT : TabD w) :
    SeqStopsK Fence.wide n Tryz.prog 103 #[.pointer (some ⟨Bs, 0, none⟩)] (fun x : B8 => #[Value.int .i64 (x.1 : Int)]) (KeepsBox Bs) (fun ys => ys = els f 256) (fun _ => True) 256 w :=
  fun l J Jx W hW hJ _ hY h0 => members1_in n hn l Bs W.heap.size a0 a1 a2 a3 f ha J Jx hJ hY W (hb.below hW hb.lt) (hT.stays hW) h0

set_option maxHeartbeats 1000000 in
theorem members_in (n : Nat) (a0 a1 a2 a3 : Int) (w : World) :
    CallsIn Fence.wide n Tryz.prog 100 #[.agg #[.int .u64 a0, .int .u64 a1, .int .u64 a2, .int .u64 a3]] w fun e w' =>
      e = .returned (.func (.func 103) #[] #[.pointer (some ⟨w.heap.size, 0, none⟩)]) ∧ w' = w.alloc (.cells #[.int .u64 a0, .int .u64 a1, .int .u64 a2, .int .u64 a3] 25) := by
  refine callsIn_of_wp Tryz.func100 rfl trivial ?_ rfl
  simp only [Tryz.ntmps100, List.size_toArray, List.length_cons, List.length_nil, Nat.reduceAdd, Nat.reduceSub, Array.replicate_succ, Array.replicate_zero, List.push_toArray, List.append_toArray, List.nil_append, List.cons_append]
  gi_wp2
  go_ret
  exact ⟨rfl, rfl⟩

end Go.Proofs.YtclnadjgbpihcaaGreatDoor

