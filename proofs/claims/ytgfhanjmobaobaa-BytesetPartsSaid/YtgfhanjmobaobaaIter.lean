/- The iterator over a set's bytes: for every loop body that keeps the set's box, its rounds are given the set's bytes in ascending order. -/
import Derived.RangeFuncNested
import Derived.RangeFuncBound
import Derived.RangeFuncCalls
import Derived.RangeFuncLeaves
import Derived.RangeFuncBox
import Derived.Shelf.Abstract
import Derived.Shelf.RegionOpen
import Derived.OwnWalkIn
import Derived.TacticsInMore
import Derived.LoopNIn
import Derived.LoopIn
import Derived.Test.YtgfhanjmobaobaaCount
namespace Go.Proofs.Ytgfhanjmobaobaa
open Go.RowKit Go.Shelf
attribute [local go_sem] Oper.semAt_some

abbrev B8 := { b : Nat // b < 256 }

/-- The bytes of f ahead of k, in their order. -/
def els (f : Nat → Bool) : Nat → List B8
  | 0 => []
  | k + 1 => if h : k < 256 ∧ f k = true then els f k ++ [⟨k, h.1⟩] else els f k

theorem els_yes {f : Nat → Bool} {k : Nat} (h : k < 256) (hf : f k = true) : els f (k + 1) = els f k ++ [⟨k, h⟩] := by simp [els, h, hf]
theorem els_no {f : Nat → Bool} {k : Nat} (hf : f k = false) : els f (k + 1) = els f k := by simp [els, hf]

theorem els_len (f : Nat → Bool) : ∀ k, (els f k).length ≤ k
  | 0 => by simp [els]
  | k + 1 => by
    have := els_len f k
    by_cases h : k < 256 ∧ f k = true
    · rw [els_yes h.1 h.2]; simp; omega
    · have e : els f (k + 1) = els f k := by simp only [els]; rw [dif_neg h]
      rw [e]; omega

theorem els_cnt (f : Nat → Bool) : ∀ k, k ≤ 256 → (els f k).length = cnt f k
  | 0, _ => by simp [els, cnt]
  | k + 1, hk => by
    have := els_cnt f k (by omega)
    cases hf : f k with
    | true => rw [els_yes (by omega) hf]; simp [cnt, hf, this]
    | false => rw [els_no hf]; simp [cnt, hf, this]

/-- What a round keeps: the box of the set. -/
def KeepsBox (B : Nat) (W W' : World) : Prop := W'.heap[B]? = W.heap[B]?

theorem keepsBox_t {B : Nat} {X Y Z : World} (h : KeepsBox B X Y) (k : KeepsBox B Y Z) : KeepsBox B X Z := (show Z.heap[B]? = _ from k).trans h
theorem keepsBox_b {B : Nat} {w : World} (hB : B < w.heap.size) (W : World) (l : Nat) (o o' : Obj) (hl : w.heap.size ≤ l) (_ : W.heap[l]? = some o) (_ : o.isCells = false) (_ : o.isWalk = false) : KeepsBox B W (W.putObj l o') :=
  World.putObj_heap_other (by omega)

theorem abides_alloc {β : Type} {B : Nat} {J : β → World → Prop} (h : AbidesFrom B J) {s : β} {W : World} (hs : J s W) (o : Obj) : J s (W.alloc o) :=
  h s W _ none hs (World.grownBy_alloc W o none) (fun r e => by cases e)

set_option maxRecDepth 100000 in
set_option maxHeartbeats 2000000 in
theorem members1_in (n : Nat) (hn : 1 ≤ n) (l Bs B : Nat) (a0 a1 a2 a3 : Int) (f : Nat → Bool) (ha : IsSet a0 a1 a2 a3 f) (J Jx : List B8 → World → Prop) (hJ : AbidesFrom B J)
    (hY : ∀ pre (x : B8) W, J pre W → pre.length < 256 → YieldAt Fence.wide (n - 1) Try.prog l #[.int .i64 (x.1 : Int)] W fun e W' =>
      (e = .returned (.bool true) ∧ J (pre ++ [x]) W' ∧ KeepsBox Bs W W') ∨ (e = .returned (.bool false) ∧ Jx (pre ++ [x]) W'))
    (W : World) (hBs : Box4 W Bs a0 a1 a2 a3) (h0 : J [] W) :
    CallsIn Fence.wide n Try.prog 36 #[.func (.yield l) #[] #[], .pointer (some ⟨Bs, 0, none⟩)] W fun e W' => (∃ v, e = .returned v) ∧
      ((∃ ys, ys = els f 256 ∧ J ys W') ∨ (∃ pre, True ∧ Jx pre W')) := by
  obtain ⟨E, hE⟩ : ∃ E, E = els f 256 := ⟨_, rfl⟩
  rw [← hE]
  have HE := Lib.hid hE
  clear hE
  refine callsIn_of_wp Try.func36 rfl trivial ?_ rfl
  simp only [Try.ntmps36, List.size_toArray, List.length_cons, List.length_nil, Nat.reduceAdd, Nat.reduceSub, Array.replicate_succ, Array.replicate_zero, List.push_toArray, List.append_toArray, List.nil_append, List.cons_append]
  gi_wp2
  gi_loopw [4] (fun i wr => ∃ k : Nat, k ≤ 256 ∧ i = .int .i64 k ∧ J (els f k) wr ∧ Box4 wr Bs a0 a1 a2 a3)
    (fun i _ => 256 - (intOf i).toNat)
  case atStart => exact ⟨0, Nat.zero_le _, rfl, h0, hBs⟩
  case round =>
    obtain ⟨k, hk, rfl, hJs, hb4⟩ := hrel
    have hc0 := hb4.cell0
    have hc1 := hb4.cell1
    have hc2 := hb4.cell2
    have hc3 := hb4.cell3
    by_cases hlt : k < 256
    · have hfe := hasB_nat f k hlt
      have hJ1 := abides_alloc hJ hJs (.cells #[.int .u64 a0, .int .u64 a1, .int .u64 a2, .int .u64 a3] 24)
      have hb5 := hb4.alloc (.cells #[.int .u64 a0, .int .u64 a1, .int .u64 a2, .int .u64 a3] 24)
      cases hfk : f k with
      | true =>
        have HY := Lib.hid (els_yes hlt hfk)
        rw [hfk] at hfe
        clear hfk
        obtain ⟨fn, tmps, assign, body, hy, hR⟩ := hY _ ⟨k, hlt⟩ _ hJ1 (Nat.lt_of_le_of_lt (els_len f k) hlt)
        dsimp only at hy
        have HR := Lib.hid hR
        clear hR hY
        gi_wp2_with (refine ⟨trivial, ?_⟩; gi_at_call 23; refine (callsIn_wide.2 (has_any _ _ _ _ _ _ _ ha)).mono ?_; rintro e w' ⟨rfl, rfl⟩)
        refine HR.out.mono ?_
        rintro e W3 (⟨rfl, hJ3, hk3⟩ | ⟨rfl, hJx3⟩)
        · have hb6 : Box4 W3 Bs a0 a1 a2 a3 := (show W3.heap[Bs]? = _ from hk3).trans hb5
          gi_wp2
          go_roundw
          case rel => exact ⟨k + 1, by omega, by go_num, by rw [HY.out]; exact hJ3, hb6⟩
          case measure => simp [intOf]; omega
        · gi_wp2
          refine bodyPost_ret (results_none rfl _ _ _) rfl ?_
          exact ⟨⟨_, rfl⟩, .inr ⟨_, trivial, hJx3⟩⟩
      | false =>
        have HY := Lib.hid (els_no hfk)
        rw [hfk] at hfe
        clear hfk hY
        gi_wp2_with (refine ⟨trivial, ?_⟩; gi_at_call 23; refine (callsIn_wide.2 (has_any _ _ _ _ _ _ _ ha)).mono ?_; rintro e w' ⟨rfl, rfl⟩)
        refine ⟨fun _ h => (by cases h), ?_⟩
        gi_wp2
        go_roundw
        case rel => exact ⟨k + 1, by omega, by go_num, by rw [HY.out]; exact hJ1, hb5⟩
        case measure => simp [intOf]; omega
    · obtain rfl : k = 256 := by omega
      gi_wp2
      go_end0
      exact ⟨⟨_, rfl⟩, .inl ⟨_, HE.out.symm, hJs⟩⟩

set_option maxHeartbeats 1000000 in
theorem members_in (n : Nat) (a0 a1 a2 a3 : Int) (w : World) :
    CallsIn Fence.wide n Try.prog 33 #[.agg #[.int .u64 a0, .int .u64 a1, .int .u64 a2, .int .u64 a3]] w fun e w' =>
      e = .returned (.func (.func 36) #[] #[.pointer (some ⟨w.heap.size, 0, none⟩)]) ∧ w' = w.alloc (.cells #[.int .u64 a0, .int .u64 a1, .int .u64 a2, .int .u64 a3] 24) := by
  refine callsIn_of_wp Try.func33 rfl trivial ?_ rfl
  simp only [Try.ntmps33, List.size_toArray, List.length_cons, List.length_nil, Nat.reduceAdd, Nat.reduceSub, Array.replicate_succ, Array.replicate_zero, List.push_toArray, List.append_toArray, List.nil_append, List.cons_append]
  gi_wp2
  go_ret
  exact ⟨rfl, rfl⟩

theorem members_stops (n : Nat) (hn : 1 ≤ n) (Bs : Nat) (a0 a1 a2 a3 : Int) (f : Nat → Bool) (ha : IsSet a0 a1 a2 a3 f) (w : World) (hb : Box4 w Bs a0 a1 a2 a3) :
    SeqStopsK Fence.wide n Try.prog 36 #[.pointer (some ⟨Bs, 0, none⟩)] (fun x : B8 => #[Value.int .i64 (x.1 : Int)]) (KeepsBox Bs) (fun ys => ys = els f 256) (fun _ => True) 256 w :=
  fun l J Jx W hW hJ _ hY h0 => members1_in n hn l Bs W.heap.size a0 a1 a2 a3 f ha J Jx hJ hY W (hb.below hW hb.lt) h0

set_option maxRecDepth 100000 in
set_option maxHeartbeats 2000000 in
theorem count_in (n : Nat) (hn : 3 ≤ n) (a0 a1 a2 a3 : Int) (f : Nat → Bool) (ha : IsSet a0 a1 a2 a3 f) (w : World) :
    CallsIn Fence.wide n Try.prog 21 #[.agg #[.int .u64 a0, .int .u64 a1, .int .u64 a2, .int .u64 a3]] w (RetNum (cnt f 256) w) := by
  have h1 : 1 ≤ n := by omega
  obtain ⟨N, hN⟩ : ∃ N, N = cnt f 256 := ⟨_, rfl⟩
  rw [← hN]
  have HN := Lib.hid hN
  clear hN
  refine callsIn_of_wp_marks Try.func21 rfl trivial ?_ rfl
  simp only [Try.ntmps21, List.size_toArray, List.length_cons, List.length_nil, Nat.reduceAdd, Nat.reduceSub, Array.replicate_succ, Array.replicate_zero, List.push_toArray, List.append_toArray, List.nil_append, List.cons_append]
  gi_wp2_with (refine ⟨trivial, ?_⟩; gi_at_call 33; refine (members_in (n - 1) _ _ _ _ _).mono ?_; rintro e w' ⟨rfl, rfl⟩)
  have bC := Boxed.new (w.alloc (.cells #[.int .u64 a0, .int .u64 a1, .int .u64 a2, .int .u64 a3] 24)) 3 (.int .i64 0)
  rw [World.size_alloc] at bC
  have bS := Box4.new' ((w.alloc (.cells #[.int .u64 a0, .int .u64 a1, .int .u64 a2, .int .u64 a3] 24)).alloc (.cells #[.int .i64 0] 3)) (w.heap.size + 1 + 1) a0 a1 a2 a3 (by simp)
  have hB0 : Below w.heap.size w (((w.alloc (.cells #[.int .u64 a0, .int .u64 a1, .int .u64 a2, .int .u64 a3] 24)).alloc (.cells #[.int .i64 0] 3)).alloc (.cells #[.int .u64 a0, .int .u64 a1, .int .u64 a2, .int .u64 a3] 24)) := by go_grown
  refine wpIn_rangeFunc_ownG rfl h1 (gf := 36) (lb := #[.pointer (some ⟨w.heap.size + 1 + 1, 0, none⟩)]) rfl trivial (enters_of Try.func36 (by kernel_rfl) rfl)
    (members_stops (n - 1) (by omega) (w.heap.size + 1 + 1) a0 a1 a2 a3 f ha _ bS) keepsBox_t (keepsBox_b (by simp)) (Below.refl _ _) (fun _ => rfl)
    (fun pre W => Boxed W (w.heap.size + 1) 3 (.int .i64 (pre.length : Int)) ∧ Below w.heap.size w W)
    (fun _ _ _ => False)
    (OwnFrom.and (Own.from (boxed_own (w.heap.size + 1) 3 (fun pre : List B8 => .int .i64 (pre.length : Int))) _) (ownFrom_below (Nat.le_refl _) (by simp; omega)))
    (fun _ _ _ _ _ hs _ _ => hs)
    ⟨bC.alloc _, hB0⟩
    (fun x => { tmps := #[.agg #[.int .u64 a0, .int .u64 a1, .int .u64 a2, .int .u64 a3], .pointer (some ⟨w.heap.size, 0, none⟩), .int .i64 0, .pointer (some ⟨w.heap.size + 1, 0, none⟩), .agg #[.int .u64 a0, .int .u64 a1, .int .u64 a2, .int .u64 a3], .func (.func 36) #[] #[.pointer (some ⟨w.heap.size + 1 + 1, 0, none⟩)], .int .i64 (x.1 : Int), undef, undef, undef], defers := [] }) ?assign ?body ?done ?stop
  case assign =>
    intro l x W K hK
    gi_wp2
    simpa using hK
  case body =>
    rintro l pre x W ⟨hv, hB⟩ hlt
    have hc := hv.cell
    have hf := hv.frozen
    gi_wp2
    refine ⟨(KeepsOthers.setCell _ _ _).from _, ?_, ?_, hB.setCell (p := ⟨w.heap.size + 1, 0, none⟩) (by simp) _⟩
    · exact Below.heap_setCell _ _ _ _ (by simp)
    · have h := hv.set (.int .i64 ((pre.length : Int) + 1))
      rw [List.length_append]
      exact h
  case done =>
    rintro D ys W hD rfl ⟨hv, hB⟩ hK
    have hc := hv.cell
    have hl := els_cnt f 256 (Nat.le_refl _)
    rw [hl] at hc
    gi_wp2
    refine ⟨by simp, .inl ⟨_, _, rfl, run_takeDeferred hK, ?_⟩⟩
    exact ⟨_, results_tmp rfl _ _ _, by rw [HN.out]; rfl, hB.trans (belowK_b (w := w) (Nat.le_refl _) W D _ _ (by simp at hD; omega) hK rfl rfl)⟩
  case stop =>
    rintro D c pre W _ _ h _
    exact h.elim

theorem count_any (a0 a1 a2 a3 : Int) (f : Nat → Bool) (w : World) (ha : IsSet a0 a1 a2 a3 f) :
    Calls Try.prog 21 #[.agg #[.int .u64 a0, .int .u64 a1, .int .u64 a2, .int .u64 a3]] w (RetNum (cnt f 256) w) :=
  (callsIn_wide (n := 3)).1 (count_in 3 (by omega) a0 a1 a2 a3 f ha w)

end Go.Proofs.Ytgfhanjmobaobaa
