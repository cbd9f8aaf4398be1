/- What Classes returns: each byte's class, as numbers of classes ahead; for every list of at most 1000 sets; memory that was there stays as it was. -/
import Derived.Maps.OwnSet
import Derived.Deep.MidRow
import Derived.Test.YtchicecmoknkjaaDoorKey
import Derived.Test.YtchicecmoknkjaaDoorClassMath
namespace Go.Proofs.YtchicecmoknkjaaDoor
open Go.RowKit Go.Maps
set_option linter.unusedVariables false

theorem lawStr : Keyed Tryd.prog 9 := string_keyed Tryd.underlying9
theorem zeroInt (w : World) : (zeroValue 3).run Tryd.prog w = .ok (.int .i64 0) w := by kernel_rfl
theorem zeroRow (w : World) : (zeroValue 38).run Tryd.prog w = .ok (.agg (Array.replicate 256 (.int .i64 0))) w := by kernel_rfl
theorem sizeRow : (Tryd.prog.info? 38).map (·.size) = some 256 := by kernel_rfl
theorem key_isStr (l : List UInt8) (h : l.length ≤ 1000) : keyOf Tryd.prog 9 (.string ⟨l.toArray⟩) = some (.string l) := WideMaps.keyOf_string_mk Tryd.underlying9 (by show l.toArray.size ≤ _; unfold maxLen; simp; omega)

/-- The result's zeros and the classes so far. -/
def CArr (n : Nat) (fs : Nat → Nat → Bool) (B k : Nat) (W : World) : Prop := W.heap[B]? = some (.cells (ccells n fs 0) 38 (0, 0)) ∧ W.heap[B + 1]? = some (.cells (ccells n fs k) 38 (0, 0))

theorem heap_lt {W : World} {B : Nat} {o : Obj} (h : W.heap[B]? = some o) : B < W.heap.size := (Array.getElem?_eq_some_iff.1 h).1

theorem CArr.below {n : Nat} {fs : Nat → Nat → Bool} {B k : Nat} {W W' : World} (h : CArr n fs B k W) (hb : Below W.heap.size W W') : CArr n fs B k W' :=
  ⟨(hb.block B (heap_lt h.1)).trans h.1, (hb.block (B + 1) (heap_lt h.2)).trans h.2⟩
theorem CArr.grown {n : Nat} {fs : Nat → Nat → Bool} {B k : Nat} {W W' : World} (h : CArr n fs B k W) (hg : W.grownBy W' (some (B + 2))) : CArr n fs B k W' :=
  ⟨(hg.block B (heap_lt h.1) (by simp)).trans h.1, (hg.block (B + 1) (heap_lt h.2) (by simp)).trans h.2⟩
theorem CArr.cell {n : Nat} {fs : Nat → Nat → Bool} {B k : Nat} {W : World} (h : CArr n fs B k W) (hk : k < 256) : W.cell? ⟨B + 1, k, none⟩ = some (.int .i64 0) := by
  rw [cell_of_row W (B + 1) k _ _ _ h.2, ccells_at n fs k k hk]; simp
theorem CArr.frozen {n : Nat} {fs : Nat → Nat → Bool} {B k : Nat} {W : World} (h : CArr n fs B k W) (j : Nat) : W.frozen? ⟨B + 1, j, none⟩ = false := frozen_of_row W (B + 1) j _ _ h.2
theorem CArr.set {n : Nat} {fs : Nat → Nat → Bool} {B k : Nat} {W : World} (h : CArr n fs B k W) : CArr n fs B (k + 1) (W.setCell ⟨B + 1, k, none⟩ (.int .i64 (clOf n fs k : Int))) :=
  ⟨(heap_setCell_other W _ B _ (by show B ≠ B + 1; omega)).trans h.1, by rw [heap_setCell_same W (B + 1) k _ _ _ h.2, ccells_set]⟩
theorem map_below {W W' : World} {P : Program} {t : TypeId} {R : Value → Option (DataW Unit × List MemPlace)} {b m : Nat} {D : DataW Unit} (h : W.ownsMap P t R b m D) (hb : Below W.heap.size W W') : W'.ownsMap P t R b m D := by
  have hlt := h.lt
  obtain ⟨es, clock, hh, r⟩ := h
  exact ⟨es, clock, (hb.block b hlt).trans hh, r⟩

theorem wf_nat (z : Nat) (h : z ≤ 256) : (Lit.int .i64 (z : Int)).wf = true := by
  simp only [Lit.wf, IntKind.min, IntKind.max, IntKind.signed, IntKind.bits, Bool.and_eq_true, decide_eq_true_eq]
  constructor <;> simp <;> omega
theorem CArr.start {n : Nat} {fs : Nat → Nat → Bool} {W : World} {Z : Array Value} (hZ : Z = ccells n fs 0) : CArr n fs W.heap.size 0 (((W.alloc (.cells Z 38)).alloc (.cells Z 38)).alloc (.map #[] 0)) := by
  subst hZ
  refine ⟨?_, ?_⟩
  · rw [Below.heap_alloc _ _ _ (by simp; omega)]; exact heap_alloc2_old W _ _
  · rw [Below.heap_alloc _ _ _ (by simp)]; exact heap_alloc2_new W _ _
theorem at_inj {D : DataW Unit} {l : Lit} {c : Int} {m : Nat} (h1 : D.atKey l (.lit (.int .i64 0)) = .lit (.int .i64 (m : Int))) (h2 : D.atKey l (.lit (.int .i64 0)) = .lit (.int .i64 c)) : c = (m : Int) := by
  have h := h1.symm.trans h2
  injection h with h; injection h with _ h; exact h.symm

theorem below_setRow {B : Nat} {a W : World} (h : Below B a W) {g : Nat} (hg : B ≤ g) (cs : Array Value) : Below B a (W.setRow g cs) :=
  ⟨h.os, h.tape, h.output, by simp; exact h.size, fun k hk => (setRow_other W g k cs (by omega)).trans (h.block k hk)⟩

theorem key_at (v : Value) (n : Nat) (x0 x1 x2 x3 : Nat → Int) (fs : Nat → Nat → Bool) (hS : ∀ i, i < n → IsSet (x0 i) (x1 i) (x2 i) (x3 i) (fs i)) (k : Nat) (hk : k < 256) (hn : n ≤ 1000) (w : World) (hv : SetsAt w v n x0 x1 x2 x3) :
    Calls Tryd.prog 49 #[v, .int .i64 (k : Int)] w (RetStr (keyL n (fun i => fs i k)) w) := by
  have h := key_any v n x0 x1 x2 x3 fs hS (k : Int) (by omega) (by omega) hn w hv
  rwa [Int.toNat_natCast] at h

set_option maxRecDepth 100000 in
set_option maxHeartbeats 4000000 in
theorem classes_any (v : Value) (n : Nat) (x0 x1 x2 x3 : Nat → Int) (fs : Nat → Nat → Bool) (hS : ∀ i, i < n → IsSet (x0 i) (x1 i) (x2 i) (x3 i) (fs i)) (hn : n ≤ 1000) (w : World) (hv : SetsAt w v n x0 x1 x2 x3) :
    Calls Tryd.prog 33 #[v] w (fun e w' => e = .returned (.agg (ccells n fs 256)) ∧ Below w.heap.size w w') := by
  have HS := Lib.hid hS
  have HV := Lib.hid hv
  clear hS hv
  have hmm := @run_makeMap Tryd.prog
  obtain ⟨Z, hZ⟩ : ∃ Z, Z = ccells n fs 0 := ⟨_, rfl⟩
  have hz : ∀ w : World, (zeroValue 38).run Tryd.prog w = .ok (.agg Z) w := by
    intro w; rw [hZ, ccells_zero]; exact zeroRow w
  have HZ := Lib.hid hZ
  clear hZ
  go_enter Tryd.func33, Tryd.ntmps33
  go_wp2
  go_loopw [10] (fun i wr => ∃ (k : Nat) (D : DataW Unit), i = .int .i64 k ∧ k ≤ 256 ∧ CArr n fs w.heap.size k wr ∧ wr.ownsMap Tryd.prog 9 (plainElem Tryd.prog 3) (w.heap.size + 2) k D ∧ MapOK n fs k D ∧ Below w.heap.size w wr)
    (fun i _ => 256 - (intOf i).toNat)
  case atStart =>
    refine ⟨0, .map [], rfl, by omega, CArr.start HZ.out, ?_, MapOK.start n fs, ?_⟩
    · have h := World.ownsMap_made (H := Unit) ((w.alloc (.cells Z 38)).alloc (.cells Z 38)) Tryd.prog 9 (plainElem Tryd.prog 3)
      simp at h
      exact h
    · exact below_alloc (below_alloc (below_alloc (Below.refl _ _) _) _) _
  case round =>
    obtain ⟨k, D, rfl, hk, hC, hown, hM, hbel⟩ := hrel
    by_cases ht : k < 256
    · have hlen : (keyL n (fun i => fs i k)).length ≤ 1000 := by simp [keyL]; omega
      have hkey : keyOf Tryd.prog 9 (.string ⟨(keyL n (fun i => fs i k)).toArray⟩) = some (keyOfB n fs k) := key_isStr _ hlen
      have hK := key_at v n x0 x1 x2 x3 fs HS.out k ht hn wr (HV.out.below hbel)
      obtain ⟨hh, hat⟩ := hM.2 k
      clear hlen
      cases ha : anyS n fs k k with
      | true =>
        rw [ha] at hh
        have HA := Lib.hid (hat ha)
        have HM := Lib.hid (hM.old ha)
        clear hat ha hM
        go_wp2_with (first
          | (go_at_call 49; refine hK.mono ?_; rintro e w1 ⟨rfl, hb1⟩; have hC1 := hC.below hb1; have hown1 := map_below hown hb1; have e0 := hC1.cell ht; have f0 := hC1.frozen k; have hbel1 := hbel.trans (hb1.mono hbel.size); clear hC hown hbel)
          | (at_lookup; refine wpList_lookup_own_ok_int _ rfl _ _ 68 rfl 9 3 .i64 lawStr Tryd.underlying68 Tryd.underlying3 (zeroInt _) (w.heap.size + 2) k D rfl hown1 _ _ rfl hkey ?_; intro c hcat hcw; have HC := Lib.hid (at_inj HA.out hcat); clear hcat hcw)
          | go_in)
        go_roundw
        case rel =>
          refine ⟨k + 1, D, by go_num, by omega, ?_, ?_, HM.out, ?_⟩
          · rw [HC.out]; exact hC1.set
          · exact (hown1.mono (Nat.le_succ k)).setCell (by show w.heap.size + 2 ≠ w.heap.size + 1; omega) _
          · exact hbel1.setCell (p := ⟨w.heap.size + 1, k, none⟩) (Nat.le_succ _) _
        case measure => simp [intOf]; omega
      | false =>
        rw [ha] at hh
        have hsz : Maps.size D = clOf n fs k := by rw [hM.1, clOf_new ha]
        have hval : plainElem (H := Unit) Tryd.prog 3 (.int .i64 (clOf n fs k : Int)) = some (.lit (.int .i64 (clOf n fs k : Int)), []) := plainElem_int Tryd.underlying3 (wf_nat _ (Nat.le_trans (clOf_le n fs k) (by omega)))
        have HM := Lib.hid (hM.new (hown.tidy lawStr) ha)
        have HN := Lib.hid (clOf_new ha)
        clear hat ha hM
        go_wp2_with (first
          | (go_at_call 49; refine hK.mono ?_; rintro e w1 ⟨rfl, hb1⟩; have hC1 := hC.below hb1; have hown1 := map_below hown hb1; have hbel1 := hbel.trans (hb1.mono hbel.size); clear hC hown hbel)
          | (at_lookup; refine wpList_lookup_own_ok_int _ rfl _ _ 68 rfl 9 3 .i64 lawStr Tryd.underlying68 Tryd.underlying3 (zeroInt _) (w.heap.size + 2) k D rfl hown1 _ _ rfl hkey ?_; intro c hcat hcw; clear hcat hcw)
          | (at_len; refine wpList_len_own _ rfl _ 68 rfl 9 3 Tryd.underlying68 _ (w.heap.size + 2) k D rfl hown1 ?_; rw [hsz])
          | (at_mapUpdate; refine wpList_mapUpdate_own _ rfl _ _ _ 68 rfl 9 3 lawStr Tryd.underlying68 (plainElem Tryd.prog 3) (w.heap.size + 2) k D rfl hown1 (by unfold maxLen; omega) _ _ _ rfl rfl hkey _ [] hval ?_; intro w2 hown2 hgr2; have hC2 := hC1.grown hgr2; have e0 := hC2.cell ht; have f0 := hC2.frozen k)
          | go_in)
        go_roundw
        case rel =>
          refine ⟨k + 1, _, by go_num, by omega, hC2.set, hown2.setCell (by show w.heap.size + 2 ≠ w.heap.size + 1; omega) _, ?_, ?_⟩
          · rw [HN.out]; exact HM.out
          · exact (hbel1.grown hgr2 hbel1.size (fun j hj => by cases hj; omega)).setCell (p := ⟨w.heap.size + 1, k, none⟩) (Nat.le_succ _) _
        case measure => simp [intOf]; omega
    · obtain rfl : k = 256 := by omega
      have hsr : (Tryd.prog.info? 38).map (·.size) = some (ccells n fs 256).size := by rw [ccells_size]; exact sizeRow
      have HR := Lib.hid hsr
      clear hsr
      go_wp2_with (first
        | (refine wpList_load_row rfl 38 _ rfl (w.heap.size + 1) rfl 38 (ccells n fs 256) (0, 0) _ hC.2 Tryd.underlying38 rfl HR.out ?_)
        | (refine wpList_store_row rfl 38 _ _ rfl w.heap.size (ccells n fs 256) rfl rfl 38 (ccells n fs 0) hC.1 HR.out (by rw [ccells_size, ccells_size]) ?c1 ?_)
        | go_in)
      case c1 => simp [ccells, Value.oneCell']
      exact bodyPost_ret_by (results_cell_row rfl _ _ w.heap.size 38 (ccells n fs 256) (0, 0) _ rfl (setRow_heap _ _ _ _ _ _ hC.1) Tryd.underlying38 rfl HR.out) rfl ⟨rfl, below_setRow hbel (Nat.le_refl _) _⟩

end Go.Proofs.YtchicecmoknkjaaDoor
