/- What the document's answer for Classes returns: the same classes, for every list of at most 1000 sets; memory that was there stays as it was. -/
import Derived.Deep.RegionHeld3
import Derived.Deep.QuietTactic
import Derived.Test.YtchicecmoknkjaaDoorClasses
namespace Go.Proofs.YtchicecmoknkjaaDoor
open Go.RowKit Go.Maps
set_option linter.unusedVariables false

/-- The result's zeros, and the classes so far with a number at k. -/
def CX (n : Nat) (fs : Nat → Nat → Bool) (B k : Nat) (x : Int) (W : World) : Prop := W.heap[B]? = some (.cells (ccells n fs 0) 38 (0, 0)) ∧ W.heap[B + 1]? = some (.cells (ccx n fs k x) 38 (0, 0))

theorem CX.below {n : Nat} {fs : Nat → Nat → Bool} {B k : Nat} {x : Int} {W W' : World} (h : CX n fs B k x W) (hb : Below W.heap.size W W') : CX n fs B k x W' :=
  ⟨(hb.block B (heap_lt h.1)).trans h.1, (hb.block (B + 1) (heap_lt h.2)).trans h.2⟩
theorem CX.cell {n : Nat} {fs : Nat → Nat → Bool} {B k : Nat} {x : Int} {W : World} (h : CX n fs B k x W) (hk : k < 256) : W.cell? ⟨B + 1, k, none⟩ = some (.int .i64 x) := by
  rw [cell_of_row W (B + 1) k _ _ _ h.2, ccx_at n fs k x hk]
theorem CX.old {n : Nat} {fs : Nat → Nat → Bool} {B k : Nat} {x : Int} {W : World} (h : CX n fs B k x W) (hk : k < 256) (j : Nat) (hj : j < k) : W.cell? ⟨B + 1, j, none⟩ = some (.int .i64 (clOf n fs j : Int)) := by
  rw [cell_of_row W (B + 1) j _ _ _ h.2, ccx_old n fs k x j hj hk]
theorem CX.frozen {n : Nat} {fs : Nat → Nat → Bool} {B k : Nat} {x : Int} {W : World} (h : CX n fs B k x W) (j : Nat) : W.frozen? ⟨B + 1, j, none⟩ = false := frozen_of_row W (B + 1) j _ _ h.2
theorem CX.set {n : Nat} {fs : Nat → Nat → Bool} {B k : Nat} {x : Int} {W : World} (h : CX n fs B k x W) (y : Int) : CX n fs B k y (W.setCell ⟨B + 1, k, none⟩ (.int .i64 y)) :=
  ⟨(heap_setCell_other W _ B _ (by show B ≠ B + 1; omega)).trans h.1, by rw [heap_setCell_same W (B + 1) k _ _ _ h.2, ccx_set]⟩
theorem CX.done {n : Nat} {fs : Nat → Nat → Bool} {B k : Nat} {x : Int} {W : World} (h : CX n fs B k x W) (hx : x = (clOf n fs k : Int)) : CArr n fs B (k + 1) W := by
  subst hx; exact ⟨h.1, by rw [h.2, ccx_done]⟩
theorem CArr.setx {n : Nat} {fs : Nat → Nat → Bool} {B k : Nat} {W : World} (h : CArr n fs B k W) (y : Int) : CX n fs B k y (W.setCell ⟨B + 1, k, none⟩ (.int .i64 y)) :=
  ⟨(heap_setCell_other W _ B _ (by show B ≠ B + 1; omega)).trans h.1, by rw [heap_setCell_same W (B + 1) k _ _ _ h.2]; rfl⟩

/-- What a round of the innermost loop holds of memory. -/
def CR (wm : World) (B off i : Nat) (a0 a1 a2 a3 : Int) (W : World) : Prop :=
  (W.cell? ⟨B, off + i * 4, none⟩ = some (.int .u64 a0) ∧ W.cell? ⟨B, off + i * 4 + 1, none⟩ = some (.int .u64 a1) ∧ W.cell? ⟨B, off + i * 4 + 2, none⟩ = some (.int .u64 a2) ∧ W.cell? ⟨B, off + i * 4 + 3, none⟩ = some (.int .u64 a3)) ∧ B < wm.heap.size ∧ Below wm.heap.size wm W
theorem CR.step {wm W W' : World} {B off i : Nat} {a0 a1 a2 a3 : Int} (h : CR wm B off i a0 a1 a2 a3 W) (hb : Below W.heap.size W W') : CR wm B off i a0 a1 a2 a3 W' := by
  obtain ⟨⟨c0, c1, c2, c3⟩, hB, hw⟩ := h
  have hB2 := Nat.lt_of_lt_of_le hB hw.size
  exact ⟨⟨(hb.cell (p := ⟨B, off + i * 4, none⟩) hB2).trans c0, (hb.cell (p := ⟨B, off + i * 4 + 1, none⟩) hB2).trans c1, (hb.cell (p := ⟨B, off + i * 4 + 2, none⟩) hB2).trans c2, (hb.cell (p := ⟨B, off + i * 4 + 3, none⟩) hB2).trans c3⟩, hB, below_step hw hb⟩
theorem CR.alloc {wm W : World} {B off i : Nat} {a0 a1 a2 a3 : Int} (h : CR wm B off i a0 a1 a2 a3 W) (o : Obj) : CR wm B off i a0 a1 a2 a3 (W.alloc o) := h.step (below_alloc (Below.refl _ _) o)
theorem CR.drew {wm W : World} {B off i : Nat} {a0 a1 a2 a3 : Int} (h : CR wm B off i a0 a1 a2 a3 W) : CR wm B off i a0 a1 a2 a3 W.drew := h.step (Below.refl _ _).drew

set_option maxRecDepth 100000 in
set_option maxHeartbeats 4000000 in
theorem refclasses_some (B off n cap : Nat) (x0 x1 x2 x3 : Nat → Int) (fs : Nat → Nat → Bool) (hS : ∀ i, i < n → IsSet (x0 i) (x1 i) (x2 i) (x3 i) (fs i)) (hn : n ≤ 1000) (hcap : n ≤ cap) (w : World) (hc : SetsIn w B off n x0 x1 x2 x3) (hB : B < w.heap.size) :
    Calls Tryd.prog 34 #[.slice (some ⟨B, off, none⟩) n cap] w (fun e w' => e = .returned (.agg (ccells n fs 256)) ∧ Below w.heap.size w w') := by
  have HS := Lib.hid hS
  have HC := Lib.hid hc
  clear hS hc
  obtain ⟨Z, hZ⟩ : ∃ Z, Z = ccells n fs 0 := ⟨_, rfl⟩
  have hz : ∀ w : World, (zeroValue 38).run Tryd.prog w = .ok (.agg Z) w := by
    intro w; rw [hZ, ccells_zero]; exact zeroRow w
  have HZ := Lib.hid hZ
  clear hZ
  go_enter Tryd.func34, Tryd.ntmps34
  go_wp2
  go_loopw [4, 5] (fun nv kv wr => ∃ k N : Nat, kv = .int .i64 k ∧ nv = .int .i64 N ∧ N = numC n fs k ∧ k ≤ 256 ∧ CArr n fs w.heap.size k wr ∧ Below w.heap.size w wr)
    (fun _ i _ => 256 - (intOf i).toNat)
  case atStart =>
    have h := CArr.start (W := w) HZ.out
    refine ⟨0, 0, rfl, rfl, rfl, by omega, ?_, below_alloc (below_alloc (Below.refl _ _) _) _⟩
    refine ⟨?_, ?_⟩
    · rw [heap_alloc2_old, HZ.out]
    · rw [heap_alloc2_new, HZ.out]
  case round =>
    obtain ⟨k, N, rfl, rfl, hN, hk, hC, hbel⟩ := hrel
    by_cases ht : k < 256
    · have e0 := hC.cell ht
      have f0 := hC.frozen k
      have hX := hC.setx (N : Int)
      have hbX := hbel.setCell (p := ⟨w.heap.size + 1, k, none⟩) (Nat.le_succ _) (.int .i64 (N : Int))
      have HN := Lib.hid hN
      have hNk : N ≤ 256 := by rw [hN]; exact Nat.le_trans (numC_le n fs k) hk
      clear hN hC hbel
      have htd : decide ((k : Int) < 256) = true := by simp; omega
      go_wp2
      clear htd
      go_loopw [6] (fun jv wm => ∃ j : Nat, jv = .int .i64 j ∧ j ≤ k ∧ (∀ i, i < j → sm n fs k i = false) ∧ CX n fs w.heap.size k N wm ∧ Below w.heap.size w wm) (fun jv _ => k - (intOf jv).toNat)
      case atStart => exact ⟨0, rfl, by omega, fun i hi => absurd hi (Nat.not_lt_zero i), hX, hbX⟩
      case round =>
        obtain ⟨j, rfl, hj, hno, hXm, hbm⟩ := hrel
        obtain ⟨wm, hwm⟩ : ∃ x : World, x = wr := ⟨_, rfl⟩
        subst hwm
        have HNO := Lib.hid hno
        clear hno
        by_cases htj : j < k
        · go_wp2
          go_loopw [7, 8] (fun sv iv wi => ∃ i : Nat, iv = .int .i64 i ∧ i ≤ n ∧ sv = .bool (sm i fs k j) ∧ Below wm.heap.size wm wi) (fun _ iv _ => n - (intOf iv).toNat)
          case atStart => exact ⟨0, rfl, by omega, by rw [sm_zero], Below.refl _ _⟩
          case round =>
            obtain ⟨i, rfl, hi, rfl, hbi⟩ := hrel
            have hbi2 := below_step hbm hbi
            by_cases hti : i < n
            · obtain ⟨c0, c1, c2, c3⟩ := (HC.out.below hbi2 hB) i hti
              have hsi := HS.out i hti
              have hsx := sm_succ i fs k j
              have hk1 := hasB_nat (fs i) k ht
              have hj1 := hasB_nat (fs i) j (by omega)
              have hBm : B < wm.heap.size := Nat.lt_of_lt_of_le hB hbm.size
              generalize x0 i = a0 at *
              generalize x1 i = a1 at *
              generalize x2 i = a2 at *
              generalize x3 i = a3 at *
              have hR : CR wm B off i a0 a1 a2 a3 wr := ⟨⟨c0, c1, c2, c3⟩, hBm, hbi⟩
              cases hs : sm i fs k j with
              | false =>
                rw [hs] at hsx
                have HSX := Lib.hid hsx
                clear hsx hs hk1 hj1 hR hsi
                go_wp2
                go_region
                go_wp2
                go_roundw
                case rel => exact ⟨i + 1, by go_num, by omega, by rw [HSX.out]; rfl, hbi.drew⟩
                case measure => simp [intOf]; omega
              | true =>
                rw [hs] at hsx
                cases hka : fs i k <;> cases hja : fs i j
                · rw [hka] at hk1 hsx; rw [hja] at hj1 hsx
                  have HSX := Lib.hid hsx
                  clear hsx hs hka hja
                  go_wp2
                  go_region_held3 (fun W => (W.cell? ⟨B, off + i * 4, none⟩ = some (.int .u64 a0) ∧ W.cell? ⟨B, off + i * 4 + 1, none⟩ = some (.int .u64 a1) ∧ W.cell? ⟨B, off + i * 4 + 2, none⟩ = some (.int .u64 a2) ∧ W.cell? ⟨B, off + i * 4 + 3, none⟩ = some (.int .u64 a3)) ∧ B < wm.heap.size ∧ Below wm.heap.size wm W)
                    (first | exact CR.alloc (by assumption) _ | exact CR.drew (by assumption))
                    (first | (go_at_call 27; refine (refhas_any _ _ _ _ _ _ _ hsi).mono ?_; rintro e w' ⟨rfl, rfl⟩))
                  rename_i hW
                  obtain ⟨_, _, hbW⟩ := hW
                  go_wp2
                  go_roundw
                  case rel => exact ⟨i + 1, by go_num, by omega, by rw [HSX.out]; rfl, hbW⟩
                  case measure => simp [intOf]; omega
                · rw [hka] at hk1 hsx; rw [hja] at hj1 hsx
                  have HSX := Lib.hid hsx
                  clear hsx hs hka hja
                  go_wp2
                  go_region_held3 (fun W => (W.cell? ⟨B, off + i * 4, none⟩ = some (.int .u64 a0) ∧ W.cell? ⟨B, off + i * 4 + 1, none⟩ = some (.int .u64 a1) ∧ W.cell? ⟨B, off + i * 4 + 2, none⟩ = some (.int .u64 a2) ∧ W.cell? ⟨B, off + i * 4 + 3, none⟩ = some (.int .u64 a3)) ∧ B < wm.heap.size ∧ Below wm.heap.size wm W)
                    (first | exact CR.alloc (by assumption) _ | exact CR.drew (by assumption))
                    (first | (go_at_call 27; refine (refhas_any _ _ _ _ _ _ _ hsi).mono ?_; rintro e w' ⟨rfl, rfl⟩))
                  rename_i hW
                  obtain ⟨_, _, hbW⟩ := hW
                  go_wp2
                  go_roundw
                  case rel => exact ⟨i + 1, by go_num, by omega, by rw [HSX.out]; rfl, hbW⟩
                  case measure => simp [intOf]; omega
                · rw [hka] at hk1 hsx; rw [hja] at hj1 hsx
                  have HSX := Lib.hid hsx
                  clear hsx hs hka hja
                  go_wp2
                  go_region_held3 (fun W => (W.cell? ⟨B, off + i * 4, none⟩ = some (.int .u64 a0) ∧ W.cell? ⟨B, off + i * 4 + 1, none⟩ = some (.int .u64 a1) ∧ W.cell? ⟨B, off + i * 4 + 2, none⟩ = some (.int .u64 a2) ∧ W.cell? ⟨B, off + i * 4 + 3, none⟩ = some (.int .u64 a3)) ∧ B < wm.heap.size ∧ Below wm.heap.size wm W)
                    (first | exact CR.alloc (by assumption) _ | exact CR.drew (by assumption))
                    (first | (go_at_call 27; refine (refhas_any _ _ _ _ _ _ _ hsi).mono ?_; rintro e w' ⟨rfl, rfl⟩))
                  rename_i hW
                  obtain ⟨_, _, hbW⟩ := hW
                  go_wp2
                  go_roundw
                  case rel => exact ⟨i + 1, by go_num, by omega, by rw [HSX.out]; rfl, hbW⟩
                  case measure => simp [intOf]; omega
                · rw [hka] at hk1 hsx; rw [hja] at hj1 hsx
                  have HSX := Lib.hid hsx
                  clear hsx hs hka hja
                  go_wp2
                  go_region_held3 (fun W => (W.cell? ⟨B, off + i * 4, none⟩ = some (.int .u64 a0) ∧ W.cell? ⟨B, off + i * 4 + 1, none⟩ = some (.int .u64 a1) ∧ W.cell? ⟨B, off + i * 4 + 2, none⟩ = some (.int .u64 a2) ∧ W.cell? ⟨B, off + i * 4 + 3, none⟩ = some (.int .u64 a3)) ∧ B < wm.heap.size ∧ Below wm.heap.size wm W)
                    (first | exact CR.alloc (by assumption) _ | exact CR.drew (by assumption))
                    (first | (go_at_call 27; refine (refhas_any _ _ _ _ _ _ _ hsi).mono ?_; rintro e w' ⟨rfl, rfl⟩))
                  rename_i hW
                  obtain ⟨_, _, hbW⟩ := hW
                  go_wp2
                  go_roundw
                  case rel => exact ⟨i + 1, by go_num, by omega, by rw [HSX.out]; rfl, hbW⟩
                  case measure => simp [intOf]; omega
            · obtain rfl : i = n := by omega
              have hXi := hXm.below hbi
              have e1 := hXi.old ht j htj
              have e2 := hXi.cell ht
              have f2 := hXi.frozen k
              cases hs : sm i fs k j with
              | true =>
                have hcl : (clOf i fs j : Int) = (clOf i fs k : Int) := by rw [clOf_eq hs]
                have hany : anyS i fs k k = true := (anyS_iff i fs k k).2 ⟨j, htj, hs⟩
                have hlt := clOf_lt (n := i) (fs := fs) htj
                have hne : ¬ ((clOf i fs j : Int) = (N : Int)) := by rw [HN.out]; omega
                have hne2 : ¬ (clOf i fs j = N) := by rw [HN.out]; omega
                have hDone := (hXi.set (clOf i fs j : Int)).done hcl
                have e3 := (hXi.set (clOf i fs j : Int)).cell ht
                have HL := Lib.hid hlt
                have HA := Lib.hid hany
                clear hs hany hlt hcl
                go_wp2
                go_roundw
                case rel => exact ⟨k + 1, N, by go_num, rfl, by rw [HN.out, numC_old HA.out], by omega, hDone, hbi2.setCell (p := ⟨w.heap.size + 1, k, none⟩) (Nat.le_succ _) _⟩
                case measure => simp [intOf]; omega
              | false =>
                have hno2 : ∀ i', i' < j + 1 → sm i fs k i' = false := by
                  intro i' hi'
                  rcases Nat.lt_succ_iff_lt_or_eq.1 hi' with h | h
                  · exact HNO.out i' h
                  · subst h; exact hs
                have HN2 := Lib.hid hno2
                clear hs hno2
                go_wp2
                go_roundw
                case rel => exact ⟨j + 1, by go_num, by omega, HN2.out, hXi, hbi2⟩
                case measure => simp [intOf]; omega
        · obtain rfl : j = k := by omega
          have hany := anyS_none HNO.out
          have hcl : (N : Int) = (clOf n fs j : Int) := by rw [clOf_new hany, HN.out]
          have hDone := hXm.done hcl
          have e2 := hXm.cell ht
          have hN1 := numC_new hany
          rw [← HN.out] at hN1
          have HN1 := Lib.hid hN1
          clear hany hcl hN1
          go_wp2
          go_roundw
          case rel => exact ⟨j + 1, N + 1, by go_num, by go_num, HN1.out.symm, by omega, hDone, hbm⟩
          case measure => simp [intOf]; omega
    · obtain rfl : k = 256 := by omega
      have hsr : (Tryd.prog.info? 38).map (·.size) = some (ccells n fs 256).size := by rw [ccells_size]; exact sizeRow
      have HR := Lib.hid hsr
      clear hsr
      go_wp2_with (first
        | (refine wpList_load_row rfl 38 _ rfl (w.heap.size + 1) rfl 38 (ccells n fs 256) (0, 0) _ hC.2 Tryd.underlying38 rfl HR.out ?_)
        | (refine wpList_store_row rfl 38 _ _ rfl w.heap.size (ccells n fs 256) rfl rfl 38 (ccells n fs 0) hC.1 HR.out (by rw [ccells_size, ccells_size]) ?c1 ?_)
        | go_in)
      case c1 => simp [ccells, Value.oneCell']
      exact bodyPost_ret_by (results_cell_row rfl _ _ w.heap.size 38 (ccells n fs 256) (0, 0) _ rfl (setRow_heap _ _ _ _ _ _ hC.1) Tryd.underlying38 rfl HR.out) rfl ⟨rfl, below_setRow hbel (Nat.le_refl _) _⟩

set_option maxRecDepth 100000 in
set_option maxHeartbeats 4000000 in
theorem refclasses_nil (o : Option Addr) (cap : Nat) (fs : Nat → Nat → Bool) (w : World) :
    Calls Tryd.prog 34 #[.slice o 0 cap] w (fun e w' => e = .returned (.agg (ccells 0 fs 256)) ∧ Below w.heap.size w w') := by
  obtain ⟨Z, hZ⟩ : ∃ Z, Z = ccells 0 fs 0 := ⟨_, rfl⟩
  have hz : ∀ w : World, (zeroValue 38).run Tryd.prog w = .ok (.agg Z) w := by
    intro w; rw [hZ, ccells_zero]; exact zeroRow w
  have HZ := Lib.hid hZ
  clear hZ
  go_enter Tryd.func34, Tryd.ntmps34
  go_wp2
  go_loopw [4, 5] (fun nv kv wr => ∃ k N : Nat, kv = .int .i64 k ∧ nv = .int .i64 N ∧ N = numC 0 fs k ∧ k ≤ 256 ∧ CArr 0 fs w.heap.size k wr ∧ Below w.heap.size w wr)
    (fun _ i _ => 256 - (intOf i).toNat)
  case atStart =>
    have h := CArr.start (W := w) HZ.out
    refine ⟨0, 0, rfl, rfl, rfl, by omega, ?_, below_alloc (below_alloc (Below.refl _ _) _) _⟩
    refine ⟨?_, ?_⟩
    · rw [heap_alloc2_old, HZ.out]
    · rw [heap_alloc2_new, HZ.out]
  case round =>
    obtain ⟨k, N, rfl, rfl, hN, hk, hC, hbel⟩ := hrel
    by_cases ht : k < 256
    · have e0 := hC.cell ht
      have f0 := hC.frozen k
      have hX := hC.setx (N : Int)
      have hbX := hbel.setCell (p := ⟨w.heap.size + 1, k, none⟩) (Nat.le_succ _) (.int .i64 (N : Int))
      have HN := Lib.hid hN
      have hNk : N ≤ 256 := by rw [hN]; exact Nat.le_trans (numC_le 0 fs k) hk
      clear hN hC hbel
      have htd : decide ((k : Int) < 256) = true := by simp; omega
      go_wp2
      clear htd
      go_loopw [6] (fun jv wm => ∃ j : Nat, jv = .int .i64 j ∧ j ≤ k ∧ (∀ i, i < j → sm 0 fs k i = false) ∧ CX 0 fs w.heap.size k N wm ∧ Below w.heap.size w wm) (fun jv _ => k - (intOf jv).toNat)
      case atStart => exact ⟨0, rfl, by omega, fun i hi => absurd hi (Nat.not_lt_zero i), hX, hbX⟩
      case round =>
        obtain ⟨j, rfl, hj, hno, hXm, hbm⟩ := hrel
        obtain ⟨wm, hwm⟩ : ∃ x : World, x = wr := ⟨_, rfl⟩
        subst hwm
        have HNO := Lib.hid hno
        clear hno
        by_cases htj : j < k
        · go_wp2
          go_loopw [7, 8] (fun sv iv wi => iv = .int .i64 0 ∧ sv = .bool true ∧ Below wm.heap.size wm wi) (fun _ _ _ => 0)
          case atStart => exact ⟨rfl, rfl, Below.refl _ _⟩
          case round =>
              obtain ⟨rfl, rfl, hbi⟩ := hrel
              have hbi2 := below_step hbm hbi
              have hXi := hXm.below hbi
              have e1 := hXi.old ht j htj
              have e2 := hXi.cell ht
              have f2 := hXi.frozen k
              have hs := sm_zero fs k j
              have hcl : (clOf 0 fs j : Int) = (clOf 0 fs k : Int) := by rw [clOf_eq hs]
              have hany : anyS 0 fs k k = true := (anyS_iff 0 fs k k).2 ⟨j, htj, hs⟩
              have hlt := clOf_lt (n := 0) (fs := fs) htj
              have hne : ¬ ((clOf 0 fs j : Int) = (N : Int)) := by rw [HN.out]; omega
              have hne2 : ¬ (clOf 0 fs j = N) := by rw [HN.out]; omega
              have hDone := (hXi.set (clOf 0 fs j : Int)).done hcl
              have e3 := (hXi.set (clOf 0 fs j : Int)).cell ht
              have HL := Lib.hid hlt
              have HA := Lib.hid hany
              clear hany hlt hcl
              go_wp2
              go_roundw
              case rel => exact ⟨k + 1, N, by go_num, rfl, by rw [HN.out, numC_old HA.out], by omega, hDone, hbi2.setCell (p := ⟨w.heap.size + 1, k, none⟩) (Nat.le_succ _) _⟩
              case measure => simp [intOf]; omega
        · obtain rfl : j = k := by omega
          have hany := anyS_none HNO.out
          have hcl : (N : Int) = (clOf 0 fs j : Int) := by rw [clOf_new hany, HN.out]
          have hDone := hXm.done hcl
          have e2 := hXm.cell ht
          have hN1 := numC_new hany
          rw [← HN.out] at hN1
          have HN1 := Lib.hid hN1
          clear hany hcl hN1
          go_wp2
          go_roundw
          case rel => exact ⟨j + 1, N + 1, by go_num, by go_num, HN1.out.symm, by omega, hDone, hbm⟩
          case measure => simp [intOf]; omega
    · obtain rfl : k = 256 := by omega
      have hsr : (Tryd.prog.info? 38).map (·.size) = some (ccells 0 fs 256).size := by rw [ccells_size]; exact sizeRow
      have HR := Lib.hid hsr
      clear hsr
      go_wp2_with (first
        | (refine wpList_load_row rfl 38 _ rfl (w.heap.size + 1) rfl 38 (ccells 0 fs 256) (0, 0) _ hC.2 Tryd.underlying38 rfl HR.out ?_)
        | (refine wpList_store_row rfl 38 _ _ rfl w.heap.size (ccells 0 fs 256) rfl rfl 38 (ccells 0 fs 0) hC.1 HR.out (by rw [ccells_size, ccells_size]) ?c1 ?_)
        | go_in)
      case c1 => simp [ccells, Value.oneCell']
      exact bodyPost_ret_by (results_cell_row rfl _ _ w.heap.size 38 (ccells 0 fs 256) (0, 0) _ rfl (setRow_heap _ _ _ _ _ _ hC.1) Tryd.underlying38 rfl HR.out) rfl ⟨rfl, below_setRow hbel (Nat.le_refl _) _⟩

theorem refclasses_any (v : Value) (n : Nat) (x0 x1 x2 x3 : Nat → Int) (fs : Nat → Nat → Bool) (hS : ∀ i, i < n → IsSet (x0 i) (x1 i) (x2 i) (x3 i) (fs i)) (hn : n ≤ 1000) (w : World) (hv : SetsAt w v n x0 x1 x2 x3) :
    Calls Tryd.prog 34 #[v] w (fun e w' => e = .returned (.agg (ccells n fs 256)) ∧ Below w.heap.size w w') := by
  rcases hv with ⟨o, cap, rfl, rfl⟩ | ⟨B, off, cap, rfl, hc, hB, hs⟩
  · exact refclasses_nil o cap fs w
  · exact refclasses_some B off n cap x0 x1 x2 x3 fs hS hn hc w hs hB

end Go.Proofs.YtchicecmoknkjaaDoor
