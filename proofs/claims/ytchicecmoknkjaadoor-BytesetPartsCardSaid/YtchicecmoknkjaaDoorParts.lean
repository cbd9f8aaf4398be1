/- BytesetParts is true for every input: for every list of sets, nil or not, without any condition: by at most 12 sets two bytes have one class just if the same sets have them, and the classes' numbers have no gap. -/
import Derived.Deep.RegionHeld3
import Derived.Deep.QuietTactic
import Derived.Test.YtchicecmoknkjaaDoorListFrame
namespace Go.Proofs.YtchicecmoknkjaaDoor.bytesetParts
open Go.ChangeShapes Go.WideShapes Go.ChangeAt Go.RowKit Go.Proofs.YtchicecmoknkjaaDoor
set_option linter.unusedVariables false

theorem clOf_iff (n : Nat) (fs : Nat → Nat → Bool) (b c : Nat) : clOf n fs b = clOf n fs c ↔ sm n fs b c = true := by
  constructor
  · intro h
    have key : ∀ b c, clOf n fs b = clOf n fs c → ¬ rep n fs b < rep n fs c := by
      intro b c h hl
      have h1 := clOf_lt (n := n) (fs := fs) hl
      have h2 := clOf_eq (rep_spec n fs b).1
      unfold clOf at h h1 h2
      omega
    have e : rep n fs b = rep n fs c := by
      have h1 := key b c h
      have h2 := key c b h.symm
      omega
    have p := (rep_spec n fs b).1
    have q := (rep_spec n fs c).1
    rw [← e] at q
    exact sm_trans p (sm_symm q)
  · exact clOf_eq

theorem clOf_top (n : Nat) (fs : Nat → Nat → Bool) (k : Nat) : clOf n fs k ≤ numC n fs k ∧ numC n fs (k + 1) = max (numC n fs k) (clOf n fs k + 1) := by
  cases ha : anyS n fs k k with
  | true =>
    obtain ⟨j, hj, hs⟩ := (anyS_iff n fs k k).1 ha
    have h1 := clOf_lt (n := n) (fs := fs) hj
    rw [← clOf_eq hs] at h1
    rw [numC_old ha]
    omega
  | false =>
    rw [numC_new ha, clOf_new ha]
    omega

theorem mx (N p : Nat) : (if (N : Int) < (p : Int) + 1 then (p : Int) + 1 else (N : Int)) = ((max N (p + 1) : Nat) : Int) := by
  split <;> omega

theorem classes_h (v : Value) (n : Nat) (x0 x1 x2 x3 : Nat → Int) (fs : Nat → Nat → Bool) (C : Array Value) (hS : Hid (∀ i, i < n → IsSet (x0 i) (x1 i) (x2 i) (x3 i) (fs i))) (hn : n ≤ 1000) (w : World) (hv : SetsAt w v n x0 x1 x2 x3) (hC : Hid (C = ccells n fs 256)) :
    Calls Tryd.prog 33 #[v] w (fun e w' => e = .returned (.agg C) ∧ Below w.heap.size w w') := by
  rw [hC.out]; exact classes_any v n x0 x1 x2 x3 fs hS.out hn w hv

/-- Block G holds the classes. -/
def Row (W : World) (G : Nat) (C : Array Value) : Prop := W.heap[G]? = some (.cells C 38 (0, 0))
theorem Row.below {W W' : World} {G : Nat} {C : Array Value} (h : Row W G C) (hb : Below W.heap.size W W') : Row W' G C := (hb.block G (heap_lt h)).trans h
theorem Row.cell {W : World} {G : Nat} {C : Array Value} {n : Nat} {fs : Nat → Nat → Bool} (h : Row W G C) (hC : C = ccells n fs 256) (b : Nat) (hb : b < 256) : W.cell? ⟨G, b, none⟩ = some (.int .i64 (clOf n fs b : Int)) := by
  rw [cell_of_row W G b _ _ _ h, hC, ccells_at n fs 256 b hb]; simp [hb]
theorem Row.drew {W : World} {G : Nat} {C : Array Value} (h : Row W G C) : Row W.drew G C := h

set_option maxRecDepth 100000 in
set_option maxHeartbeats 8000000 in
theorem walk_some (B off n cap : Nat) (x0 x1 x2 x3 : Nat → Int) (fs : Nat → Nat → Bool) (hS : ∀ i, i < n → IsSet (x0 i) (x1 i) (x2 i) (x3 i) (fs i)) (hn : n ≤ 12) (hcap : n ≤ cap) (w : World) (hTD : TabD w) (hv : SetsIn w B off n x0 x1 x2 x3) (hB : B < w.heap.size) :
    Calls Tryd.prog 9 #[.slice (some ⟨B, off, none⟩) n cap] w (RetBool true w) := by
  have HT := Lib.hid hTD
  clear hTD
  obtain ⟨C, hC⟩ : ∃ C, C = ccells n fs 256 := ⟨_, rfl⟩
  obtain ⟨Z, hZ⟩ : ∃ Z, Z = ccells n fs 0 := ⟨_, rfl⟩
  have hz : ∀ w : World, (zeroValue 38).run Tryd.prog w = .ok (.agg Z) w := by
    intro w; rw [hZ, ccells_zero]; exact zeroRow w
  have hZs : Z.size = C.size := by rw [hZ, hC, ccells_size, ccells_size]
  have hsr : (Tryd.prog.info? 38).map (·.size) = some C.size := by rw [hC, ccells_size]; exact sizeRow
  have hone : (C.all fun x => x.oneCell') = true := by rw [hC]; simp [ccells, Value.oneCell']
  have HZ := Lib.hid hZs
  have HR := Lib.hid hsr
  have HO := Lib.hid hone
  have HC := Lib.hid hC
  have HS := Lib.hid hS
  have HV := Lib.hid hv
  have HI : SetsAt w (.slice (some ⟨B, off, none⟩) n cap) n x0 x1 x2 x3 := .inr ⟨B, off, cap, rfl, hcap, hB, hv⟩
  clear hv
  have HI2 := Lib.hid HI
  clear hC hZ hS HI hZs hsr hone
  go_enter Tryd.func9, Tryd.ntmps9
  go_wp2_with fail
  refine (awake_any _ HT.out).mono ?_
  rintro e w1 ⟨rfl, hb1⟩
  have hv1 := HI2.out.below hb1
  go_wp2_with fail
  refine (classes_h _ n x0 x1 x2 x3 fs C HS (by omega) _ hv1 HC).mono ?_
  rintro e w2 ⟨rfl, hb2⟩
  have hbw := below_step hb1 hb2
  have hBs : w.heap.size ≤ w2.heap.size := hbw.size
  have hrow : Row ((w2.alloc (.cells Z 38)).setRow w2.heap.size C) w2.heap.size C := setRow_heap _ _ _ _ _ _ (heap_alloc_new w2 _)
  have hbR : Below w.heap.size w ((w2.alloc (.cells Z 38)).setRow w2.heap.size C) := below_setRow (below_alloc hbw _) hBs _
  clear hb1 hb2 hv1 hbw
  go_wp2_with (first
    | (refine wpList_store_row rfl 38 _ _ rfl w2.heap.size C rfl rfl 38 Z (heap_alloc_new w2 _) HR.out HZ.out HO.out ?_)
    | go_in)
  go_loopw [5, 6] (fun mv kv wr => ∃ k N : Nat, kv = .int .i64 k ∧ mv = .int .i64 N ∧ N = numC n fs k ∧ k ≤ 256 ∧ Row wr w2.heap.size C ∧ Below w.heap.size w wr)
    (fun _ i _ => 256 - (intOf i).toNat)
  case atStart => exact ⟨0, 0, rfl, rfl, rfl, by omega, hrow, hbR⟩
  case round =>
    obtain ⟨k, N, rfl, rfl, hN, hk, hrw, hbel⟩ := hrel
    by_cases ht : k < 256
    · have HN := Lib.hid hN
      have hNk : N ≤ 256 := by rw [hN]; exact Nat.le_trans (numC_le n fs k) hk
      clear hN
      have htd : decide ((k : Int) < 256) = true := by simp; omega
      go_wp2
      clear htd
      go_loopw [7] (fun jv wm => ∃ j : Nat, jv = .int .i64 j ∧ j ≤ k ∧ Row wm w2.heap.size C ∧ Below w.heap.size w wm) (fun jv _ => k - (intOf jv).toNat)
      case atStart => exact ⟨0, rfl, by omega, hrw, hbel⟩
      case round =>
        obtain ⟨j, rfl, hj, hrm, hbm⟩ := hrel
        obtain ⟨wm, hwm⟩ : ∃ x : World, x = wr := ⟨_, rfl⟩
        subst hwm
        by_cases htj : j < k
        · go_wp2
          go_loopw [8, 9] (fun sv iv wi => ∃ i : Nat, iv = .int .i64 i ∧ i ≤ n ∧ sv = .bool (sm i fs k j) ∧ Below wm.heap.size wm wi) (fun _ iv _ => n - (intOf iv).toNat)
          case atStart => exact ⟨0, rfl, by omega, by rw [sm_zero], Below.refl _ _⟩
          case round =>
            obtain ⟨i, rfl, hi, rfl, hbi⟩ := hrel
            have hbi2 := below_step hbm hbi
            by_cases hti : i < n
            · obtain ⟨c0, c1, c2, c3⟩ := (HV.out.below hbi2 hB) i hti
              have hsi := HS.out i hti
              have hsx := sm_succ i fs k j
              have hk1 := hasB_nat (fs i) k ht
              have hj1 := hasB_nat (fs i) j (by omega)
              have hBm : B < wm.heap.size := Nat.lt_of_lt_of_le hB hbm.size
              generalize x0 i = a0 at *
              generalize x1 i = a1 at *
              generalize x2 i = a2 at *
              generalize x3 i = a3 at *
              have hR : CR wm B off i a0 a1 a2 a3 wr := ⟨⟨c0, c1, c2, c3⟩, hBm, hbi⟩
              cases hs : sm i fs k j with
              | false =>
                rw [hs] at hsx
                have HSX := Lib.hid hsx
                clear hsx hs hk1 hj1 hR hsi
                go_wp2
                go_region
                go_wp2
                go_roundw
                case rel => exact ⟨i + 1, by go_num, by omega, by rw [HSX.out]; rfl, hbi.drew⟩
                case measure => simp [intOf]; omega
              | true =>
                rw [hs] at hsx
                cases hka : fs i k <;> cases hja : fs i j
                · rw [hka] at hk1 hsx; rw [hja] at hj1 hsx
                  have HSX := Lib.hid hsx
                  clear hsx hs hka hja
                  go_wp2
                  go_region_held3 (fun W => (W.cell? ⟨B, off + i * 4, none⟩ = some (.int .u64 a0) ∧ W.cell? ⟨B, off + i * 4 + 1, none⟩ = some (.int .u64 a1) ∧ W.cell? ⟨B, off + i * 4 + 2, none⟩ = some (.int .u64 a2) ∧ W.cell? ⟨B, off + i * 4 + 3, none⟩ = some (.int .u64 a3)) ∧ B < wm.heap.size ∧ Below wm.heap.size wm W)
                    (first | exact CR.alloc (by assumption) _ | exact CR.drew (by assumption))
                    (first | (go_at_call 26; refine (has_any _ _ _ _ _ _ _ hsi).mono ?_; rintro e w' ⟨rfl, rfl⟩))
                  rename_i hW
                  obtain ⟨_, _, hbW⟩ := hW
                  go_wp2
                  go_roundw
                  case rel => exact ⟨i + 1, by go_num, by omega, by rw [HSX.out]; rfl, hbW⟩
                  case measure => simp [intOf]; omega
                · rw [hka] at hk1 hsx; rw [hja] at hj1 hsx
                  have HSX := Lib.hid hsx
                  clear hsx hs hka hja
                  go_wp2
                  go_region_held3 (fun W => (W.cell? ⟨B, off + i * 4, none⟩ = some (.int .u64 a0) ∧ W.cell? ⟨B, off + i * 4 + 1, none⟩ = some (.int .u64 a1) ∧ W.cell? ⟨B, off + i * 4 + 2, none⟩ = some (.int .u64 a2) ∧ W.cell? ⟨B, off + i * 4 + 3, none⟩ = some (.int .u64 a3)) ∧ B < wm.heap.size ∧ Below wm.heap.size wm W)
                    (first | exact CR.alloc (by assumption) _ | exact CR.drew (by assumption))
                    (first | (go_at_call 26; refine (has_any _ _ _ _ _ _ _ hsi).mono ?_; rintro e w' ⟨rfl, rfl⟩))
                  rename_i hW
                  obtain ⟨_, _, hbW⟩ := hW
                  go_wp2
                  go_roundw
                  case rel => exact ⟨i + 1, by go_num, by omega, by rw [HSX.out]; rfl, hbW⟩
                  case measure => simp [intOf]; omega
                · rw [hka] at hk1 hsx; rw [hja] at hj1 hsx
                  have HSX := Lib.hid hsx
                  clear hsx hs hka hja
                  go_wp2
                  go_region_held3 (fun W => (W.cell? ⟨B, off + i * 4, none⟩ = some (.int .u64 a0) ∧ W.cell? ⟨B, off + i * 4 + 1, none⟩ = some (.int .u64 a1) ∧ W.cell? ⟨B, off + i * 4 + 2, none⟩ = some (.int .u64 a2) ∧ W.cell? ⟨B, off + i * 4 + 3, none⟩ = some (.int .u64 a3)) ∧ B < wm.heap.size ∧ Below wm.heap.size wm W)
                    (first | exact CR.alloc (by assumption) _ | exact CR.drew (by assumption))
                    (first | (go_at_call 26; refine (has_any _ _ _ _ _ _ _ hsi).mono ?_; rintro e w' ⟨rfl, rfl⟩))
                  rename_i hW
                  obtain ⟨_, _, hbW⟩ := hW
                  go_wp2
                  go_roundw
                  case rel => exact ⟨i + 1, by go_num, by omega, by rw [HSX.out]; rfl, hbW⟩
                  case measure => simp [intOf]; omega
                · rw [hka] at hk1 hsx; rw [hja] at hj1 hsx
                  have HSX := Lib.hid hsx
                  clear hsx hs hka hja
                  go_wp2
                  go_region_held3 (fun W => (W.cell? ⟨B, off + i * 4, none⟩ = some (.int .u64 a0) ∧ W.cell? ⟨B, off + i * 4 + 1, none⟩ = some (.int .u64 a1) ∧ W.cell? ⟨B, off + i * 4 + 2, none⟩ = some (.int .u64 a2) ∧ W.cell? ⟨B, off + i * 4 + 3, none⟩ = some (.int .u64 a3)) ∧ B < wm.heap.size ∧ Below wm.heap.size wm W)
                    (first | exact CR.alloc (by assumption) _ | exact CR.drew (by assumption))
                    (first | (go_at_call 26; refine (has_any _ _ _ _ _ _ _ hsi).mono ?_; rintro e w' ⟨rfl, rfl⟩))
                  rename_i hW
                  obtain ⟨_, _, hbW⟩ := hW
                  go_wp2
                  go_roundw
                  case rel => exact ⟨i + 1, by go_num, by omega, by rw [HSX.out]; rfl, hbW⟩
                  case measure => simp [intOf]; omega
            · obtain rfl : i = n := by omega
              have hri := hrm.below hbi
              have e1 := hri.cell HC.out k ht
              have e2 := hri.cell HC.out j (by omega)
              cases hs : sm i fs k j with
              | true =>
                rw [← (clOf_iff i fs k j).2 hs] at e2
                obtain ⟨p, hp⟩ : ∃ p, p = clOf i fs k := ⟨_, rfl⟩
                rw [← hp] at e1 e2
                have HE := Lib.hid hs
                clear hs hp
                go_wp2
                go_quiet (fail)
                go_wp2
                go_roundw
                case rel => exact ⟨j + 1, by go_num, by omega, hri, below_drewN hbi2 _⟩
                case measure => simp [intOf]; omega
              | false =>
                have hne : ¬ (clOf i fs k = clOf i fs j) := by
                  intro h
                  rw [(clOf_iff i fs k j).1 h] at hs
                  cases hs
                obtain ⟨p, hp⟩ : ∃ p, p = clOf i fs k := ⟨_, rfl⟩
                obtain ⟨q, hq⟩ : ∃ q, q = clOf i fs j := ⟨_, rfl⟩
                rw [← hp] at e1 hne
                rw [← hq] at e2 hne
                have hne2 : ¬ ((p : Int) = (q : Int)) := by omega
                clear hp hq
                go_wp2
                go_quiet (fail)
                go_wp2
                go_roundw
                case rel => exact ⟨j + 1, by go_num, by omega, hri, below_drewN hbi2 _⟩
                case measure => simp [intOf]; omega
        · obtain rfl : j = k := by omega
          have e1 := hrm.cell HC.out j ht
          obtain ⟨h1, h2⟩ := clOf_top n fs j
          rw [← HN.out] at h1 h2
          obtain ⟨p, hp⟩ : ∃ p, p = clOf n fs j := ⟨_, rfl⟩
          rw [← hp] at e1 h1 h2
          have HM := Lib.hid h2
          have t1 : decide ((p : Int) < 0) = false := by simp
          have t2 : decide ((N : Int) < (p : Int)) = false := by simp; omega
          have t3 : decide (N < p) = false := by simp; omega
          have hp2 : p ≤ 256 := by omega
          clear hp h2
          go_wp2
          go_roundw
          case rel => exact ⟨j + 1, max N (p + 1), by go_num, by rw [mx], HM.out.symm, by omega, hrm, hbm⟩
          case measure => simp [intOf]; omega
    · obtain rfl : k = 256 := by omega
      go_wp2
      go_ret
      exact ⟨rfl, hbel⟩

set_option maxRecDepth 100000 in
set_option maxHeartbeats 8000000 in
theorem walk_nil (o : Option Addr) (n cap : Nat) (hn0 : n = 0) (x0 x1 x2 x3 : Nat → Int) (fs : Nat → Nat → Bool) (hS : ∀ i, i < n → IsSet (x0 i) (x1 i) (x2 i) (x3 i) (fs i)) (hn : n ≤ 12) (w : World) (hTD : TabD w) :
    Calls Tryd.prog 9 #[.slice o 0 cap] w (RetBool true w) := by
  have HT := Lib.hid hTD
  clear hTD
  obtain ⟨C, hC⟩ : ∃ C, C = ccells n fs 256 := ⟨_, rfl⟩
  obtain ⟨Z, hZ⟩ : ∃ Z, Z = ccells n fs 0 := ⟨_, rfl⟩
  have hz : ∀ w : World, (zeroValue 38).run Tryd.prog w = .ok (.agg Z) w := by
    intro w; rw [hZ, ccells_zero]; exact zeroRow w
  have hZs : Z.size = C.size := by rw [hZ, hC, ccells_size, ccells_size]
  have hsr : (Tryd.prog.info? 38).map (·.size) = some C.size := by rw [hC, ccells_size]; exact sizeRow
  have hone : (C.all fun x => x.oneCell') = true := by rw [hC]; simp [ccells, Value.oneCell']
  have HZ := Lib.hid hZs
  have HR := Lib.hid hsr
  have HO := Lib.hid hone
  have HC := Lib.hid hC
  have HS := Lib.hid hS
  have HI : SetsAt w (.slice o 0 cap) n x0 x1 x2 x3 := .inl ⟨o, cap, rfl, hn0⟩
  have HI2 := Lib.hid HI
  clear hC hZ hS HI hZs hsr hone
  go_enter Tryd.func9, Tryd.ntmps9
  go_wp2_with fail
  refine (awake_any _ HT.out).mono ?_
  rintro e w1 ⟨rfl, hb1⟩
  have hv1 := HI2.out.below hb1
  go_wp2_with fail
  refine (classes_h _ n x0 x1 x2 x3 fs C HS (by omega) _ hv1 HC).mono ?_
  rintro e w2 ⟨rfl, hb2⟩
  have hbw := below_step hb1 hb2
  have hBs : w.heap.size ≤ w2.heap.size := hbw.size
  have hrow : Row ((w2.alloc (.cells Z 38)).setRow w2.heap.size C) w2.heap.size C := setRow_heap _ _ _ _ _ _ (heap_alloc_new w2 _)
  have hbR : Below w.heap.size w ((w2.alloc (.cells Z 38)).setRow w2.heap.size C) := below_setRow (below_alloc hbw _) hBs _
  clear hb1 hb2 hv1 hbw
  go_wp2_with (first
    | (refine wpList_store_row rfl 38 _ _ rfl w2.heap.size C rfl rfl 38 Z (heap_alloc_new w2 _) HR.out HZ.out HO.out ?_)
    | go_in)
  go_loopw [5, 6] (fun mv kv wr => ∃ k N : Nat, kv = .int .i64 k ∧ mv = .int .i64 N ∧ N = numC n fs k ∧ k ≤ 256 ∧ Row wr w2.heap.size C ∧ Below w.heap.size w wr)
    (fun _ i _ => 256 - (intOf i).toNat)
  case atStart => exact ⟨0, 0, rfl, rfl, rfl, by omega, hrow, hbR⟩
  case round =>
    obtain ⟨k, N, rfl, rfl, hN, hk, hrw, hbel⟩ := hrel
    by_cases ht : k < 256
    · have HN := Lib.hid hN
      have hNk : N ≤ 256 := by rw [hN]; exact Nat.le_trans (numC_le n fs k) hk
      clear hN
      have htd : decide ((k : Int) < 256) = true := by simp; omega
      go_wp2
      clear htd
      go_loopw [7] (fun jv wm => ∃ j : Nat, jv = .int .i64 j ∧ j ≤ k ∧ Row wm w2.heap.size C ∧ Below w.heap.size w wm) (fun jv _ => k - (intOf jv).toNat)
      case atStart => exact ⟨0, rfl, by omega, hrw, hbel⟩
      case round =>
        obtain ⟨j, rfl, hj, hrm, hbm⟩ := hrel
        obtain ⟨wm, hwm⟩ : ∃ x : World, x = wr := ⟨_, rfl⟩
        subst hwm
        by_cases htj : j < k
        · go_wp2
          go_loopw [8, 9] (fun sv iv wi => iv = .int .i64 0 ∧ sv = .bool true ∧ Below wm.heap.size wm wi) (fun _ _ _ => 0)
          case atStart => exact ⟨rfl, rfl, Below.refl _ _⟩
          case round =>
              obtain ⟨rfl, rfl, hbi⟩ := hrel
              have hbi2 := below_step hbm hbi
              have hri := hrm.below hbi
              have e1 := hri.cell HC.out k ht
              have e2 := hri.cell HC.out j (by omega)
              have hs : sm n fs k j = true := by rw [hn0]; rfl
              rw [← (clOf_iff n fs k j).2 hs] at e2
              obtain ⟨p, hp⟩ : ∃ p, p = clOf n fs k := ⟨_, rfl⟩
              rw [← hp] at e1 e2
              clear hs hp
              go_wp2
              go_quiet (fail)
              go_wp2
              go_roundw
              case rel => exact ⟨j + 1, by go_num, by omega, hri, below_drewN hbi2 _⟩
              case measure => simp [intOf]; omega
        · obtain rfl : j = k := by omega
          have e1 := hrm.cell HC.out j ht
          obtain ⟨h1, h2⟩ := clOf_top n fs j
          rw [← HN.out] at h1 h2
          obtain ⟨p, hp⟩ : ∃ p, p = clOf n fs j := ⟨_, rfl⟩
          rw [← hp] at e1 h1 h2
          have HM := Lib.hid h2
          have t1 : decide ((p : Int) < 0) = false := by simp
          have t2 : decide ((N : Int) < (p : Int)) = false := by simp; omega
          have t3 : decide (N < p) = false := by simp; omega
          have hp2 : p ≤ 256 := by omega
          clear hp h2
          go_wp2
          go_roundw
          case rel => exact ⟨j + 1, max N (p + 1), by go_num, by rw [mx], HM.out.symm, by omega, hrm, hbm⟩
          case measure => simp [intOf]; omega
    · obtain rfl : k = 256 := by omega
      go_wp2
      go_ret
      exact ⟨rfl, hbel⟩

set_option maxRecDepth 100000 in
set_option maxHeartbeats 4000000 in
theorem walk_long (a : Option Addr) (n cap : Nat) (hn : ¬ n ≤ 12) (hmax : n ≤ maxLen) (w : World) (hTD : TabD w) :
    Calls Tryd.prog 9 #[.slice a n cap] w (RetBool true w) := by
  have HT := Lib.hid hTD
  clear hTD
  go_enter Tryd.func9, Tryd.ntmps9
  go_wp2_with fail
  refine (awake_any _ HT.out).mono ?_
  rintro e w1 ⟨rfl, hb1⟩
  have ht : decide ((12 : Int) < (n : Int)) = true := by simp; omega
  go_wp2
  go_ret
  exact ⟨rfl, hb1⟩

theorem walk (a : Option Addr) (n cap : Nat) (x0 x1 x2 x3 : Nat → Int) (fs : Nat → Nat → Bool) (hS : ∀ i, i < n → IsSet (x0 i) (x1 i) (x2 i) (x3 i) (fs i)) (hmax : n ≤ maxLen) (w : World) (hTD : TabD w) (hv : SetsAt w (.slice a n cap) n x0 x1 x2 x3) :
    Calls Tryd.prog 9 #[.slice a n cap] w (RetBool true w) := by
  have HT := Lib.hid hTD
  clear hTD
  by_cases hn : n ≤ 12
  · rcases hv with ⟨o, cap', hv, h0⟩ | ⟨B, off, cap', hv, hc, hB, hs⟩
    · simp only [Value.slice.injEq] at hv
      obtain ⟨rfl, _, rfl⟩ := hv
      subst h0
      exact walk_nil a 0 cap rfl x0 x1 x2 x3 fs hS hn w HT.out
    · simp only [Value.slice.injEq] at hv
      obtain ⟨rfl, _, rfl⟩ := hv
      exact walk_some B off n cap x0 x1 x2 x3 fs hS hn hc w HT.out hs hB
  · exact walk_long a n cap hn hmax w HT.out

set_option maxRecDepth 100000 in
set_option maxHeartbeats 1000000 in
theorem lifted (os : Os) (started : os.Started) (H : Type) (enc : TypeId × Value → H) :
    ReturnsInHanded {} Tryd.checked os 9 .any (fun w args => (Rows.bytesetPartsSpec.pre enc Tryd.prog Tryd.f9 Rows.bytesetPartsRow.domain false w args ∧ laidMetH Tryd.prog Rows.bytesetPartsRow.laid w) ∧ sizedMet enc Tryd.prog Tryd.f9 (OpenSpec.ofChange Rows.bytesetPartsSpec) false w args)
      (Rows.bytesetPartsSpec.post enc Tryd.prog Tryd.f9 false true false false) := by
  refine returnsInHanded_of_change_and (C := Tryd.checked) (X := fun w _ => laidMetH Tryd.prog Rows.bytesetPartsRow.laid w) (fun _ _ _ hh h => h.of_heap hh) noKnob started (by kernel_rfl) Tryd.func9
    (ChangeSpec.witness_shaped (enc := enc) (C := Tryd.checked) (os := os) (X := fun w _ => laidMetH Tryd.prog Rows.bytesetPartsRow.laid w) false (World.laidAll Tryd.prog os Rows.bytesetPartsRow.laid) #[.slice none 0 0] 8 (World.laidAll_os _ _ _)
      (World.shaped_of_ZipB (by kernel_rfl) (by kernel_rfl)) (by kernel_rfl) (by kernel_rfl) (by kernel_rfl)
      (by rw [MakeChecks.laidMetH_plain _ _ _ (by kernel_rfl)]; exact laidMet_laidAll _ (by kernel_rfl) (by kernel_rfl))) ?_
  intro W base args ds gs before hval0 hW hcnd _ hL _
  have hval : ∀ (j : Nat) t v, Tryd.f9.params[j]? = some t → args[j]? = some v → Value.okWide Tryd.prog W .any base t v := hval0
  have hW' := hW
  obtain ⟨p, q, hA0, hV, rfl, hfz, hnd⟩ := hW
  have hA : DataW.TrodAll enc Tryd.prog W 0 (fun _ => true) true Tryd.f9.params.toList args.toList ds p := hA0
  rw [Tryd.params9] at hA hval
  obtain ⟨v0, vs0, d0, ds0, p0, q0, hargs, rfl, rfl, h0, r0⟩ := trodAll_cons hA
  obtain ⟨rfl, rfl, rfl⟩ := trodAll_nil r0
  obtain rfl : args = #[v0] := by cases args; simp_all
  obtain ⟨rfl, rfl⟩ := trodVars_none hV
  clear hA0 hval0 hA
  simp only [List.append_nil] at hW'
  have hlt := hW'.lt
  obtain ⟨a, n, cap, x0, x1, x2, x3, rfl, hmax, hs, hS⟩ := open_sets (hval 0 37 v0 rfl rfl) h0 (fun x hx => by simpa using hlt x (by simp [hx]))
  have hTD := tab_of_laid hL (MakeChecks.laidMetH_plain _ _ _ (by kernel_rfl)) (by kernel_rfl)
  refine (walk a n cap x0 x1 x2 x3 _ hS hmax W hTD hs).mono fun e W' ⟨he, hg⟩ => ?_
  subst he
  exact ⟨_, rfl, post_of_old (pv := []) hW' (fun _ _ _ => trodAll_cons_mk (shut_bool Tryd.underlying4 _) trodAll_mk0) (trodAll_cons_mk (Below.trod laidOutP (by kernel_rfl) (of_decide_eq_true (by kernel_rfl)) h0 hg (fun x hx => by simpa using hlt x (by simp [hx]))) (trodAll_mk0)) (fun _ => rfl) (by simp) hg⟩

theorem over : Rows.bytesetPartsRow.holds Tryd.pinned (OpenSpec.ofChange Rows.bytesetPartsSpec) :=
  OpenClaim.holds_of_wide 9 Tryd.f9 rfl rfl rfl rfl rfl rfl rfl ⟨rfl, rfl, rfl, rfl, rfl⟩ rfl rfl rfl rfl rfl (by kernel_rfl) Tryd.func9 (by kernel_rfl)
    (of_decide_eq_true (by kernel_rfl)) (by unfold Func.isWrapper; first | (rw [if_pos (by decide +kernel)]; kernel_rfl) | (rw [if_neg (by decide +kernel)]; exact ⟨rfl, rfl⟩))
    (fun os started H enc _ => lifted os started H enc)

/-- No parameter wants a stand-in. -/
theorem plain (f : FuncId) (fn : Func) (hf : Tryd.pinned.checked.prog.funcNamed "reglet/regletlaw01.BytesetParts" = some f) (hfn : Tryd.pinned.checked.prog.funcs[f]? = some fn) :
    false = Tryd.pinned.checked.prog.looks [] ∧ ∀ (j : Nat) t, fn.params[j]? = some t → Tryd.pinned.checked.prog.wantsStandIn t = false := by
  obtain rfl : f = 9 := Option.some.inj ((show Tryd.prog.funcNamed "reglet/regletlaw01.BytesetParts" = some 9 by kernel_rfl).symm.trans hf) |>.symm
  obtain rfl : fn = Tryd.f9 := (Option.some.inj (Tryd.func9.symm.trans hfn)).symm
  refine ⟨by kernel_rfl, fun j t ht => ?_⟩
  rw [Tryd.params9] at ht
  have hm : t ∈ [37] := by simpa using Array.mem_of_getElem? ht
  have hall : ([37].all fun u => !Tryd.prog.wantsStandIn u) = true := by kernel_rfl
  exact (show Tryd.prog.wantsStandIn t = false by simpa using List.all_eq_true.1 hall t hm)

/-- The statement. -/
theorem proved : Rows.BytesetPartsCardSaid :=
  Claim7.holds_tied_plain_at .later [] _ _ _ _ over (fun _ h => by cases h) (by kernel_rfl) (fun _ h => by cases h) bytesetParts_row_tie rfl ⟨rfl, rfl⟩ (by kernel_rfl) rfl plain (by kernel_rfl)

#print axioms proved
end Go.Proofs.YtchicecmoknkjaaDoor.bytesetParts
