/- The program's union: the bytes of all that are Byte. No condition. -/
import Derived.Test.YtclnadjgbpihcaaGreatDoorOpen
namespace Go.Proofs.YtclnadjgbpihcaaGreatDoor
open Go.RowKit Go.Lib
set_option linter.unusedVariables false
set_option linter.unusedSimpArgs false

theorem four_below {W : World} {D B : Nat} {w : World} (h : Below B w W) (hD : B ≤ D) (a b c d : Value) :
    Below B w ((((W.setCell ⟨D, 0, none⟩ a).setCell ⟨D, 1, none⟩ b).setCell ⟨D, 2, none⟩ c).setCell ⟨D, 3, none⟩ d) := (((h.setCell hD _).setCell hD _).setCell hD _).setCell hD _
theorem four_ne {W : World} {D g : Nat} (h : g ≠ D) (a b c d : Value) :
    ((((W.setCell ⟨D, 0, none⟩ a).setCell ⟨D, 1, none⟩ b).setCell ⟨D, 2, none⟩ c).setCell ⟨D, 3, none⟩ d).heap[g]? = W.heap[g]? := by
  rw [heap_set_ne _ _ _ (by exact h), heap_set_ne _ _ _ (by exact h), heap_set_ne _ _ _ (by exact h), heap_set_ne _ _ _ (by exact h)]
def unF (l : List RT) : Nat → Bool := fun b => l.any fun r => r.kind == 2 && r.set.mem b
def GivesSet (s : W4) (w : World) (e : Ending) (w' : World) : Prop := e = .returned (.agg #[.int .u64 s.a, .int .u64 s.b, .int .u64 s.c, .int .u64 s.d]) ∧ Below w.heap.size w w'
theorem unF_take (l : List RT) (i : Nat) (u : RT) (hu : l[i]? = some u) (b : Nat) : unF (l.take (i + 1)) b = (unF (l.take i) b || (u.kind == 2 && u.set.mem b)) := by
  unfold unF
  rw [List.take_add_one, hu, List.any_append]
  simp

set_option maxRecDepth 100000 in
set_option maxHeartbeats 8000000 in
theorem union_any {P : Nat → Prop} (w : World) {p : Option Addr} {n cap : Nat} {vs : List ReV} {l : List RT} (h : KidsR w P p n cap vs l) (hn : n ≤ 1000000000000) :
    Calls Tryz.prog 60 #[.slice p n cap] w (GivesSet (unionM l) w) := by
  have HK := Lib.hid h
  have HNU := Lib.hid h.num
  obtain ⟨R, hR⟩ : ∃ R, R = w.heap.size := ⟨_, rfl⟩
  obtain ⟨D, hD⟩ : ∃ D, D = w.heap.size + 1 := ⟨_, rfl⟩
  obtain ⟨w1, hw1⟩ : ∃ w1 : World, w1 = (w.alloc (.cells #[.int .u64 0, .int .u64 0, .int .u64 0, .int .u64 0] 25)).alloc (.cells #[.int .u64 0, .int .u64 0, .int .u64 0, .int .u64 0] 25) := ⟨_, rfl⟩
  have HB1 : Hid (Below w.heap.size w w1) := by unfold Hid; rw [hw1]; exact ((Below.refl _ _).alloc (Nat.le_refl _) _).alloc (by simp) _
  have HNR : Hid (w1.heap[R]? = some (.cells #[.int .u64 0, .int .u64 0, .int .u64 0, .int .u64 0] 25 (0, 0))) := by unfold Hid; rw [hw1, hR, heap_alloc_old _ _ _ (by simp)]; exact heap_alloc_new _ _
  have HND : Hid (w1.heap[D]? = some (.cells #[.int .u64 0, .int .u64 0, .int .u64 0, .int .u64 0] 25 (0, 0))) := by unfold Hid; rw [hw1, hD]; exact two_new w _ _
  have hRD : R ≠ D := by omega
  have hDw : w.heap.size ≤ D := by omega
  have hRw : w.heap.size ≤ R := by omega
  have HW1 := Lib.hid hw1
  have HRR := Lib.hid hR
  have HDD := Lib.hid hD
  have HDW := Lib.hid hDw
  have HRW := Lib.hid hRw
  obtain ⟨U, hU⟩ : ∃ U, U = unionM l := ⟨_, rfl⟩
  rw [← hU]
  have HU := Lib.hid hU
  have z0 : IsSet 0 0 0 0 (unF (l.take 0)) := zero_isSet
  clear h hw1 hR hD hDw hRw hU
  go_enter Tryz.func60, Tryz.ntmps60
  go_wp2
  rw [← HW1.out, ← HDD.out, ← HRR.out]
  go_loopg [8] n (fun gk vi wr => ∃ (i : Nat) (a0 a1 a2 a3 : Int), vi = .int .i64 (i : Int) ∧ i ≤ n ∧ n - i ≤ gk ∧ Hid (Below w.heap.size w wr) ∧ Hid (wr.heap[R]? = some (.cells #[.int .u64 0, .int .u64 0, .int .u64 0, .int .u64 0] 25 (0, 0))) ∧ Hid (wr.heap[D]? = some (.cells #[.int .u64 a0, .int .u64 a1, .int .u64 a2, .int .u64 a3] 25 (0, 0))) ∧ Hid (IsSet a0 a1 a2 a3 (unF (l.take i))))
  case atStart => exact ⟨0, 0, 0, 0, 0, rfl, by omega, by omega, HB1.out, HNR.out, HND.out, z0⟩
  case round =>
    obtain ⟨i, a0, a1, a2, a3, rfl, hi, hgk, HB, HR, HD, HS⟩ := hrel
    by_cases hlt : i < n
    · have hltz : (i : Int) < (n : Int) := by omega
      obtain ⟨g, off, rfl⟩ := HK.out.rowv.some_of hlt
      have hil : i < l.length := by rw [← HNU.out]; exact hlt
      obtain ⟨y, hy⟩ : ∃ y, vs[i]? = some y := ⟨_, List.getElem?_eq_getElem (by rw [HK.out.len]; exact hil)⟩
      obtain ⟨u, hu⟩ : ∃ u, l[i]? = some u := ⟨_, List.getElem?_eq_getElem hil⟩
      have hpl := HK.out.place hy
      have hra := HK.out.each i y u hy hu
      obtain ⟨ws, et, hyok, _⟩ := hra.kids
      have hukd : u.kind = y.kind := by rw [et]; rfl
      have huset : u.set = y.w4 := by rw [et]; rfl
      clear et
      have htk := unF_take l i u hu
      obtain ⟨k, a, b, c, d, q, m, cp⟩ := y
      simp only at hukd
      obtain ⟨p0, p1, p2, p3, p4, p5⟩ := (hpl.under HB.out).six
      simp only at p0 p1 p2 p3 p4 p5
      have hRl := (Array.getElem?_eq_some_iff.1 HR.out).1
      have hDl := (Array.getElem?_eq_some_iff.1 HD.out).1
      have hR1 := (heap_alloc_old wr (.cells #[.int .i64 k, .int .u64 a, .int .u64 b, .int .u64 c, .int .u64 d, .slice q m cp] 28) R hRl).trans HR.out
      have hD1 := (heap_alloc_old wr (.cells #[.int .i64 k, .int .u64 a, .int .u64 b, .int .u64 c, .int .u64 d, .slice q m cp] 28) D hDl).trans HD.out
      have HBA : Hid (Below w.heap.size w (wr.alloc (.cells #[.int .i64 k, .int .u64 a, .int .u64 b, .int .u64 c, .int .u64 d, .slice q m cp] 28))) := HB.out.alloc HB.out.size _
      have s0 : (wr.alloc (.cells #[.int .i64 k, .int .u64 a, .int .u64 b, .int .u64 c, .int .u64 d, .slice q m cp] 28)).cell? ⟨D, 0, none⟩ = some (.int .u64 a0) := by simp [World.cell?, hD1]
      have s1 : (wr.alloc (.cells #[.int .i64 k, .int .u64 a, .int .u64 b, .int .u64 c, .int .u64 d, .slice q m cp] 28)).cell? ⟨D, 1, none⟩ = some (.int .u64 a1) := by simp [World.cell?, hD1]
      have s2 : (wr.alloc (.cells #[.int .i64 k, .int .u64 a, .int .u64 b, .int .u64 c, .int .u64 d, .slice q m cp] 28)).cell? ⟨D, 2, none⟩ = some (.int .u64 a2) := by simp [World.cell?, hD1]
      have s3 : (wr.alloc (.cells #[.int .i64 k, .int .u64 a, .int .u64 b, .int .u64 c, .int .u64 d, .slice q m cp] 28)).cell? ⟨D, 3, none⟩ = some (.int .u64 a3) := by simp [World.cell?, hD1]
      have HR1 := Lib.hid hR1
      have HD1 := Lib.hid hD1
      have HTK := Lib.hid htk
      have HUK := Lib.hid hukd
      have HUS := Lib.hid huset
      have HYO := Lib.hid hyok
      clear hpl hra hukd huset hyok htk hy hu hR1 hD1 hil
      by_cases hk : k = 2
      · subst hk
        have c9 := join_any a0 a1 a2 a3 a b c d _ _ (wr.alloc (.cells #[.int .i64 2, .int .u64 a, .int .u64 b, .int .u64 c, .int .u64 d, .slice q m cp] 28)) HS.out (W4.isSet HYO.out)
        go_wp2_with fail
        ((with_reducible refine c9.mono ?_))
        rintro _ w2 ⟨r0, r1, r2, r3, hr, rfl, hb2⟩
        have h2R := (hb2.block _ (Array.getElem?_eq_some_iff.1 HR1.out).1).trans HR1.out
        have h2D := (hb2.block _ (Array.getElem?_eq_some_iff.1 HD1.out).1).trans HD1.out
        have t0 : w2.cell? ⟨D, 0, none⟩ = some (.int .u64 a0) := by simp [World.cell?, h2D]
        have t1 : w2.cell? ⟨D, 1, none⟩ = some (.int .u64 a1) := by simp [World.cell?, h2D]
        have t2 : w2.cell? ⟨D, 2, none⟩ = some (.int .u64 a2) := by simp [World.cell?, h2D]
        have t3 : w2.cell? ⟨D, 3, none⟩ = some (.int .u64 a3) := by simp [World.cell?, h2D]
        have f0 := frozen_no h2D 0
        have f1 := frozen_no h2D 1
        have f2 := frozen_no h2D 2
        have f3 := frozen_no h2D 3
        have HB2 : Hid (Below w.heap.size w w2) := HBA.out.trans (hb2.mono HBA.out.size)
        have H2R := Lib.hid h2R
        have H2D := Lib.hid h2D
        have HRS := Lib.hid hr
        clear hr hb2 h2R h2D c9
        go_wp2
        go_roundg (n - (i + 1))
        case measure => omega
        case rel =>
          refine ⟨i + 1, r0, r1, r2, r3, by go_num, by omega, Nat.le_refl _, four_below HB2.out HDW.out _ _ _ _, (four_ne hRD _ _ _ _).trans H2R.out, set4_heap H2D.out _ _ _ _, ?_⟩
          exact HRS.out.congr fun b hb => by rw [HTK.out, HUK.out, HUS.out]; rfl
      · have hkz : (k == 2) = false := by simpa using hk
        have HKZ := Lib.hid hkz
        clear hk
        go_wp2
        go_roundg (n - (i + 1))
        case measure => omega
        case rel =>
          refine ⟨i + 1, a0, a1, a2, a3, by go_num, by omega, Nat.le_refl _, HBA, HR1, HD1, ?_⟩
          exact HS.out.congr fun b hb => by rw [HTK.out, HUK.out, HKZ.out, Bool.false_and, Bool.or_false]
    · have hltz : ¬ (i : Int) < (n : Int) := by omega
      have hR1 := HR.out
      have hD1 := HD.out
      have s0 : wr.cell? ⟨D, 0, none⟩ = some (.int .u64 a0) := by simp [World.cell?, hD1]
      have s1 : wr.cell? ⟨D, 1, none⟩ = some (.int .u64 a1) := by simp [World.cell?, hD1]
      have s2 : wr.cell? ⟨D, 2, none⟩ = some (.int .u64 a2) := by simp [World.cell?, hD1]
      have s3 : wr.cell? ⟨D, 3, none⟩ = some (.int .u64 a3) := by simp [World.cell?, hD1]
      have t0 : wr.cell? ⟨R, 0, none⟩ = some (.int .u64 0) := by simp [World.cell?, hR1]
      have t1 : wr.cell? ⟨R, 1, none⟩ = some (.int .u64 0) := by simp [World.cell?, hR1]
      have t2 : wr.cell? ⟨R, 2, none⟩ = some (.int .u64 0) := by simp [World.cell?, hR1]
      have t3 : wr.cell? ⟨R, 3, none⟩ = some (.int .u64 0) := by simp [World.cell?, hR1]
      have f0 := frozen_no hR1 0
      have f1 := frozen_no hR1 1
      have f2 := frozen_no hR1 2
      have f3 := frozen_no hR1 3
      have e : l.take i = l := List.take_of_length_le (by rw [← HNU.out]; omega)
      have hs := HS.out
      rw [e] at hs
      have hU4 : U = ⟨a0, a1, a2, a3⟩ := by rw [HU.out, isSet_of hs]; rfl
      have HU4 := Lib.hid hU4
      clear hR1 hD1 e hs hU4
      go_wp2
      refine bodyPost_ret_by (results_cell_row rfl _ _ R 25 #[.int .u64 a0, .int .u64 a1, .int .u64 a2, .int .u64 a3] (0, 0) _ rfl (set4_heap HR.out _ _ _ _) Tryz.underlying25 rfl (by kernel_rfl)) rfl ?_
      refine ⟨?_, four_below HB.out HRW.out _ _ _ _⟩
      rw [HU4.out]

end Go.Proofs.YtclnadjgbpihcaaGreatDoor

