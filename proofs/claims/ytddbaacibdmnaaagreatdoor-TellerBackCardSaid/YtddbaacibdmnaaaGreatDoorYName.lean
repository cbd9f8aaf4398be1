/- Names, as the document's own reader reads them; for every text of at most 50000 bytes. -/
import Derived.Test.YtddbaacibdmnaaaGreatDoorYNum
import Derived.Laws.BytesString
import Derived.Laws.IdiomStrings
import Derived.MapKept
namespace Go.Proofs.YtddbaacibdmnaaaGreatDoor
open Go.RowKit
set_option linter.unusedVariables false
set_option linter.unusedSimpArgs false

theorem conv_one (W : World) (c : Int) (h0 : 0 ≤ c) (h1 : c ≤ 255) :
    (convert 22 9 (.slice (some ⟨W.heap.size, 0, none⟩) 1 1)).run Tryz.prog (W.alloc (.cells #[.int .u8 c] 5)) = .ok (.string (strOf [c])) (W.alloc (.cells #[.int .u8 c] 5)) := by
  have h := run_convert_bytes_back (P := Tryz.prog) (W.alloc (.cells #[.int .u8 c] 5)) 22 9 5 ⟨W.heap.size, 0, none⟩ 1 [byt c] Tryz.underlying22 Tryz.underlying5 Tryz.underlying9 (fun j hj => by
    have hj0 : j = 0 := by simp at hj; exact hj
    subst hj0
    have e : ((byt c).toNat : Int) = c := by unfold byt; simp; omega
    show World.cell? _ ⟨W.heap.size, 0, none⟩ = some (.int .u8 ((byt c).toNat : Int))
    rw [e]
    unfold World.cell?
    show (match (W.alloc _).heap[W.heap.size]? with | some (.cells c elem frozen) => c[0]? | x => none) = _
    rw [heap_alloc_new]
    rfl)
  exact h

theorem str_app (x y : List Int) : strOf x ++ strOf y = strOf (x ++ y) := by
  apply ByteArray.ext
  unfold strOf
  simp
theorem str_ne {x : List Int} (h : 0 < x.length) : strOf x ≠ ⟨#[]⟩ := by
  intro g
  have := congrArg ByteArray.size g
  rw [strOf_size] at this
  have e : (⟨#[]⟩ : ByteArray).size = 0 := rfl
  omega
theorem str_beq {a b : ByteArray} (h : a ≠ b) : (a == b) = false := by
  cases g : a == b
  · rfl
  · exact absurd ((Go.MapKept.bytes_beq a b).1 g) h
theorem str_bne {a b : ByteArray} (h : a ≠ b) : (a != b) = true := by
  show (!(a == b)) = true
  rw [str_beq h]
  rfl
theorem str_some {s : ByteArray} (h : 0 < s.size) : s.toList.isEmpty = false := by
  rw [Lib.toList_data]
  cases g : s.data.toList with
  | nil =>
    have : s.size = 0 := by
      show s.data.size = 0
      rw [← Array.length_toList, g]; rfl
    omega
  | cons a l => rfl
theorem low_range {c : Int} (h0 : 0 ≤ c) (h1 : c ≤ 255) : 0 ≤ low c ∧ low c ≤ 255 := by unfold low; split <;> omega
theorem cut_succ (f : Nat → Int) (p n : Nat) : cut f p (n + 1) = cut f p n ++ [f (p + n)] := by unfold cut; rw [List.range_succ]; simp

/-- The call answers the name, or a text of some kind and the error. -/
def NameY (R : Nat) (s : ByteArray) (p : Nat) (w : World) (e : Ending) (w' : World) : Prop :=
  (isAl (rd s p) = false ∧ GivesY R s (.string (strOf [])) p 20 w e w') ∨
  (isAl (rd s p) = true ∧ ∃ x q, nameAt (rd s) p = .ok x q ∧ GivesY R s (.string (strOf x)) q 0 w e w') ∨
  (isAl (rd s p) = true ∧ nameAt (rd s) p = .err 2 ∧ ∃ x q, q ≤ s.size ∧ GivesY R s (.string (strOf x)) q 2 w e w')

/-- Within the loop. -/
def InNameY (R : Nat) (s : ByteArray) (p : Nat) (w wr : World) (x : List Int) (q : Nat) : Prop :=
  AtY wr R s q 0 ∧ w.grownBy wr (some R) ∧ p ≤ q ∧ q ≤ s.size ∧ x = (cut (rd s) p (q - p)).map low ∧ (∀ i, p ≤ i → i < q → isNm (rd s i) = true) ∧ (p < q → isAl (rd s p) = true)


set_option maxRecDepth 100000 in
set_option maxHeartbeats 4000000 in
theorem yname_any {R p : Nat} {s : ByteArray} {w : World} (h : AtY w R s p 0) (hs : s.size ≤ 50000) (hp : p ≤ s.size) :
    Calls Tryz.prog 31 #[.pointer (some ⟨R, 0, none⟩)] w (NameY R s p w) := by
  have H := Lib.hid h
  clear h
  go_enter Tryz.func31, Tryz.ntmps31
  go_wp2_with fail
  refine (yat0 H.out hs (by omega) _ rfl).mono ?_
  rintro e w0 ⟨rfl, hbw⟩
  have HA0 := Lib.hid (H.out.below hbw)
  have HG0 := Lib.hid (grown_below (grown_refl w (some R)) hbw)
  clear hbw
  go_wp2_with fail
  go_loopw [3, 4] (fun v u wr => ∃ x : List Int, ∃ q : Nat, v = .string (strOf x) ∧ u = .int .i64 (rd s q) ∧ InNameY R s p w wr x q) (fun _ _ wr => s.size - posOf R wr)
  case atStart => exact ⟨[], p, rfl, rfl, HA0.out, HG0.out, Nat.le_refl _, hp, by rw [Nat.sub_self]; rfl, fun i h1 h2 => absurd h1 (by omega), fun g => absurd g (by omega)⟩
  case round =>
    obtain ⟨x, q, rfl, rfl, ha, hg, hpq, hqs, hx, hall, hal0⟩ := hrel
    have hxl : x.length = q - p := by rw [hx, List.length_map, cut_len]
    have HA := Lib.hid ha
    have HG := Lib.hid hg
    have HM := Lib.hid ha.pos
    have HX := Lib.hid hx
    have HL := Lib.hid hall
    obtain ⟨c0, c1, c2, z0, z1, z2⟩ := ha.cells
    obtain ⟨Z, hZ⟩ : ∃ y, rd s q = y := ⟨_, rfl⟩
    rw [hZ]
    have hZr := rd_range s q
    rw [hZ] at hZr
    obtain ⟨T, hT⟩ : ∃ T, T = strOf x := ⟨_, rfl⟩
    have hTs : T.size = q - p := by rw [hT, strOf_size, hxl]
    rw [← hT]
    have HT := Lib.hid hT
    have HZ := Lib.hid hZ
    cases hnm : (isAl Z || (decide (p < q) && isNm Z))
    · obtain ⟨g1, g2⟩ : isAl Z = false ∧ (p < q → isNm Z = false) := by
        simp at hnm
        exact hnm
      have G1 := Lib.hid g1
      by_cases hlt : p < q
      · have g3 := g2 hlt
        obtain ⟨g4, g5⟩ : isDc Z = false ∧ Z ≠ 45 := by
          unfold isNm at g3
          rw [g1] at g3
          simpa using g3
        have G4 := Lib.hid g4
        have q45 : (Z == 45) = false := by simpa using g5
        have hne : T ≠ ⟨#[]⟩ := by rw [hT]; exact str_ne (by omega)
        have hemp : T.toList.isEmpty = false := str_some (by omega)
        have hrun : IsRun isNm (rd s) p q := ⟨hpq, hall, by rw [hZ]; exact g3⟩
        have HAL0 := Lib.hid (hal0 hlt)
        have HN : Hid (nameAt (rd s) p = if 40 < q - p then .err 2 else .ok x q) := by unfold nameAt; rw [hrun.eq, hx]; exact rfl
        clear hZ hT hx hall hal0 hnm g1 g2 g3 g4 hrun hne
        by_cases hlong : 40 < q - p
        · have hts : 40 < T.size := by omega
          have HN2 : Hid (nameAt (rd s) p = .err 2) := by rw [HN.out, if_pos hlong]; exact rfl
          clear hTs
          go_wp2_with fail
          refine (yalpha_any _ _).mono ?_
          rw [G1.out]
          rintro e w' ⟨rfl, rfl⟩
          go_wp2_with fail
          refine (ydigit_any _ _).mono ?_
          rw [G4.out]
          rintro e w' ⟨rfl, rfl⟩
          go_wp2_with fail
          refine (yfail_first HA.out 2).mono ?_
          rintro e w2 ⟨rfl, ha, hg⟩
          have HA2 := Lib.hid ha
          have HG2 := Lib.hid (HG.out.trans hg)
          clear ha hg c0 c1 c2 z0 z1 z2
          go_wp2_with fail
          go_ret
          rw [HT.out]
          exact .inr (.inr ⟨HAL0.out, HN2.out, x, q, hqs, rfl, HA2.out, HG2.out⟩)
        · have hts : T.size ≤ 40 := by omega
          have HN2 : Hid (nameAt (rd s) p = .ok x q) := by rw [HN.out, if_neg hlong]; exact rfl
          clear hTs
          go_wp2_with fail
          refine (yalpha_any _ _).mono ?_
          rw [G1.out]
          rintro e w' ⟨rfl, rfl⟩
          go_wp2_with fail
          refine (ydigit_any _ _).mono ?_
          rw [G4.out]
          rintro e w' ⟨rfl, rfl⟩
          go_wp2_with fail
          go_ret
          rw [HT.out]
          exact .inr (.inl ⟨HAL0.out, x, q, HN2.out, rfl, HA.out, HG.out⟩)
      · obtain rfl : p = q := by omega
        obtain rfl : x = [] := List.length_eq_zero_iff.1 (by omega)
        have hT0 : T = ⟨#[]⟩ := hT
        clear hT HT hTs
        subst hT0
        have G1' : Hid (isAl (rd s p) = false) := by rw [hZ]; exact g1
        clear hZ hx hall hal0 hnm g1 g2 HL HX
        go_wp2_with fail
        refine (yalpha_any _ _).mono ?_
        rw [G1.out]
        rintro e w' ⟨rfl, rfl⟩
        go_wp2_with fail
        refine (yfail_first HA.out 20).mono ?_
        rintro e w2 ⟨rfl, ha, hg⟩
        have HA2 := Lib.hid ha
        have HG2 := Lib.hid (HG.out.trans hg)
        clear ha hg c0 c1 c2 z0 z1 z2
        go_wp2_with fail
        go_ret
        exact .inl ⟨G1'.out, rfl, HA2.out, HG2.out⟩
    · have hnm2 : isNm Z = true := by
        unfold isNm at hnm ⊢
        cases ha : isAl Z
        · rw [ha] at hnm
          simp at hnm ⊢
          exact hnm.2
        · rfl
      have hZ0 : 0 ≤ Z := (isNm_low Z hnm2).1
      have hZ1 : Z ≤ 255 := by have := (isNm_low Z hnm2).2; omega
      have hlt : q < s.size := rd_lt hZ0 hZ
      have HNX : Hid (∀ i, p ≤ i → i < q + 1 → isNm (rd s i) = true) := run_next (P := isNm) hall (by rw [hZ]; exact hnm2)
      have HXN : Hid (x ++ [low Z] = (cut (rd s) p (q + 1 - p)).map low) := by
        rw [show q + 1 - p = (q - p) + 1 by omega, cut_succ, List.map_append, ← hx, show p + (q - p) = q by omega, hZ]
        exact rfl
      have hR := ha.lt
      have hT2 : T.size ≤ 50000 := by omega
      have hT3 : (strOf [low Z]).size = 1 := rfl
      have kc := fun (W : World) => conv_one W (low Z) (low_range hZ0 hZ1).1 (low_range hZ0 hZ1).2
      have HAL0 : Hid (isAl (rd s p) = true) := by
        by_cases g : p < q
        · exact hal0 g
        · obtain rfl : p = q := by omega
          rw [hZ]
          have : isAl Z = true := by simpa using hnm
          exact this
      cases g1 : isAl Z
      · obtain ⟨g2, g3⟩ : p < q ∧ (isDc Z = true ∨ Z = 45) := by
          rw [g1] at hnm
          simp at hnm
          refine ⟨hnm.1, ?_⟩
          have := hnm.2
          unfold isNm at this
          rw [g1] at this
          simpa using this
        have hne : T ≠ ⟨#[]⟩ := by rw [hT]; exact str_ne (by omega)
        have hemp : T.toList.isEmpty = false := str_some (by omega)
        have G1 := Lib.hid g1
        clear hZ hT hx hall hal0 hnm hnm2 g1 hTs
        cases g4 : isDc Z
        · have q45 : Z = 45 := by
            rcases g3 with g | g
            · rw [g4] at g; cases g
            · exact g
          have q45b : (Z == 45) = true := by simpa using q45
          have G4 := Lib.hid g4
          clear g3 g4 q45
          go_wp2_with fail
          refine (yalpha_any _ _).mono ?_
          rw [G1.out]
          rintro e w' ⟨rfl, rfl⟩
          go_wp2_with fail
          refine (ydigit_any _ _).mono ?_
          rw [G4.out]
          rintro e w' ⟨rfl, rfl⟩
          go_wp2_with fail
          refine (ylower_any _ hZ0 hZ1 _).mono ?_
          rintro e w' ⟨rfl, rfl⟩
          go_wp2_with fail
          have HA2 := Lib.hid (HA.out.step.alloc (.cells #[.int .u8 (low Z)] 5))
          have HG2 := Lib.hid (grown_alloc (grown_set HG.out 1 (.int .i64 ((q : Int) + 1))) (.cells #[.int .u8 (low Z)] 5))
          refine (yat0 HA2.out hs (by omega) _ rfl).mono ?_
          rintro e w3 ⟨rfl, hbw⟩
          have HA3 := Lib.hid (HA2.out.below hbw)
          have HG3 := Lib.hid (grown_below HG2.out hbw)
          clear hbw
          go_wp2_with fail
          go_roundw
          case rel => exact ⟨x ++ [low Z], q + 1, by rw [← str_app, ← HT.out], rfl, HA3.out, HG3.out, by omega, by omega, HXN.out, HNX.out, fun _ => HAL0.out⟩
          case measure =>
            rw [HM.out, HA3.out.pos]
            omega
        · have G4 := Lib.hid g4
          clear g3 g4
          go_wp2_with fail
          refine (yalpha_any _ _).mono ?_
          rw [G1.out]
          rintro e w' ⟨rfl, rfl⟩
          go_wp2_with fail
          refine (ydigit_any _ _).mono ?_
          rw [G4.out]
          rintro e w' ⟨rfl, rfl⟩
          go_wp2_with fail
          refine (ylower_any _ hZ0 hZ1 _).mono ?_
          rintro e w' ⟨rfl, rfl⟩
          go_wp2_with fail
          have HA2 := Lib.hid (HA.out.step.alloc (.cells #[.int .u8 (low Z)] 5))
          have HG2 := Lib.hid (grown_alloc (grown_set HG.out 1 (.int .i64 ((q : Int) + 1))) (.cells #[.int .u8 (low Z)] 5))
          refine (yat0 HA2.out hs (by omega) _ rfl).mono ?_
          rintro e w3 ⟨rfl, hbw⟩
          have HA3 := Lib.hid (HA2.out.below hbw)
          have HG3 := Lib.hid (grown_below HG2.out hbw)
          clear hbw
          go_wp2_with fail
          go_roundw
          case rel => exact ⟨x ++ [low Z], q + 1, by rw [← str_app, ← HT.out], rfl, HA3.out, HG3.out, by omega, by omega, HXN.out, HNX.out, fun _ => HAL0.out⟩
          case measure =>
            rw [HM.out, HA3.out.pos]
            omega
      · have G1 := Lib.hid g1
        clear hZ hT hx hall hal0 hnm hnm2 g1 hTs
        go_wp2_with fail
        refine (yalpha_any _ _).mono ?_
        rw [G1.out]
        rintro e w' ⟨rfl, rfl⟩
        go_wp2_with fail
        refine (ylower_any _ hZ0 hZ1 _).mono ?_
        rintro e w' ⟨rfl, rfl⟩
        go_wp2_with fail
        have HA2 := Lib.hid (HA.out.step.alloc (.cells #[.int .u8 (low Z)] 5))
        have HG2 := Lib.hid (grown_alloc (grown_set HG.out 1 (.int .i64 ((q : Int) + 1))) (.cells #[.int .u8 (low Z)] 5))
        refine (yat0 HA2.out hs (by omega) _ rfl).mono ?_
        rintro e w3 ⟨rfl, hbw⟩
        have HA3 := Lib.hid (HA2.out.below hbw)
        have HG3 := Lib.hid (grown_below HG2.out hbw)
        clear hbw
        go_wp2_with fail
        go_roundw
        case rel => exact ⟨x ++ [low Z], q + 1, by rw [← str_app, ← HT.out], rfl, HA3.out, HG3.out, by omega, by omega, HXN.out, HNX.out, fun _ => HAL0.out⟩
        case measure =>
          rw [HM.out, HA3.out.pos]
          omega

end Go.Proofs.YtddbaacibdmnaaaGreatDoor
