/- Numbers, as the document's own reader reads them; for every text of at most 50000 bytes. -/
import Derived.Shelf.Strings.OnBuilder
import Derived.Test.YtddbaacibdmnaaaGreatDoorYSkip
namespace Go.Proofs.YtddbaacibdmnaaaGreatDoor
open Go.RowKit
set_option linter.unusedVariables false
set_option linter.unusedSimpArgs false

/-- The call answers the number, or -1: no digit stands here, or, with the error 2, it is too great. -/
def NumY (b lim : Int) (R : Nat) (s : ByteArray) (p : Nat) (w : World) (e : Ending) (w' : World) : Prop :=
  (isDg b (rd s p) = false ∧ GivesY R s (.int .i64 (-1)) p 0 w e w') ∨
  (∃ v q, numAt b lim (rd s) p = .ok v q ∧ GivesY R s (.int .i64 v) q 0 w e w') ∨
  (isDg b (rd s p) = true ∧ numAt b lim (rd s) p = .err 2 ∧ ∃ q, q ≤ s.size ∧ GivesY R s (.int .i64 (-1)) q 2 w e w')

/-- A byte with the bit 32. -/
def orv (c : Int) : Int := if c / 32 % 2 = 1 then c else c + 32
theorem or32b (c : Int) (h0 : 0 ≤ c) (h1 : c ≤ 255) : bits .or .i64 c 32 = orv c := by
  have key : ∀ i : Fin 256, bits .or .i64 ((i.val : Nat) : Int) 32 = orv ((i.val : Nat) : Int) := by decide +kernel
  have := key ⟨c.toNat, by omega⟩
  simp only [show ((c.toNat : Nat) : Int) = c by omega] at this
  exact this
theorem or32 (c : Int) (h : isAl c = true) : bits .or .i64 c 32 = low c := by
  have hc := isAl_iff.1 h
  rw [or32b c (by omega) (by omega)]
  unfold orv low
  split <;> split <;> omega

theorem val_mono {b : Int} (hb : 1 ≤ b) (f : Nat → Int) (p m : Nat) (h0 : 2 ≤ b) : ∀ k, val b f p m ≤ val b f p (m + k)
  | 0 => Int.le_refl _
  | k + 1 => by
    have h1 := val_mono hb f p m h0 k
    have h2 := val_range h0 f p (m + k)
    have h3 := (dig_range (f (p + (m + k)))).1
    have h4 : val b f p (m + k) ≤ val b f p (m + k) * b := by
      have := Int.mul_le_mul_of_nonneg_left hb h2
      omega
    show _ ≤ val b f p (m + k) * b + dig (f (p + (m + k)))
    omega

theorem num_over {b lim : Int} (hb : 2 ≤ b) (hb16 : b ≤ 16) {s : ByteArray} {p q : Nat} (hp : p ≤ s.size) (hpq : p < q) (hall : ∀ i, p ≤ i → i < q → isDg b (rd s i) = true) (hv : lim < val b (rd s) p (q - p)) : numAt b lim (rd s) p = .err 2 := by
  obtain ⟨hr, hq⟩ := run_at (P := isDg b) (isDg_end hb16) hp
  have hle : q ≤ runEnd (isDg b) (rd s) p := by
    by_cases g : q ≤ runEnd (isDg b) (rd s) p
    · exact g
    · have := hall _ hr.le (by omega)
      rw [hr.stop] at this
      cases this
  have hm := val_mono (by omega) (rd s) p (q - p) hb (runEnd (isDg b) (rd s) p - q)
  rw [show q - p + (runEnd (isDg b) (rd s) p - q) = runEnd (isDg b) (rd s) p - p by omega] at hm
  rw [numAt_run hr (by omega), if_pos (by omega)]

/-- Within the loop: N is what the program holds, V the number of the digits so far. -/
def InNumY (b lim : Int) (R : Nat) (s : ByteArray) (p : Nat) (w wr : World) (N : Int) (q : Nat) (c : Int) : Prop :=
  AtY wr R s q c ∧ w.grownBy wr (some R) ∧ p ≤ q ∧ q ≤ s.size ∧ (∀ i, p ≤ i → i < q → isDg b (rd s i) = true) ∧
    ((c = 0 ∧ val b (rd s) p (q - p) ≤ lim ∧ max N 0 = val b (rd s) p (q - p) ∧ ((q = p ∧ N = -1) ∨ (p < q ∧ N = val b (rd s) p (q - p)))) ∨ (c = 2 ∧ p < q ∧ lim < val b (rd s) p (q - p)))



set_option maxRecDepth 100000 in
set_option maxHeartbeats 4000000 in
theorem ynumber_any {R p : Nat} {s : ByteArray} {w : World} (b lim : Int) (hb : b = 2 ∨ b = 10 ∨ b = 16) (hl : 0 ≤ lim) (hl2 : lim ≤ 2000000) (h : AtY w R s p 0) (hs : s.size ≤ 50000) (hp : p ≤ s.size) :
    Calls Tryz.prog 80 #[.pointer (some ⟨R, 0, none⟩), .int .i64 b, .int .i64 lim] w (NumY b lim R s p w) := by
  have hb16 : b ≤ 16 := by omega
  have hb2 : 2 ≤ b := by omega
  have H := Lib.hid h
  have HBB := Lib.hid hb
  clear h hb
  go_enter Tryz.func80, Tryz.ntmps80
  go_wp2_with fail
  go_loopw [7] (fun v wr => ∃ N : Int, ∃ q : Nat, ∃ c : Int, v = .int .i64 N ∧ InNumY b lim R s p w wr N q c) (fun _ wr => s.size - posOf R wr)
  case atStart => exact ⟨-1, p, 0, rfl, H.out, grown_refl _ _, Nat.le_refl _, hp, fun i h1 h2 => absurd h1 (by omega), .inl ⟨rfl, by rw [Nat.sub_self]; unfold val; exact hl, by rw [Nat.sub_self]; rfl, .inl ⟨rfl, rfl⟩⟩⟩
  case round =>
    obtain ⟨N, q, c, rfl, ha, hg, hpq, hqs, hall, hst⟩ := hrel
    have HA := Lib.hid ha
    have HG := Lib.hid hg
    have HL := Lib.hid hall
    have HM := Lib.hid ha.pos
    obtain ⟨c0, c1, c2, z0, z1, z2⟩ := ha.cells
    clear ha hg hall
    rcases hst with ⟨rfl, hvl, hmax, hN⟩ | ⟨rfl, hlt, hov⟩
    · have hv := val_range hb2 (rd s) p (q - p)
      obtain ⟨V, hV⟩ : ∃ x, x = val b (rd s) p (q - p) := ⟨_, rfl⟩
      rw [← hV] at hv hvl hmax hN
      obtain ⟨Z, hZ⟩ : ∃ x, rd s q = x := ⟨_, rfl⟩
      have HZ := Lib.hid hZ
      have HV := Lib.hid hV
      have HN := Lib.hid hN
      have hm0 : 0 ≤ V * b := Int.mul_nonneg hv (by omega)
      have hm1 : V * b ≤ 40000000 := by rcases HBB.out with g | g | g <;> rw [g] <;> omega
      have hN2 : -1 ≤ N ∧ N ≤ 2000000 := by omega
      have HDall : isDg b Z = true → Hid (q < s.size ∧ ∀ i, p ≤ i → i < q + 1 → isDg b (rd s i) = true) := fun hd => ⟨isDg_lt hb16 (by rw [hZ]; exact hd), run_next (P := isDg b) HL.out (by rw [hZ]; exact hd)⟩
      have HST : Hid (V * b + dig Z = val b (rd s) p (q + 1 - p)) := by
        have e1 : q + 1 - p = (q - p) + 1 := by omega
        have e2 : p + (q - p) = q := by omega
        rw [e1]
        show _ = val b (rd s) p (q - p) * b + dig (rd s (p + (q - p)))
        rw [e2, hZ, ← HV.out]
      have HFIN : isDg b Z = false → Hid (∀ W, AtY W R s q 0 → w.grownBy W (some R) → NumY b lim R s p w (.returned (.int .i64 N)) W) := by
        intro hd W ha hg
        rcases HN.out with ⟨h1, h2⟩ | ⟨h1, h2⟩
        · subst h1 h2
          exact .inl ⟨by rw [hZ]; exact hd, rfl, ha, hg⟩
        · have hrun : IsRun (isDg b) (rd s) p q := ⟨hpq, HL.out, by rw [hZ]; exact hd⟩
          refine .inr (.inl ⟨N, q, ?_, rfl, ha, hg⟩)
          rw [numAt_run hrun h1, ← HV.out, if_neg (by omega), h2]
      clear hZ hV hN
      cases hdc : isDc Z
      · cases hal : isAl Z
        · have hd : isDg b Z = false := by
            unfold isDg
            have : dig Z = 16 := by
              unfold isDc at hdc
              unfold isAl at hal
              simp at hdc hal
              unfold dig
              rw [if_neg (by omega), if_neg (by omega), if_neg (by omega)]
            rw [this]
            simp
            exact hb16
          have HFIN := HFIN hd
          have HDC := Lib.hid hdc
          have HAL := Lib.hid hal
          have q99 : b ≤ 99 := by omega
          clear hd hdc hal HST
          go_wp2_with fail
          refine (yat0 HA.out hs (by omega) _ HZ.out).mono ?_
          rintro e w1 ⟨rfl, hbw⟩
          have HA1 := Lib.hid (HA.out.below hbw)
          have HG1 := Lib.hid (grown_below HG.out hbw)
          clear hbw c0 c1 c2 z0 z1 z2
          go_wp2_with fail
          refine (ydigit_any _ _).mono ?_
          rw [HDC.out]
          rintro e w' ⟨rfl, rfl⟩
          go_wp2_with fail
          refine (yalpha_any _ _).mono ?_
          rw [HAL.out]
          rintro e w' ⟨rfl, rfl⟩
          go_wp2_with fail
          go_ret
          exact HFIN.out _ HA1.out HG1.out
        · have hor := or32 Z hal
          obtain ⟨M, hM⟩ : ∃ x, x = low Z := ⟨_, rfl⟩
          rw [← hM] at hor
          have hMr : 97 ≤ M ∧ M ≤ 122 := by
            have := isAl_iff.1 hal
            rw [hM]
            unfold low
            split <;> omega
          have hdm : dig Z = if M ≤ 102 then M - 87 else 16 := by
            have := isAl_iff.1 hal
            rw [hM]
            unfold dig low
            split <;> split <;> (try split) <;> (try split) <;> omega
          have HDC := Lib.hid hdc
          have HAL := Lib.hid hal
          have HMM := Lib.hid hM
          clear hdc hal hM
          have q99 : b ≤ 99 := by omega
          have hZr : 65 ≤ Z ∧ Z ≤ 122 := by have := isAl_iff.1 HAL.out; omega
          by_cases hm : M ≤ 102
          · rw [if_pos hm] at hdm
            rw [hdm] at HST
            by_cases hge : b ≤ M - 87
            · have HFIN := HFIN (by unfold isDg; rw [hdm]; simp; omega)
              clear hdm HST
              go_wp2_with fail
              refine (yat0 HA.out hs (by omega) _ HZ.out).mono ?_
              rintro e w1 ⟨rfl, hbw⟩
              have HA1 := Lib.hid (HA.out.below hbw)
              have HG1 := Lib.hid (grown_below HG.out hbw)
              clear hbw c0 c1 c2 z0 z1 z2
              go_wp2_with fail
              refine (ydigit_any _ _).mono ?_
              rw [HDC.out]
              rintro e w' ⟨rfl, rfl⟩
              go_wp2_with fail
              refine (yalpha_any _ _).mono ?_
              rw [HAL.out]
              rintro e w' ⟨rfl, rfl⟩
              go_wp2_with fail
              go_ret
              exact HFIN.out _ HA1.out HG1.out
            · obtain ⟨hqlt, hda⟩ := HDall (by unfold isDg; rw [hdm]; simp; omega)
              have HDall := Lib.hid hda
              clear hdm hda
              go_wp2_with fail
              refine (yat0 HA.out hs (by omega) _ HZ.out).mono ?_
              rintro e w1 ⟨rfl, hbw⟩
              have HA1 := Lib.hid (HA.out.below hbw)
              have HG1 := Lib.hid (grown_below HG.out hbw)
              clear hbw c0 c1 c2 z0 z1 z2
              go_wp2_with fail
              refine (ydigit_any _ _).mono ?_
              rw [HDC.out]
              rintro e w' ⟨rfl, rfl⟩
              go_wp2_with fail
              refine (yalpha_any _ _).mono ?_
              rw [HAL.out]
              rintro e w' ⟨rfl, rfl⟩
              by_cases hov : lim < V * b + (M - 87)
              · go_wp2_with fail
                refine (yfail_first HA1.out 2).mono ?_
                rintro e w2 ⟨rfl, ha, hg⟩
                have HA2 := Lib.hid ha
                have HG2 := Lib.hid (HG1.out.trans hg)
                obtain ⟨d0, d1, d2, y0, y1, y2⟩ := ha.cells
                clear ha hg
                go_wp2_with fail
                go_roundw
                case rel => exact ⟨_, q + 1, 2, rfl, HA2.out.step, grown_set HG2.out _ _, by omega, by omega, HDall.out, .inr ⟨rfl, by omega, by rw [← HST.out]; exact hov⟩⟩
                case measure =>
                  rw [HM.out, HA2.out.step.pos]
                  omega
              · obtain ⟨d0, d1, d2, y0, y1, y2⟩ := HA1.out.cells
                go_wp2_with fail
                go_roundw
                case rel => exact ⟨_, q + 1, 0, rfl, HA1.out.step, grown_set HG1.out _ _, by omega, by omega, HDall.out, .inl ⟨rfl, by rw [← HST.out]; omega, by rw [← HST.out]; omega, .inr ⟨by omega, HST.out⟩⟩⟩
                case measure =>
                  rw [HM.out, HA1.out.step.pos]
                  omega
          · rw [if_neg hm] at hdm
            have HFIN := HFIN (by unfold isDg; rw [hdm]; simp; omega)
            clear hdm HST
            go_wp2_with fail
            refine (yat0 HA.out hs (by omega) _ HZ.out).mono ?_
            rintro e w1 ⟨rfl, hbw⟩
            have HA1 := Lib.hid (HA.out.below hbw)
            have HG1 := Lib.hid (grown_below HG.out hbw)
            clear hbw c0 c1 c2 z0 z1 z2
            go_wp2_with fail
            refine (ydigit_any _ _).mono ?_
            rw [HDC.out]
            rintro e w' ⟨rfl, rfl⟩
            go_wp2_with fail
            refine (yalpha_any _ _).mono ?_
            rw [HAL.out]
            rintro e w' ⟨rfl, rfl⟩
            go_wp2_with fail
            go_ret
            exact HFIN.out _ HA1.out HG1.out
      · have hZr : 48 ≤ Z ∧ Z ≤ 57 := by unfold isDc at hdc; simp at hdc; omega
        have hdm : dig Z = Z - 48 := by unfold dig; rw [if_pos hZr]
        have HDC := Lib.hid hdc
        clear hdc
        rw [hdm] at HST
        by_cases hge : b ≤ Z - 48
        · have HFIN := HFIN (by unfold isDg; rw [hdm]; simp; omega)
          clear hdm HST
          go_wp2_with fail
          refine (yat0 HA.out hs (by omega) _ HZ.out).mono ?_
          rintro e w1 ⟨rfl, hbw⟩
          have HA1 := Lib.hid (HA.out.below hbw)
          have HG1 := Lib.hid (grown_below HG.out hbw)
          clear hbw c0 c1 c2 z0 z1 z2
          go_wp2_with fail
          refine (ydigit_any _ _).mono ?_
          rw [HDC.out]
          rintro e w' ⟨rfl, rfl⟩
          go_wp2_with fail
          go_ret
          exact HFIN.out _ HA1.out HG1.out
        · obtain ⟨hqlt, hda⟩ := HDall (by unfold isDg; rw [hdm]; simp; omega)
          have HDall := Lib.hid hda
          clear hdm hda
          go_wp2_with fail
          refine (yat0 HA.out hs (by omega) _ HZ.out).mono ?_
          rintro e w1 ⟨rfl, hbw⟩
          have HA1 := Lib.hid (HA.out.below hbw)
          have HG1 := Lib.hid (grown_below HG.out hbw)
          clear hbw c0 c1 c2 z0 z1 z2
          go_wp2_with fail
          refine (ydigit_any _ _).mono ?_
          rw [HDC.out]
          rintro e w' ⟨rfl, rfl⟩
          by_cases hov : lim < V * b + (Z - 48)
          · go_wp2_with fail
            refine (yfail_first HA1.out 2).mono ?_
            rintro e w2 ⟨rfl, ha, hg⟩
            have HA2 := Lib.hid ha
            have HG2 := Lib.hid (HG1.out.trans hg)
            obtain ⟨d0, d1, d2, y0, y1, y2⟩ := ha.cells
            clear ha hg
            go_wp2_with fail
            go_roundw
            case rel => exact ⟨_, q + 1, 2, rfl, HA2.out.step, grown_set HG2.out _ _, by omega, by omega, HDall.out, .inr ⟨rfl, by omega, by rw [← HST.out]; exact hov⟩⟩
            case measure =>
              rw [HM.out, HA2.out.step.pos]
              omega
          · obtain ⟨d0, d1, d2, y0, y1, y2⟩ := HA1.out.cells
            go_wp2_with fail
            go_roundw
            case rel => exact ⟨_, q + 1, 0, rfl, HA1.out.step, grown_set HG1.out _ _, by omega, by omega, HDall.out, .inl ⟨rfl, by rw [← HST.out]; omega, by rw [← HST.out]; omega, .inr ⟨by omega, HST.out⟩⟩⟩
            case measure =>
              rw [HM.out, HA1.out.step.pos]
              omega
    · have HE := Lib.hid (num_over hb2 hb16 (by omega) hlt HL.out hov)
      have HD := Lib.hid (HL.out p (Nat.le_refl _) hlt)
      clear hov
      go_wp2_with fail
      go_ret
      exact .inr (.inr ⟨HD.out, HE.out, q, hqs, rfl, HA.out, HG.out⟩)

set_option maxRecDepth 100000 in
theorem ynumber_later {R p : Nat} {c : Int} {s : ByteArray} {w : World} (b lim : Int) (h : AtY w R s p c) (hc : c ≠ 0) :
    Calls Tryz.prog 80 #[.pointer (some ⟨R, 0, none⟩), .int .i64 b, .int .i64 lim] w (GivesY R s (.int .i64 (-1)) p c w) := by
  obtain ⟨c0, c1, c2, z0, z1, z2⟩ := h.cells
  have H := Lib.hid h
  have q1 : (c == 0) = false := by simpa using hc
  clear h
  go_enter Tryz.func80, Tryz.ntmps80
  go_wp2_with fail
  go_loopw [7] (fun _ wr => wr = w) (fun _ wr => 0)
  case atStart => rfl
  case round =>
    subst hrel
    go_wp2_with fail
    go_ret
    exact ⟨rfl, H.out, grown_refl _ _⟩

end Go.Proofs.YtddbaacibdmnaaaGreatDoor
