/- White space, as the document's own reader reads it; for every text of at most 50000 bytes. -/
import Derived.Test.YtddbaacibdmnaaaGreatDoorYEnds
namespace Go.Proofs.YtddbaacibdmnaaaGreatDoor
open Go.RowKit
set_option linter.unusedVariables false
set_option linter.unusedSimpArgs false

theorem AtY.kept_grown {w w1 : World} {R : Nat} {s : ByteArray} {p : Nat} {c : Int} (h : AtY w1 R s p c) {w' : World} (hb : Below w1.heap.size w1 w') : AtY w' R s p c := h.below hb

/-- The call returns whether there was white space, and has read up to its end. -/
def SkipsY (R : Nat) (s : ByteArray) (p : Nat) (w : World) (e : Ending) (w' : World) : Prop :=
  ∃ q, Skip (rd s) p q ∧ p ≤ q ∧ q ≤ s.size ∧ GivesY R s (.bool (decide (p < q))) q 0 w e w'

/-- Within the loop. -/
def InSkipY (R : Nat) (s : ByteArray) (p : Nat) (w wr : World) (q : Nat) : Prop :=
  AtY wr R s q 0 ∧ w.grownBy wr (some R) ∧ p ≤ q ∧ q ≤ s.size ∧ ∀ z, Skip (rd s) q z → Skip (rd s) p z

theorem len_range {s : ByteArray} {q : Nat} : lenNum (rd s) q = -1 ∧ lineEnd (rd s) q = none ∨ ∃ e, lineEnd (rd s) q = some e ∧ lenNum (rd s) q = (e : Int) - q := by
  cases h : lineEnd (rd s) q with
  | none => exact .inl ⟨lenNum_none h, rfl⟩
  | some e => exact .inr ⟨e, rfl, lenNum_some h⟩

theorem lt_dec {p q : Nat} : decide ((q : Int) > (p : Int)) = decide (p < q) := by
  by_cases h : p < q <;> simp [h]

set_option maxRecDepth 100000 in
theorem yskip_later {R p : Nat} {c : Int} {s : ByteArray} {w : World} (h : AtY w R s p c) (hc : c ≠ 0) (hs : s.size ≤ 50000) :
    Calls Tryz.prog 32 #[.pointer (some ⟨R, 0, none⟩)] w (GivesY R s (.bool false) p c w) := by
  obtain ⟨c0, c1, c2, z0, z1, z2⟩ := h.cells
  have H := Lib.hid h
  have q1 : (c == 0) = false := by simpa using hc
  clear h
  go_enter Tryz.func32, Tryz.ntmps32
  go_wp2_with fail
  go_loopw [] (fun wr => wr = w) (fun wr => 0)
  case atStart => rfl
  case round =>
    subst hrel
    go_wp2_with fail
    go_ret
    exact ⟨rfl, H.out, grown_refl _ _⟩

set_option maxRecDepth 100000 in
set_option maxHeartbeats 1000000 in
theorem yskip_any {R p : Nat} {s : ByteArray} {w : World} (h : AtY w R s p 0) (hs : s.size ≤ 50000) (hp : p ≤ s.size) :
    Calls Tryz.prog 32 #[.pointer (some ⟨R, 0, none⟩)] w (SkipsY R s p w) := by
  obtain ⟨c0, c1, c2, z0, z1, z2⟩ := h.cells
  have H := Lib.hid h
  clear h
  go_enter Tryz.func32, Tryz.ntmps32
  go_wp2_with fail
  clear c0 c1 c2 z0 z1 z2
  go_loopw [] (fun wr => ∃ q : Nat, InSkipY R s p w wr q) (fun wr => s.size - posOf R wr)
  case atStart => exact ⟨p, H.out, grown_refl _ _, Nat.le_refl _, hp, fun z hz => hz⟩
  case round =>
    obtain ⟨q, ha, hg, hpq, hqs, hall⟩ := hrel
    have HA := Lib.hid ha
    have HG := Lib.hid hg
    have HL := Lib.hid hall
    have HM := Lib.hid ha.pos
    obtain ⟨c0, c1, c2, z0, z1, z2⟩ := ha.cells
    obtain ⟨Z, hZ⟩ : ∃ x, rd s q = x := ⟨_, rfl⟩
    have HZ := Lib.hid hZ
    obtain ⟨L, hLn⟩ : ∃ x, lenNum (rd s) q = x := ⟨_, rfl⟩
    have HLN := Lib.hid hLn
    have hlen := len_range (s := s) (q := q)
    rw [hLn] at hlen
    clear ha hg hall
    cases hb : isBl Z
    · have HB0 := Lib.hid hb
      by_cases hy : ∃ e, lineEnd (rd s) q = some e ∧ isBl (rd s e) = true
      · obtain ⟨e0, hl, hbe⟩ := hy
        have hes : e0 < s.size := by
          by_cases g : e0 < s.size
          · exact g
          · rw [rd_out g] at hbe; simp [isBl] at hbe
        obtain ⟨k, hk⟩ : ∃ k : Nat, L = (k : Int) ∧ q + k = e0 ∧ 0 < k := by
          rcases hlen with ⟨_, g⟩ | ⟨e1, g1, g2⟩
          · rw [hl] at g; cases g
          · obtain rfl : e0 = e1 := by rw [hl] at g1; cases g1; rfl
            have hqe : q < e0 := by
              have hqe' := (end_le hqs hl).1
              rcases Nat.lt_or_ge q e0 with g | g
              · exact g
              · obtain rfl : q = e0 := by omega
                rw [hZ, hb] at hbe; cases hbe
            exact ⟨e0 - q, by omega, by omega, by omega⟩
        obtain ⟨rfl, hke, hk0⟩ := hk
        have HE : Hid (isBl (rd s (q + k)) = true) := by rw [hke]; exact hbe
        have HNX : Hid (∀ z, Skip (rd s) (q + k) z → Skip (rd s) p z) := by
          intro z hz
          cases hz with
          | blank _ hz => exact HL.out z (.line (by rw [hZ]; exact hb) hl hbe (by rw [← hke]; exact hz))
          | line g => rw [HE.out] at g; cases g
          | here g => rw [HE.out] at g; cases g
        have hk3 : q + k ≤ s.size := by omega
        clear hZ hLn hlen hl hbe hb hke hes
        go_wp2_with fail
        refine (yends_any HA.out hs (by omega)).mono ?_
        rw [HLN.out]
        rintro e w1 ⟨rfl, hb⟩
        have HA1 := Lib.hid (HA.out.below hb)
        have HG1 := Lib.hid (grown_below HG.out hb)
        clear hb
        go_wp2_with fail
        refine (yat0 HA1.out hs (by omega) _ HZ.out).mono ?_
        rintro e w2 ⟨rfl, hb⟩
        have HA2 := Lib.hid (HA1.out.below hb)
        have HG2 := Lib.hid (grown_below HG1.out hb)
        clear hb
        go_wp2_with fail
        refine (yblank_any _ _).mono ?_
        rw [HB0.out]
        rintro e w' ⟨rfl, rfl⟩
        go_wp2_with fail
        refine (yat_eq HA2.out hs (by omega) k (by omega) _ (by omega) _ rfl).mono ?_
        rintro e w3 ⟨rfl, hb⟩
        have HA3 := Lib.hid (HA2.out.below hb)
        have HG3 := Lib.hid (grown_below HG2.out hb)
        obtain ⟨d0, d1, d2, y0, y1, y2⟩ := HA3.out.cells
        clear hb c0 c1 c2 z0 z1 z2
        go_wp2_with fail
        refine (yblank_any _ _).mono ?_
        rw [HE.out]
        rintro e w' ⟨rfl, rfl⟩
        go_wp2_with fail
        go_roundw
        case rel => exact ⟨q + k, HA3.out.put (by omega), grown_set HG3.out _ _, by omega, by omega, HNX.out⟩
        case measure =>
          rw [HM.out, (HA3.out.put (x := (q : Int) + (k : Int)) (q := q + k) (by omega)).pos]
          omega
      · have HF : Hid (Skip (rd s) p q) := HL.out q (.here (by rw [hZ]; exact hb) (fun e g => by cases hx : isBl (rd s e) with | true => exact absurd ⟨e, g, hx⟩ hy | false => rfl))
        by_cases hL : 0 < L
        · obtain ⟨k, hk, hne⟩ : ∃ k : Nat, L = (k : Int) ∧ isBl (rd s (q + k)) = false := by
            rcases hlen with ⟨g, _⟩ | ⟨e1, g1, g2⟩
            · omega
            · refine ⟨e1 - q, by omega, ?_⟩
              rw [show q + (e1 - q) = e1 by omega]
              cases hx : isBl (rd s e1) with
              | true => exact absurd ⟨e1, g1, hx⟩ hy
              | false => rfl
          subst hk
          have HE := Lib.hid hne
          have hk2 : k ≤ 60000 := by
            rcases hlen with ⟨g, _⟩ | ⟨e1, g1, g2⟩
            · omega
            · have := (end_le hqs g1).2
              omega
          clear hZ hLn hlen hy hb hne
          go_wp2_with fail
          refine (yends_any HA.out hs (by omega)).mono ?_
          rw [HLN.out]
          rintro e w1 ⟨rfl, hb⟩
          have HA1 := Lib.hid (HA.out.below hb)
          have HG1 := Lib.hid (grown_below HG.out hb)
          clear hb
          go_wp2_with fail
          refine (yat0 HA1.out hs (by omega) _ HZ.out).mono ?_
          rintro e w2 ⟨rfl, hb⟩
          have HA2 := Lib.hid (HA1.out.below hb)
          have HG2 := Lib.hid (grown_below HG1.out hb)
          clear hb
          go_wp2_with fail
          refine (yblank_any _ _).mono ?_
          rw [HB0.out]
          rintro e w' ⟨rfl, rfl⟩
          go_wp2_with fail
          refine (yat_eq HA2.out hs (by omega) k (by omega) _ (by omega) _ rfl).mono ?_
          rintro e w3 ⟨rfl, hb⟩
          have HA3 := Lib.hid (HA2.out.below hb)
          have HG3 := Lib.hid (grown_below HG2.out hb)
          obtain ⟨d0, d1, d2, y0, y1, y2⟩ := HA3.out.cells
          clear hb c0 c1 c2 z0 z1 z2
          go_wp2_with fail
          refine (yblank_any _ _).mono ?_
          rw [HE.out]
          rintro e w' ⟨rfl, rfl⟩
          go_wp2_with fail
          go_ret
          exact ⟨q, HF.out, hpq, hqs, by simp, HA3.out, HG3.out⟩
        · clear hZ hLn hlen hy hb
          go_wp2_with fail
          refine (yends_any HA.out hs (by omega)).mono ?_
          rw [HLN.out]
          rintro e w1 ⟨rfl, hb⟩
          have HA1 := Lib.hid (HA.out.below hb)
          have HG1 := Lib.hid (grown_below HG.out hb)
          clear hb
          go_wp2_with fail
          refine (yat0 HA1.out hs (by omega) _ HZ.out).mono ?_
          rintro e w2 ⟨rfl, hb⟩
          have HA2 := Lib.hid (HA1.out.below hb)
          have HG2 := Lib.hid (grown_below HG1.out hb)
          obtain ⟨d0, d1, d2, y0, y1, y2⟩ := HA2.out.cells
          clear hb c0 c1 c2 z0 z1 z2
          go_wp2_with fail
          refine (yblank_any _ _).mono ?_
          rw [HB0.out]
          rintro e w' ⟨rfl, rfl⟩
          go_wp2_with fail
          go_ret
          exact ⟨q, HF.out, hpq, hqs, by simp, HA2.out, HG2.out⟩
    · have HB0 := Lib.hid hb
      have hlt : q < s.size := by
        by_cases g : q < s.size
        · exact g
        · rw [rd_out g] at hZ; subst hZ; simp [isBl] at hb
      have HNX : Hid (∀ z, Skip (rd s) (q + 1) z → Skip (rd s) p z) := fun z hz => HL.out z (.blank (by rw [hZ]; exact hb) hz)
      clear hZ hLn hlen hb
      go_wp2_with fail
      refine (yends_any HA.out hs (by omega)).mono ?_
      rw [HLN.out]
      rintro e w1 ⟨rfl, hb⟩
      have HA1 := Lib.hid (HA.out.below hb)
      have HG1 := Lib.hid (grown_below HG.out hb)
      clear hb
      go_wp2_with fail
      refine (yat0 HA1.out hs (by omega) _ HZ.out).mono ?_
      rintro e w2 ⟨rfl, hb⟩
      have HA2 := Lib.hid (HA1.out.below hb)
      have HG2 := Lib.hid (grown_below HG1.out hb)
      obtain ⟨d0, d1, d2, y0, y1, y2⟩ := HA2.out.cells
      clear hb c0 c1 c2 z0 z1 z2
      go_wp2_with fail
      refine (yblank_any _ _).mono ?_
      rw [HB0.out]
      rintro e w' ⟨rfl, rfl⟩
      go_wp2_with fail
      go_roundw
      case rel => exact ⟨q + 1, HA2.out.step, grown_set HG2.out _ _, by omega, by omega, HNX.out⟩
      case measure =>
        rw [HM.out, HA2.out.step.pos]
        omega

end Go.Proofs.YtddbaacibdmnaaaGreatDoor
