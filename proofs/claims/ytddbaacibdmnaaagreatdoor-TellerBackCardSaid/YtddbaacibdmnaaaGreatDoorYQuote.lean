/- Texts in quotes, and numbers that have to stand there, as the document's own reader reads them; for every text of at most 50000 bytes. -/
import Derived.Test.YtddbaacibdmnaaaGreatDoorYName
namespace Go.Proofs.YtddbaacibdmnaaaGreatDoor
open Go.RowKit
set_option linter.unusedVariables false
set_option linter.unusedSimpArgs false

/-- The call answers the number, or -1 and the error. -/
def NeedY (b : Int) (R : Nat) (s : ByteArray) (p : Nat) (w : World) (e : Ending) (w' : World) : Prop :=
  (∃ v q, numAt b 1114111 (rd s) p = .ok v q ∧ GivesY R s (.int .i64 v) q 0 w e w') ∨
  (∃ c, c ≠ 0 ∧ numAt b 1114111 (rd s) p = .err c ∧ ∃ q, q ≤ s.size ∧ GivesY R s (.int .i64 (-1)) q c w e w')

set_option maxRecDepth 100000 in
theorem yneed_any {R p : Nat} {s : ByteArray} {w : World} (b : Int) (hb : b = 2 ∨ b = 10 ∨ b = 16) (h : AtY w R s p 0) (hs : s.size ≤ 50000) (hp : p ≤ s.size) :
    Calls Tryz.prog 106 #[.pointer (some ⟨R, 0, none⟩), .int .i64 b] w (NeedY b R s p w) := by
  have H := Lib.hid h
  have HBB := Lib.hid hb
  clear h hb
  go_enter Tryz.func106, Tryz.ntmps106
  go_wp2_with fail
  refine (ynumber_any b 1114111 HBB.out (by omega) (by omega) H.out hs hp).mono ?_
  rintro e w1 (⟨hd, rfl, ha, hg⟩ | ⟨v, q, hn, rfl, ha, hg⟩ | ⟨hd, hn, q, hq, rfl, ha, hg⟩)
  · have HN := Lib.hid (numAt_none (lim := 1114111) hd)
    have HA := Lib.hid ha
    have HG := Lib.hid hg
    clear hd ha hg
    go_wp2_with fail
    refine (yfail_first HA.out 20).mono ?_
    rintro e w2 ⟨rfl, ha, hg⟩
    have HA2 := Lib.hid ha
    have HG2 := Lib.hid (HG.out.trans hg)
    clear ha hg
    go_wp2_with fail
    go_ret
    exact .inr ⟨20, by omega, HN.out, p, hp, rfl, HA2.out, HG2.out⟩
  · have hv := numAt_pos (by rcases HBB.out with rfl | rfl | rfl <;> omega) hn
    have hv2 : v ≤ 1114111 := by
      unfold numAt at hn
      split at hn
      · cases hn
      · split at hn
        · cases hn
        · cases hn; omega
    have HN := Lib.hid hn
    have HA := Lib.hid ha
    have HG := Lib.hid hg
    clear hn ha hg
    go_wp2_with fail
    go_ret
    exact .inl ⟨v, q, HN.out, rfl, HA.out, HG.out⟩
  · have HN := Lib.hid hn
    have HA := Lib.hid ha
    have HG := Lib.hid hg
    clear hd hn ha hg
    go_wp2_with fail
    refine (yfail_later HA.out (by omega) 20).mono ?_
    rintro e w2 ⟨rfl, ha, hg⟩
    have HA2 := Lib.hid ha
    have HG2 := Lib.hid (HG.out.trans hg)
    clear ha hg
    go_wp2_with fail
    go_ret
    exact .inr ⟨2, by omega, HN.out, q, hq, rfl, HA2.out, HG2.out⟩

/-- The call answers the text, or a text of some kind and the error. -/
def QuoteY (R : Nat) (s : ByteArray) (p : Nat) (w : World) (e : Ending) (w' : World) : Prop :=
  (∃ x q, quoteAt (rd s) p = .ok x q ∧ (∀ c ∈ x, 0 ≤ c ∧ c < 128) ∧ x.length ≤ 60000 ∧ GivesY R s (.string (strOf x)) q 0 w e w') ∨
  (quoteAt (rd s) p = .err 20 ∧ ∃ x q, q ≤ s.size + 1 ∧ (∀ c ∈ x, 0 ≤ c ∧ c < 128) ∧ x.length ≤ 60000 ∧ GivesY R s (.string (strOf x)) q 20 w e w')

/-- Within the loop. -/
def InQuoteY (R : Nat) (s : ByteArray) (p : Nat) (w wr : World) (T : ByteArray) (q : Nat) : Prop :=
  AtY wr R s q 0 ∧ w.grownBy wr (some R) ∧ p + 1 ≤ q ∧ q ≤ s.size ∧ T = s.extract (p + 1) q ∧ ∀ i, p + 1 ≤ i → i < q → isSt (rd s i) = true

theorem ext_succ {s : ByteArray} {p q : Nat} (h : p ≤ q) : s.extract p q ++ s.extract q (q + 1) = s.extract p (q + 1) := by
  apply ByteArray.ext
  rw [ByteArray.data_append, ByteArray.data_extract, ByteArray.data_extract, ByteArray.data_extract, Array.extract_append_extract]
  congr 1 <;> omega



set_option maxRecDepth 100000 in
set_option maxHeartbeats 4000000 in
theorem yquoted_any {R p : Nat} {s : ByteArray} {w : World} (h : AtY w R s p 0) (hs : s.size ≤ 50000) (h34 : rd s p = 34) :
    Calls Tryz.prog 105 #[.pointer (some ⟨R, 0, none⟩)] w (QuoteY R s p w) := by
  obtain ⟨c0, c1, c2, z0, z1, z2⟩ := h.cells
  have hp : p < s.size := rd_lt (by omega) h34
  have H34 := Lib.hid h34
  have H := Lib.hid h
  clear h h34
  go_enter Tryz.func105, Tryz.ntmps105
  go_wp2_with fail
  clear c0 c1 c2 z0 z1 z2
  go_loopw [3] (fun v wr => ∃ T : ByteArray, ∃ q : Nat, v = .string T ∧ InQuoteY R s p w wr T q) (fun _ wr => s.size - posOf R wr)
  case atStart => exact ⟨⟨#[]⟩, p + 1, rfl, H.out.step, grown_set (grown_refl _ _) _ _, Nat.le_refl _, by omega, by simp [ByteArray.ext_iff], fun i h1 h2 => absurd h1 (by omega)⟩
  case round =>
    obtain ⟨T, q, rfl, ha, hg, hpq, hqs, hT, hall⟩ := hrel
    have HA := Lib.hid ha
    have HG := Lib.hid hg
    have HM := Lib.hid ha.pos
    obtain ⟨Z, hZ⟩ : ∃ y, rd s q = y := ⟨_, rfl⟩
    have HZ := Lib.hid hZ
    have hZr := rd_range s q
    rw [hZ] at hZr
    have hTs : T.size = q - (p + 1) := by rw [hT, ByteArray.size_extract]; omega
    have HTX : Hid (T = strOf (cut (rd s) (p + 1) (q - (p + 1)))) := by rw [hT]; exact extract_eq hqs
    cases hst : isSt Z
    · have hrun : IsRun isSt (rd s) (p + 1) q := ⟨hpq, hall, by rw [hZ]; exact hst⟩
      have HRUN := Lib.hid hrun
      have HLOW := Lib.hid (run_bytes isSt_low hrun)
      have HLEN : Hid ((cut (rd s) (p + 1) (q - (p + 1))).length ≤ 60000) := by rw [cut_len]; exact (by omega : q - (p + 1) ≤ 60000)
      have hst2 : ¬ (32 ≤ Z ∧ Z ≤ 126 ∧ Z ≠ 34) := by
        unfold isSt at hst
        simp at hst
        intro ⟨g1, g2, g3⟩
        exact g3 (hst g1 g2)
      clear ha hg hZ hT hall hst hrun hTs
      by_cases g1 : 32 ≤ Z
      · by_cases g2 : Z < 127
        · have g3 : Z = 34 := by omega
          subst g3
          clear hst2
          go_wp2_with fail
          refine (yat0 HA.out hs (by omega) _ HZ.out).mono ?_
          rintro e w1 ⟨rfl, hbw⟩
          have HA0 := Lib.hid (HA.out.below hbw)
          have HG0 := Lib.hid (grown_below HG.out hbw)
          clear hbw
          go_wp2_with fail
          refine (yat0 HA0.out hs (by omega) _ HZ.out).mono ?_
          rintro e w2 ⟨rfl, hbw⟩
          have HAb := Lib.hid (HA0.out.below hbw)
          have HGb := Lib.hid (grown_below HG0.out hbw)
          clear hbw
          go_wp2_with fail
          refine (yat0 HAb.out hs (by omega) _ HZ.out).mono ?_
          rintro e w3 ⟨rfl, hbw⟩
          have HA1 := Lib.hid (HAb.out.below hbw)
          have HG1 := Lib.hid (grown_below HGb.out hbw)
          clear hbw HA HG HA0 HG0 HAb HGb
          have HQ : Hid (quoteAt (rd s) p = .ok (cut (rd s) (p + 1) (q - (p + 1))) (q + 1)) := by
            unfold quoteAt
            rw [if_pos H34.out, HRUN.out.eq, if_pos HZ.out]
            exact rfl
          go_wp2_with fail
          refine (yat0 HA1.out hs (by omega) _ HZ.out).mono ?_
          rintro e w5 ⟨rfl, hbw⟩
          have HA5 := Lib.hid (HA1.out.below hbw)
          have HG5 := Lib.hid (grown_below HG1.out hbw)
          obtain ⟨d0, d1, d2, y0, y1, y2⟩ := HA5.out.cells
          clear hbw
          go_wp2_with fail
          go_ret
          rw [HTX.out]
          exact .inl ⟨_, q + 1, HQ.out, HLOW.out, HLEN.out, rfl, HA5.out.step, grown_set HG5.out _ _⟩
        · clear hst2
          have h34 : ¬ Z = 34 := by omega
          go_wp2_with fail
          refine (yat0 HA.out hs (by omega) _ HZ.out).mono ?_
          rintro e w1 ⟨rfl, hbw⟩
          have HA0 := Lib.hid (HA.out.below hbw)
          have HG0 := Lib.hid (grown_below HG.out hbw)
          clear hbw
          go_wp2_with fail
          refine (yat0 HA0.out hs (by omega) _ HZ.out).mono ?_
          rintro e w2 ⟨rfl, hbw⟩
          have HA1 := Lib.hid (HA0.out.below hbw)
          have HG1 := Lib.hid (grown_below HG0.out hbw)
          clear hbw HA HG HA0 HG0
          have q34 : (Z == 34) = false := by simpa using h34
          have q34' : (Z != 34) = true := by simpa using h34
          have HQ : Hid (quoteAt (rd s) p = .err 20) := by
            unfold quoteAt
            rw [if_pos H34.out, HRUN.out.eq, if_neg (by rw [HZ.out]; exact h34)]
            exact rfl
          clear h34
          go_wp2_with fail
          refine (yat0 HA1.out hs (by omega) _ HZ.out).mono ?_
          rintro e w5 ⟨rfl, hbw⟩
          have HA5 := Lib.hid (HA1.out.below hbw)
          have HG5 := Lib.hid (grown_below HG1.out hbw)
          clear hbw
          go_wp2_with fail
          refine (yfail_first HA5.out 20).mono ?_
          rintro e w6 ⟨rfl, ha, hg⟩
          have HA6 := Lib.hid ha
          have HG6 := Lib.hid (HG5.out.trans hg)
          obtain ⟨d0, d1, d2, y0, y1, y2⟩ := ha.cells
          clear ha hg
          go_wp2_with fail
          go_ret
          rw [HTX.out]
          exact .inr ⟨HQ.out, _, q + 1, by omega, HLOW.out, HLEN.out, rfl, HA6.out.step, grown_set HG6.out _ _⟩
      · clear hst2
        have h34 : ¬ Z = 34 := by omega
        go_wp2_with fail
        refine (yat0 HA.out hs (by omega) _ HZ.out).mono ?_
        rintro e w1 ⟨rfl, hbw⟩
        have HA1 := Lib.hid (HA.out.below hbw)
        have HG1 := Lib.hid (grown_below HG.out hbw)
        clear hbw HA HG
        have q34 : (Z == 34) = false := by simpa using h34
        have q34' : (Z != 34) = true := by simpa using h34
        have HQ : Hid (quoteAt (rd s) p = .err 20) := by
          unfold quoteAt
          rw [if_pos H34.out, HRUN.out.eq, if_neg (by rw [HZ.out]; exact h34)]
          exact rfl
        clear h34
        go_wp2_with fail
        refine (yat0 HA1.out hs (by omega) _ HZ.out).mono ?_
        rintro e w5 ⟨rfl, hbw⟩
        have HA5 := Lib.hid (HA1.out.below hbw)
        have HG5 := Lib.hid (grown_below HG1.out hbw)
        clear hbw
        go_wp2_with fail
        refine (yfail_first HA5.out 20).mono ?_
        rintro e w6 ⟨rfl, ha, hg⟩
        have HA6 := Lib.hid ha
        have HG6 := Lib.hid (HG5.out.trans hg)
        obtain ⟨d0, d1, d2, y0, y1, y2⟩ := ha.cells
        clear ha hg
        go_wp2_with fail
        go_ret
        rw [HTX.out]
        exact .inr ⟨HQ.out, _, q + 1, by omega, HLOW.out, HLEN.out, rfl, HA6.out.step, grown_set HG6.out _ _⟩
    · obtain ⟨g1, g2, g3⟩ : 32 ≤ Z ∧ Z < 127 ∧ Z ≠ 34 := by
        unfold isSt at hst
        simp at hst
        exact ⟨by omega, by omega, hst.2⟩
      have q34 : (Z != 34) = true := by simpa using g3
      have hlt : q < s.size := rd_lt (by omega) hZ
      have HNX : Hid (∀ i, p + 1 ≤ i → i < q + 1 → isSt (rd s i) = true) := run_next (P := isSt) hall (by rw [hZ]; exact hst)
      have HTN : Hid (T ++ s.extract q (q + 1) = s.extract (p + 1) (q + 1)) := by rw [hT]; exact ext_succ hpq
      have hT2 : T.size ≤ 50000 := by omega
      obtain ⟨m, hm0⟩ : ∃ m, q + 1 = m := ⟨_, rfl⟩
      have hm : (q : Int) + 1 = (m : Int) := by omega
      have hT3 : (s.extract q m).size = 1 := by rw [ByteArray.size_extract]; omega
      have hle : decide ((q : Int) ≤ (m : Int)) = true := by simp; omega
      have hle2 : decide ((m : Int) ≤ (s.size : Int)) = true := by simp; omega
      have hle3 : q ≤ m := by omega
      have hle4 : m ≤ s.size := by omega
      rw [hm0] at HTN HNX
      clear ha hg hZ hT hall hst hTs g3
      go_wp2_with fail
      refine (yat0 HA.out hs (by omega) _ HZ.out).mono ?_
      rintro e w1 ⟨rfl, hbw⟩
      have HA0 := Lib.hid (HA.out.below hbw)
      have HG0 := Lib.hid (grown_below HG.out hbw)
      clear hbw
      go_wp2_with fail
      refine (yat0 HA0.out hs (by omega) _ HZ.out).mono ?_
      rintro e w2 ⟨rfl, hbw⟩
      have HAb := Lib.hid (HA0.out.below hbw)
      have HGb := Lib.hid (grown_below HG0.out hbw)
      clear hbw
      go_wp2_with fail
      refine (yat0 HAb.out hs (by omega) _ HZ.out).mono ?_
      rintro e w3 ⟨rfl, hbw⟩
      have HA1 := Lib.hid (HAb.out.below hbw)
      have HG1 := Lib.hid (grown_below HGb.out hbw)
      obtain ⟨d0, d1, d2, y0, y1, y2⟩ := HA1.out.cells
      clear hbw HA HG HA0 HG0 HAb HGb
      go_wp2_with fail
      go_quiet (fail)
      go_wp2_with fail
      go_roundw
      case rel => exact ⟨_, m, rfl, (HA1.out.drew _).put (by omega), grown_set (grown_drew HG1.out _) _ _, by omega, by omega, HTN.out, HNX.out⟩
      case measure =>
        rw [HM.out, ((HA1.out.drew _).put (q := m) (by omega)).pos]
        omega

end Go.Proofs.YtddbaacibdmnaaaGreatDoor
