/- The end of a line that must stand there, an empty line, white space: read by the program as the words say; for every text of at most 50000 bytes. -/
import Derived.Test.YtlaglkbcladfbaaDoorREnd
import Derived.WalkMore
namespace Go.Proofs.YtlaglkbcladfbaaDoor
open Go.RowKit
set_option linter.unusedVariables false
set_option linter.unusedSimpArgs false

theorem endNum_some {f : Nat → Int} {p e : Nat} (h : lineEnd f p = some e) : endNum f p = e := by unfold endNum; rw [h]
theorem endNum_none {f : Nat → Int} {p : Nat} (h : lineEnd f p = none) : endNum f p = -1 := by unfold endNum; rw [h]

theorem At.put {w : World} {R : Nat} {s : ByteArray} {p d : Nat} (h : At w R s p d) {x : Int} {q : Nat} (hx : x = q) : At (w.setCell ⟨R, 1, none⟩ (.int .i64 x)) R s q d := by rw [hx]; exact h.set q
theorem At.below {w w' : World} {R : Nat} {s : ByteArray} {p d : Nat} (h : At w R s p d) (hb : Below w.heap.size w w') : At w' R s p d := (hb.block R h.lt).trans h
theorem grown_below {w w1 w' : World} {row : Option Nat} (h : w.grownBy w1 row) (hb : Below w1.heap.size w1 w') : w.grownBy w' row :=
  h.trans ⟨hb.os, hb.tape, hb.output, hb.size, fun k hk _ => hb.block k hk⟩

theorem lineEnd_yes {R p d e : Nat} {s : ByteArray} {w : World} (h : At w R s p d) (hs : s.size ≤ 50000) (hp : p ≤ s.size) (he : lineEnd (rd s) p = some e) :
    Calls Tryd.prog 80 #[.pointer (some ⟨R, 0, none⟩)] w (Takes R s d e w) := by
  have HC := Lib.hid (behind_any h hs hp)
  have HE := Lib.hid (endNum_some he)
  have H := Lib.hid h
  clear h he
  go_enter Tryd.func80, Tryd.ntmps80
  go_wp2_with fail
  refine HC.out.mono ?_
  rw [HE.out]
  rintro e1 w1 ⟨rfl, hb⟩
  obtain ⟨c0, c1, c2, z0, z1, z2⟩ := (H.out.below hb).cells
  have HA := Lib.hid (H.out.below hb)
  have HB := Lib.hid hb
  clear hb
  go_wp2
  go_end0
  exact ⟨rfl, HA.out.set e, grown_set (grown_below (grown_refl _ _) HB.out) _ _⟩

theorem lineEnd_no {R p d : Nat} {s : ByteArray} {w : World} (h : At w R s p d) (hs : s.size ≤ 50000) (hp : p ≤ s.size) (he : lineEnd (rd s) p = none) :
    Calls Tryd.prog 80 #[.pointer (some ⟨R, 0, none⟩)] w (Fails R 20 w) := by
  have HC := Lib.hid (behind_any h hs hp)
  have HE := Lib.hid (endNum_none he)
  have H := Lib.hid h
  clear h he
  go_enter Tryd.func80, Tryd.ntmps80
  go_wp2_with fail
  refine HC.out.mono ?_
  rw [HE.out]
  rintro e1 w1 ⟨rfl, hb⟩
  have HB := Lib.hid hb
  clear hb
  go_wp2_with fail
  refine (fail_any _ _).mono ?_
  rintro e w2 ⟨rfl, rfl⟩
  go_wp2_with fail
  exact ⟨rfl, rfl, grown_below (grown_refl _ _) HB.out⟩

theorem empty_yes {R p d q e : Nat} {s : ByteArray} {w : World} (h : At w R s p d) (hs : s.size ≤ 50000) (hp : p ≤ s.size) (hq : runEnd isBl (rd s) p = q) (he : lineEnd (rd s) q = some e) :
    Calls Tryd.prog 60 #[.pointer (some ⟨R, 0, none⟩)] w (Takes R s d e w) := by
  have HC := Lib.hid (while_blank h hs hp)
  have HE := Lib.hid he
  have HQ := Lib.hid hq
  clear h he hq
  go_enter Tryd.func60, Tryd.ntmps60
  go_wp2_with fail
  refine HC.out.mono ?_
  rintro e1 w1 ⟨q1, hrun, hqs, rfl, ha, hg⟩
  obtain rfl : q1 = q := hrun.eq.symm.trans HQ.out
  have HA := Lib.hid ha
  have HG := Lib.hid hg
  clear ha hg hrun HC
  go_wp2_with fail
  refine (lineEnd_yes HA.out hs hqs HE.out).mono ?_
  rintro e1 w2 ⟨rfl, ha, hg⟩
  have HA2 := Lib.hid ha
  have HG2 := Lib.hid hg
  clear ha hg
  go_wp2_with fail
  go_end0
  exact ⟨rfl, HA2.out, HG.out.trans HG2.out⟩

theorem empty_no {R p d q : Nat} {s : ByteArray} {w : World} (h : At w R s p d) (hs : s.size ≤ 50000) (hp : p ≤ s.size) (hq : runEnd isBl (rd s) p = q) (he : lineEnd (rd s) q = none) :
    Calls Tryd.prog 60 #[.pointer (some ⟨R, 0, none⟩)] w (Fails R 20 w) := by
  have HC := Lib.hid (while_blank h hs hp)
  have HE := Lib.hid he
  have HQ := Lib.hid hq
  clear h he hq
  go_enter Tryd.func60, Tryd.ntmps60
  go_wp2_with fail
  refine HC.out.mono ?_
  rintro e1 w1 ⟨q1, hrun, hqs, rfl, ha, hg⟩
  obtain rfl : q1 = q := hrun.eq.symm.trans HQ.out
  have HA := Lib.hid ha
  have HG := Lib.hid hg
  clear ha hg hrun HC
  go_wp2_with fail
  refine (lineEnd_no HA.out hs hqs HE.out).mono ?_
  rintro e1 w2 ⟨rfl, hg⟩
  have HG2 := Lib.hid hg
  clear hg
  go_wp2_with fail
  exact ⟨rfl, rfl, HG.out.trans HG2.out⟩

/-- The call returns whether there is white space, and has read it. -/
def GivesSpace (R : Nat) (s : ByteArray) (p d : Nat) (w : World) (e : Ending) (w' : World) : Prop :=
  ∃ q, Skip (rd s) p q ∧ p ≤ q ∧ q ≤ s.size ∧ Gives R s d (.bool (decide (p < q))) q w e w'

/-- Within the loop. -/
def InSkip (R : Nat) (s : ByteArray) (p d : Nat) (w wr : World) (q : Nat) : Prop :=
  At wr R s q d ∧ w.grownBy wr (some R) ∧ p ≤ q ∧ q ≤ s.size ∧ ∀ r, Skip (rd s) q r → Skip (rd s) p r

theorem isBl_nx {s : ByteArray} {q : Nat} : isBl (nx (rd s) q) = isBl (rd s q) := by
  by_cases g : q < s.size
  · rw [nx_in g, ← rd_in g]
  · rw [nx_out g, rd_out g]; rfl
theorem isBl_lt {s : ByteArray} {q : Nat} (h : isBl (rd s q) = true) : q < s.size := by
  by_cases g : q < s.size
  · exact g
  · rw [rd_out g] at h; cases h

/-- A run there is, and it ends within the text. -/
theorem run_is {P : Int → Bool} (hn : P (-1) = false) (s : ByteArray) : ∀ (k p : Nat), p ≤ s.size → s.size - p ≤ k → ∃ q, IsRun P (rd s) p q ∧ q ≤ s.size := by
  intro k
  induction k with
  | zero =>
    intro p hp hk
    exact ⟨p, ⟨Nat.le_refl _, fun i h1 h2 => absurd h1 (by omega), by rw [rd_out (by omega)]; exact hn⟩, hp⟩
  | succ k ih =>
    intro p hp hk
    cases h : P (rd s p)
    · exact ⟨p, ⟨Nat.le_refl _, fun i h1 h2 => absurd h1 (by omega), h⟩, hp⟩
    · have hlt : p < s.size := by
        by_cases g : p < s.size
        · exact g
        · rw [rd_out g, hn] at h; cases h
      obtain ⟨q, hr, hq⟩ := ih (p + 1) (by omega) (by omega)
      refine ⟨q, ⟨by have := hr.le; omega, fun i h1 h2 => ?_, hr.stop⟩, hq⟩
      by_cases g : i = p
      · subst g; exact h
      · exact hr.all i (by omega) h2

theorem run_at {P : Int → Bool} (hn : P (-1) = false) {s : ByteArray} {p : Nat} (hp : p ≤ s.size) : IsRun P (rd s) p (runEnd P (rd s) p) ∧ runEnd P (rd s) p ≤ s.size := by
  obtain ⟨q, hr, hq⟩ := run_is hn s _ p hp (Nat.le_refl _)
  rw [hr.eq]
  exact ⟨hr, hq⟩

theorem com_le {s : ByteArray} {p : Nat} (hp : p ≤ s.size) : p ≤ comEnd (rd s) p ∧ comEnd (rd s) p ≤ s.size := by
  unfold comEnd
  split
  · rename_i h
    have hlt : p < s.size := by
      by_cases g : p < s.size
      · exact g
      · rw [rd_out g] at h; omega
    obtain ⟨hr, hq⟩ := run_at (P := isCm) (by decide) (s := s) (p := p + 1) (by omega)
    have := hr.le
    omega
  · omega

theorem end_le {s : ByteArray} {p e : Nat} (hp : p ≤ s.size) (h : lineEnd (rd s) p = some e) : p ≤ e ∧ e ≤ s.size := by
  have hc := com_le hp
  unfold lineEnd at h
  split at h
  · cases h; exact hc
  · rename_i h0
    have hlt : comEnd (rd s) p < s.size := by
      by_cases g : comEnd (rd s) p < s.size
      · exact g
      · exact absurd (rd_neg.2 g) h0
    split at h
    · cases h; omega
    · split at h
      · rename_i h2
        have : comEnd (rd s) p + 1 < s.size := by
          by_cases g : comEnd (rd s) p + 1 < s.size
          · exact g
          · have := h2.2; rw [rd_out g] at this; omega
        cases h; omega
      · cases h

/-- A line's end begins with one of three bytes, or there is none but the text's end. -/
theorem end_first {s : ByteArray} {p e : Nat} (h : lineEnd (rd s) p = some e) (h1 : nx (rd s) p ≠ 59) (h2 : nx (rd s) p ≠ 13) (h3 : nx (rd s) p ≠ 10) : isBl (rd s e) = false := by
  have g1 : rd s p ≠ 59 := fun g => h1 ((nx_eq (by omega)).2 g)
  have g2 : rd s p ≠ 13 := fun g => h2 ((nx_eq (by omega)).2 g)
  have g3 : rd s p ≠ 10 := fun g => h3 ((nx_eq (by omega)).2 g)
  have hc : comEnd (rd s) p = p := by unfold comEnd; rw [if_neg g1]
  unfold lineEnd at h
  rw [hc] at h
  split at h
  · rename_i g
    cases h
    rw [rd_out (rd_neg.1 g)]
    decide
  · rw [if_neg (fun k => g2 k.1)] at h
    cases h

set_option maxRecDepth 100000 in
set_option maxHeartbeats 4000000 in
theorem space_any {R p d : Nat} {s : ByteArray} {w : World} (h : At w R s p d) (hs : s.size ≤ 50000) (hp : p ≤ s.size) :
    Calls Tryd.prog 82 #[.pointer (some ⟨R, 0, none⟩)] w (GivesSpace R s p d w) := by
  obtain ⟨c0, c1, c2, z0, z1, z2⟩ := h.cells
  have H := Lib.hid h
  clear h
  go_enter Tryd.func82, Tryd.ntmps82
  go_wp2_with fail
  go_step3
  go_wp2_with fail
  go_step3
  go_wp2_with fail
  clear c0 c1 c2 z0 z1 z2
  go_loopw [4, 5] (fun _ _ wr => ∃ q : Nat, InSkip R s p d w wr q) (fun _ _ wr => s.size - posOf R wr)
  case atStart => exact ⟨p, H.out, grown_refl _ _, Nat.le_refl _, hp, fun r hr => hr⟩
  case round =>
    obtain ⟨q, ha, hg, hpq, hqs, hsk⟩ := hrel
    have HA := Lib.hid ha
    have HG := Lib.hid hg
    have HS := Lib.hid hsk
    have HM := Lib.hid ha.pos
    obtain ⟨c0, c1, c2, z0, z1, z2⟩ := ha.cells
    obtain ⟨c, hc⟩ : ∃ c, c = nx (rd s) q := ⟨_, rfl⟩
    have hr : 0 ≤ c ∧ c ≤ 255 := by rw [hc]; exact nx_range s q
    have hbl : isBl c = isBl (rd s q) := by rw [hc]; exact isBl_nx
    have HC := Lib.hid hc
    clear ha hg hsk
    cases hb : isBl (rd s q)
    · have HB := Lib.hid hb
      have HBC := Lib.hid (hbl.trans hb)
      clear hb hbl
      by_cases h3 : c = 59 ∨ c = 13 ∨ c = 10
      · cases hle : lineEnd (rd s) q with
        | none =>
          have HZ : Hid (Skip (rd s) q q) := Skip.here HB.out (fun e he => by rw [hle] at he; cases he)
          have HL := Lib.hid (endNum_none hle)
          clear hle hc c0 c1 c2 z0 z1 z2
          rcases h3 with rfl | rfl | rfl
          all_goals
            go_wp2_with fail
            refine (next_any HA.out hs hqs).mono ?_
            rw [← HC.out]
            rintro e w' ⟨rfl, n, rfl⟩
            go_wp2_with fail
            refine (blank_any _ _).mono ?_
            rw [HBC.out]
            rintro e w' ⟨rfl, rfl⟩
            go_wp2_with fail
            refine (behind_any (HA.out.drew n) hs hqs).mono ?_
            rw [HL.out]
            rintro e w2 ⟨rfl, hb2⟩
            have HA2 := Lib.hid ((HA.out.drew n).below hb2)
            have HG2 := Lib.hid (grown_below (grown_drew HG.out n) hb2)
            obtain ⟨c0, c1, c2, z0, z1, z2⟩ := HA2.out.cells
            clear hb2
            go_wp2_with fail
            try rw [Exit.noGoto_ret]
            go_ret
            exact ⟨q, HS.out _ HZ.out, hpq, hqs, rfl, HA2.out, HG2.out⟩
        | some e =>
          have HL := Lib.hid (endNum_some hle)
          have hee := end_le hqs hle
          have HLE := Lib.hid hle
          have q0 : decide ((e : Int) < 0) = false := decide_eq_false (by omega)
          by_cases he : e < s.size
          · cases hbe : isBl (rd s e)
            · have HZ : Hid (Skip (rd s) q q) := Skip.here HB.out (fun e' he' => by rw [hle] at he'; cases he'; exact hbe)
              have HBE : Hid (isBl (s[e].toNat : Int) = false) := by rw [← rd_in he]; exact hbe
              have q1 : decide (e = s.size) = false := by simp; omega
              clear hle hc hbe c0 c1 c2 z0 z1 z2
              rcases h3 with rfl | rfl | rfl
              all_goals
                go_wp2_with fail
                refine (next_any HA.out hs hqs).mono ?_
                rw [← HC.out]
                rintro e' w' ⟨rfl, n, rfl⟩
                go_wp2_with fail
                refine (blank_any _ _).mono ?_
                rw [HBC.out]
                rintro e' w' ⟨rfl, rfl⟩
                go_wp2_with fail
                refine (behind_any (HA.out.drew n) hs hqs).mono ?_
                rw [HL.out]
                rintro e' w2 ⟨rfl, hb2⟩
                have HA2 := Lib.hid ((HA.out.drew n).below hb2)
                have HG2 := Lib.hid (grown_below (grown_drew HG.out n) hb2)
                obtain ⟨c0, c1, c2, z0, z1, z2⟩ := HA2.out.cells
                clear hb2
                go_wp2_with fail
                refine (blank_any _ _).mono ?_
                rw [HBE.out]
                rintro e' w' ⟨rfl, rfl⟩
                go_wp2_with fail
                try rw [Exit.noGoto_ret]
                go_ret
                exact ⟨q, HS.out _ HZ.out, hpq, hqs, rfl, HA2.out, HG2.out⟩
            · have HBE : Hid (isBl (s[e].toNat : Int) = true) := by rw [← rd_in he]; exact hbe
              have HZ : Hid (∀ r, Skip (rd s) (e + 1) r → Skip (rd s) q r) := fun r hr => Skip.line HB.out hle hbe hr
              have q1 : decide (e = s.size) = false := by simp; omega
              clear hle hc hbe c0 c1 c2 z0 z1 z2
              rcases h3 with rfl | rfl | rfl
              all_goals
                go_wp2_with fail
                refine (next_any HA.out hs hqs).mono ?_
                rw [← HC.out]
                rintro e' w' ⟨rfl, n, rfl⟩
                go_wp2_with fail
                refine (blank_any _ _).mono ?_
                rw [HBC.out]
                rintro e' w' ⟨rfl, rfl⟩
                go_wp2_with fail
                refine (behind_any (HA.out.drew n) hs hqs).mono ?_
                rw [HL.out]
                rintro e' w2 ⟨rfl, hb2⟩
                have HA2 := Lib.hid ((HA.out.drew n).below hb2)
                have HG2 := Lib.hid (grown_below (grown_drew HG.out n) hb2)
                obtain ⟨c0, c1, c2, z0, z1, z2⟩ := HA2.out.cells
                clear hb2
                go_wp2_with fail
                refine (blank_any _ _).mono ?_
                rw [HBE.out]
                rintro e' w' ⟨rfl, rfl⟩
                go_wp2_with fail
                go_roundw
                case rel => exact ⟨e + 1, HA2.out.put (by omega), grown_set HG2.out _ _, by omega, by omega, fun r hr => HS.out r (HZ.out r hr)⟩
                case measure =>
                  rw [HM.out, (HA2.out.put (x := (e : Int) + 1) (q := e + 1) (by omega)).pos]
                  omega
          · obtain ⟨m, hm⟩ : ∃ m, m = s.size := ⟨_, rfl⟩
            have HMM := Lib.hid hm
            obtain rfl : e = m := by omega
            have q1 : decide (e = s.size) = true := by simp; omega
            have HZ : Hid (Skip (rd s) q q) := Skip.here HB.out (fun e' he' => by rw [hle] at he'; cases he'; rw [rd_out he]; decide)
            clear hle hc hm c0 c1 c2 z0 z1 z2
            rcases h3 with rfl | rfl | rfl
            all_goals
              go_wp2_with fail
              refine (next_any HA.out hs hqs).mono ?_
              rw [← HC.out]
              rintro e' w' ⟨rfl, n, rfl⟩
              go_wp2_with fail
              refine (blank_any _ _).mono ?_
              rw [HBC.out]
              rintro e' w' ⟨rfl, rfl⟩
              go_wp2_with fail
              refine (behind_any (HA.out.drew n) hs hqs).mono ?_
              rw [HL.out]
              rintro e' w2 ⟨rfl, hb2⟩
              have HA2 := Lib.hid ((HA.out.drew n).below hb2)
              have HG2 := Lib.hid (grown_below (grown_drew HG.out n) hb2)
              obtain ⟨c0, c1, c2, z0, z1, z2⟩ := HA2.out.cells
              clear hb2
              go_wp2_with fail
              try rw [Exit.noGoto_ret]
              go_ret
              exact ⟨q, HS.out _ HZ.out, hpq, hqs, rfl, HA2.out, HG2.out⟩
      · have e1 : (c == 59) = false := by simp; omega
        have e2 : (c == 13) = false := by simp; omega
        have e3 : (c == 10) = false := by simp; omega
        have HZ : Hid (Skip (rd s) q q) := Skip.here HB.out (fun e he => end_first he (by omega) (by omega) (by omega))
        clear hc h3
        go_wp2_with fail
        refine (next_any HA.out hs hqs).mono ?_
        rw [← HC.out]
        rintro e w' ⟨rfl, n, rfl⟩
        go_wp2_with fail
        refine (blank_any _ _).mono ?_
        rw [HBC.out]
        rintro e w' ⟨rfl, rfl⟩
        go_wp2_with fail
        try rw [Exit.noGoto_ret]
        go_ret
        exact ⟨q, HS.out _ HZ.out, hpq, hqs, rfl, HA.out.drew n, grown_drew HG.out n⟩
    · have HB := Lib.hid hb
      have HBC := Lib.hid (hbl.trans hb)
      have hlt := isBl_lt hb
      clear hb hbl hc
      go_wp2_with fail
      refine (next_any HA.out hs hqs).mono ?_
      rw [← HC.out]
      rintro e w' ⟨rfl, n, rfl⟩
      go_wp2_with fail
      refine (blank_any _ _).mono ?_
      rw [HBC.out]
      rintro e w' ⟨rfl, rfl⟩
      go_wp2_with fail
      go_roundw
      case rel => exact ⟨q + 1, (HA.out.drew n).step, grown_set (grown_drew HG.out n) _ _, by omega, by omega, fun r hr => HS.out r (.blank HB.out hr)⟩
      case measure =>
        rw [HM.out, (HA.out.drew n).step.pos]
        omega

end Go.Proofs.YtlaglkbcladfbaaDoor
