/- How often an element stands is read by the program as the words say; for every text of at most 50000 bytes. -/
import Derived.Test.YtlaglkbcladfbaaDoorRNum
namespace Go.Proofs.YtlaglkbcladfbaaDoor
open Go.RowKit
set_option linter.unusedVariables false
set_option linter.unusedSimpArgs false

theorem numAt_pos {b lim : Int} {f : Nat → Int} {p q : Nat} {v : Int} (hb : 2 ≤ b) (h : numAt b lim f p = .ok v q) : 0 ≤ v := by
  unfold numAt at h
  split at h
  · cases h
  · split at h
    · cases h
    · cases h; exact val_range hb _ _ _

theorem count_no {f : Nat → Int} {p q : Nat} {lo : Int} (h : (if isDc (f p) then numAt 10 200 f p else .ok (-1) p) = .ok lo q) (hq : f q ≠ 42) : countAt f p = .ok (max lo 0, max lo 0, decide (0 ≤ lo)) q := by
  unfold countAt
  rw [h]
  show (if f q = 42 then _ else _) = _
  rw [if_neg hq]
theorem count_star {f : Nat → Int} {p q q' : Nat} {lo hi : Int} (h : (if isDc (f p) then numAt 10 200 f p else .ok (-1) p) = .ok lo q) (hq : f q = 42) (h2 : (if isDc (f (q + 1)) then numAt 10 200 f (q + 1) else .ok (-1) (q + 1)) = .ok hi q') :
    countAt f p = .ok (max lo 0, hi, true) q' := by
  unfold countAt
  rw [h]
  show (if f q = 42 then _ else _) = _
  rw [if_pos hq, h2]
theorem count_err {f : Nat → Int} {p q : Nat} {lo c : Int} (h : (if isDc (f p) then numAt 10 200 f p else .ok (-1) p) = .ok lo q) (hq : f q = 42) (h2 : (if isDc (f (q + 1)) then numAt 10 200 f (q + 1) else .ok (-1) (q + 1)) = .err c) :
    countAt f p = .err c := by
  unfold countAt
  rw [h]
  show (if f q = 42 then _ else _) = _
  rw [if_pos hq, h2]
theorem count_bad {f : Nat → Int} {p : Nat} {c : Int} (h : (if isDc (f p) then numAt 10 200 f p else .ok (-1) p) = .err c) : countAt f p = .err c := by
  unfold countAt
  rw [h]

theorem isDc_nx {s : ByteArray} {q : Nat} : isDc (nx (rd s) q) = isDc (rd s q) := by
  by_cases g : q < s.size
  · rw [nx_in g, ← rd_in g]
  · rw [nx_out g, rd_out g]; rfl
theorem isAl_nx {s : ByteArray} {q : Nat} : isAl (nx (rd s) q) = isAl (rd s q) := by
  by_cases g : q < s.size
  · rw [nx_in g, ← rd_in g]
  · rw [nx_out g, rd_out g]; rfl
theorem rd_lt {s : ByteArray} {q : Nat} {c : Int} (hc : 0 ≤ c) (h : rd s q = c) : q < s.size := by
  by_cases g : q < s.size
  · exact g
  · rw [rd_out g] at h; omega

/-- How often, as the call answers it. -/
def cval (x : Int × Int × Bool) : Value := .tuple #[.int .i64 x.1, .int .i64 x.2.1, .bool x.2.2]

theorem gives_got {α : Type} {mk : α → Value} {R q d : Nat} {s : ByteArray} {g : Got α} {x : α} {v : Value} {w w' : World} (hg : g = .ok x q) (hq : q ≤ s.size) (hv : v = mk x) (ha : At w' R s q d) (hgr : w.grownBy w' (some R)) :
    GivesGot mk R s d g w (.returned v) w' := by
  subst hg hv
  exact ⟨hq, rfl, ha, hgr⟩
theorem fails_got {α : Type} {mk : α → Value} {R d : Nat} {s : ByteArray} {g : Got α} {c : Int} {w w' : World} (hg : g = .err c) (hgr : w.grownBy w' (some R)) :
    GivesGot mk R s d g w (.panicked [{ v := .iface 66 (.agg #[.int .i64 c]), recovered := false }]) w' := by
  subst hg
  exact ⟨rfl, hgr⟩

set_option maxRecDepth 100000 in
set_option maxHeartbeats 4000000 in
theorem count_any {R p d : Nat} {s : ByteArray} {w : World} (h : At w R s p d) (hs : s.size ≤ 50000) (hp : p ≤ s.size) :
    Calls Tryd.prog 145 #[.pointer (some ⟨R, 0, none⟩)] w (GivesGot cval R s d (countAt (rd s) p) w) := by
  have H := Lib.hid h
  have hr := nx_range s p
  clear h
  cases hd : isDc (rd s p)
  · have HD := Lib.hid (isDc_nx.trans hd)
    have HF : Hid ((if isDc (rd s p) then numAt 10 200 (rd s) p else .ok (-1) p) = .ok (-1) p) := by rw [hd]; exact rfl
    clear hd
    go_enter Tryd.func145, Tryd.ntmps145
    go_wp2_with fail
    refine (next_any H.out hs hp).mono ?_
    rintro e w1 ⟨rfl, n, rfl⟩
    go_wp2_with fail
    refine (decimal_any _ hr.1 hr.2 _).mono ?_
    rw [HD.out]
    rintro e w1 ⟨rfl, rfl⟩
    have HA := Lib.hid (H.out.drew n)
    have HG : Hid (w.grownBy (w.drewN n) (some R)) := grown_drew (grown_refl _ _) n
    obtain ⟨q, hq⟩ : ∃ q, q = p := ⟨_, rfl⟩
    have HF : Hid ((if isDc (rd s p) then numAt 10 200 (rd s) p else .ok (-1) p) = .ok (-1) q) := by rw [hq]; exact HF
    rw [← hq] at HA
    have hqs : q ≤ s.size := by omega
    clear hr hq
    by_cases h42 : rd s q = 42
    · have H42 := Lib.hid h42
      have hlt := rd_lt (by omega) h42
      clear h42
      go_wp2_with fail
      refine (taken_yes HA.out hs 42 (by omega) H42.out).mono ?_
      rintro e w2 ⟨rfl, ha, hg⟩
      have HA2 := Lib.hid ha
      have HG2 := Lib.hid (HG.out.trans hg)
      have hr2 := nx_range s (q + 1)
      clear ha hg HA HG
      cases hd2 : isDc (rd s (q + 1))
      · have HD2 := Lib.hid (isDc_nx.trans hd2)
        have HE : Hid (countAt (rd s) p = .ok (max (-1) 0, -1, true) (q + 1)) := count_star HF.out H42.out (by rw [hd2]; rfl)
        clear hd2
        go_wp2_with fail
        refine (next_any HA2.out hs (by omega)).mono ?_
        rintro e w3 ⟨rfl, n3, rfl⟩
        go_wp2_with fail
        refine (decimal_any _ hr2.1 hr2.2 _).mono ?_
        rw [HD2.out]
        rintro e w3 ⟨rfl, rfl⟩
        go_wp2_with fail
        go_ret3
        exact gives_got HE.out (by omega) (by rfl) (HA2.out.drew _) (grown_drew HG2.out _)
      · have HD2 := Lib.hid (isDc_nx.trans hd2)
        cases hn2 : numAt 10 200 (rd s) (q + 1) with
        | err c =>
          have HE : Hid (countAt (rd s) p = .err c) := count_err HF.out H42.out (by rw [hd2]; exact hn2)
          have HN2 := Lib.hid hn2
          clear hd2 hn2
          go_wp2_with fail
          refine (next_any HA2.out hs (by omega)).mono ?_
          rintro e w3 ⟨rfl, n3, rfl⟩
          go_wp2_with fail
          refine (decimal_any _ hr2.1 hr2.2 _).mono ?_
          rw [HD2.out]
          rintro e w3 ⟨rfl, rfl⟩
          go_wp2_with fail
          refine (number_any 10 200 (.inr (.inl rfl)) (by omega) (by omega) (HA2.out.drew n3) hs (by omega)).mono ?_
          rw [HN2.out]
          rintro e w4 ⟨rfl, hg⟩
          have HG4 := Lib.hid ((grown_drew HG2.out n3).trans hg)
          clear hg
          go_wp2_with fail
          exact ⟨rfl, fails_got HE.out HG4.out⟩
        | ok hi q2 =>
          have HE : Hid (countAt (rd s) p = .ok (max (-1) 0, hi, true) q2) := count_star HF.out H42.out (by rw [hd2]; exact hn2)
          have HN2 := Lib.hid hn2
          clear hd2 hn2
          go_wp2_with fail
          refine (next_any HA2.out hs (by omega)).mono ?_
          rintro e w3 ⟨rfl, n3, rfl⟩
          go_wp2_with fail
          refine (decimal_any _ hr2.1 hr2.2 _).mono ?_
          rw [HD2.out]
          rintro e w3 ⟨rfl, rfl⟩
          go_wp2_with fail
          refine (number_any 10 200 (.inr (.inl rfl)) (by omega) (by omega) (HA2.out.drew n3) hs (by omega)).mono ?_
          rw [HN2.out]
          rintro e w4 ⟨hq2, rfl, ha, hg⟩
          have HA4 := Lib.hid ha
          have HG4 := Lib.hid ((grown_drew HG2.out n3).trans hg)
          clear ha hg
          go_wp2_with fail
          go_ret3
          exact gives_got HE.out hq2 (by rfl) HA4.out HG4.out
    · have H42 := Lib.hid h42
      have HE : Hid (countAt (rd s) p = .ok (max (-1) 0, max (-1) 0, decide (0 ≤ (-1 : Int))) q) := count_no HF.out h42
      clear h42
      go_wp2_with fail
      refine (taken_no HA.out hs hqs 42 (by omega) H42.out).mono ?_
      rintro e w2 ⟨rfl, ha, hg⟩
      have HA2 := Lib.hid ha
      have HG2 := Lib.hid (HG.out.trans hg)
      clear ha hg HA HG
      go_wp2_with fail
      go_ret3
      exact gives_got HE.out hqs (by rfl) HA2.out HG2.out
  · have HD := Lib.hid (isDc_nx.trans hd)
    have HC := Lib.hid (number_any 10 200 (.inr (.inl rfl)) (by omega) (by omega) (H.out.drew 0) hs hp)
    cases hn : numAt 10 200 (rd s) p with
    | err c =>
      have HE : Hid (countAt (rd s) p = .err c) := count_bad (by rw [hd]; exact hn)
      have HN := Lib.hid hn
      clear hd hn HC
      go_enter Tryd.func145, Tryd.ntmps145
      go_wp2_with fail
      refine (next_any H.out hs hp).mono ?_
      rintro e w1 ⟨rfl, n, rfl⟩
      go_wp2_with fail
      refine (decimal_any _ hr.1 hr.2 _).mono ?_
      rw [HD.out]
      rintro e w1 ⟨rfl, rfl⟩
      go_wp2_with fail
      refine (number_any 10 200 (.inr (.inl rfl)) (by omega) (by omega) (H.out.drew n) hs hp).mono ?_
      rw [HN.out]
      rintro e w1 ⟨rfl, hg⟩
      have HG := Lib.hid hg
      clear hg
      go_wp2_with fail
      exact ⟨rfl, fails_got HE.out ((grown_drew (grown_refl _ _) n).trans HG.out)⟩
    | ok lo q =>
      have HF : Hid ((if isDc (rd s p) then numAt 10 200 (rd s) p else .ok (-1) p) = .ok lo q) := by rw [hd]; exact hn
      have HN := Lib.hid hn
      have hlo := numAt_pos (by omega) hn
      clear hd hn HC
      go_enter Tryd.func145, Tryd.ntmps145
      go_wp2_with fail
      refine (next_any H.out hs hp).mono ?_
      rintro e w1 ⟨rfl, n, rfl⟩
      go_wp2_with fail
      refine (decimal_any _ hr.1 hr.2 _).mono ?_
      rw [HD.out]
      rintro e w1 ⟨rfl, rfl⟩
      go_wp2_with fail
      refine (number_any 10 200 (.inr (.inl rfl)) (by omega) (by omega) (H.out.drew n) hs hp).mono ?_
      rw [HN.out]
      rintro e w1 ⟨hqs, rfl, ha, hg⟩
      have HA := Lib.hid ha
      have HG := Lib.hid ((grown_drew (grown_refl _ _) n).trans hg)
      clear ha hg hr
      by_cases h42 : rd s q = 42
      · have H42 := Lib.hid h42
        have hlt := rd_lt (by omega) h42
        clear h42
        go_wp2_with fail
        refine (taken_yes HA.out hs 42 (by omega) H42.out).mono ?_
        rintro e w2 ⟨rfl, ha, hg⟩
        have HA2 := Lib.hid ha
        have HG2 := Lib.hid (HG.out.trans hg)
        have hr2 := nx_range s (q + 1)
        clear ha hg HA HG
        cases hd2 : isDc (rd s (q + 1))
        · have HD2 := Lib.hid (isDc_nx.trans hd2)
          have HE : Hid (countAt (rd s) p = .ok (max (lo) 0, -1, true) (q + 1)) := count_star HF.out H42.out (by rw [hd2]; rfl)
          clear hd2
          go_wp2_with fail
          refine (next_any HA2.out hs (by omega)).mono ?_
          rintro e w3 ⟨rfl, n3, rfl⟩
          go_wp2_with fail
          refine (decimal_any _ hr2.1 hr2.2 _).mono ?_
          rw [HD2.out]
          rintro e w3 ⟨rfl, rfl⟩
          go_wp2_with fail
          go_ret3
          exact gives_got HE.out (by omega) (by unfold cval; simp only [Int.max_eq_left hlo, decide_eq_true hlo]; rfl) (HA2.out.drew _) (grown_drew HG2.out _)
        · have HD2 := Lib.hid (isDc_nx.trans hd2)
          cases hn2 : numAt 10 200 (rd s) (q + 1) with
          | err c =>
            have HE : Hid (countAt (rd s) p = .err c) := count_err HF.out H42.out (by rw [hd2]; exact hn2)
            have HN2 := Lib.hid hn2
            clear hd2 hn2
            go_wp2_with fail
            refine (next_any HA2.out hs (by omega)).mono ?_
            rintro e w3 ⟨rfl, n3, rfl⟩
            go_wp2_with fail
            refine (decimal_any _ hr2.1 hr2.2 _).mono ?_
            rw [HD2.out]
            rintro e w3 ⟨rfl, rfl⟩
            go_wp2_with fail
            refine (number_any 10 200 (.inr (.inl rfl)) (by omega) (by omega) (HA2.out.drew n3) hs (by omega)).mono ?_
            rw [HN2.out]
            rintro e w4 ⟨rfl, hg⟩
            have HG4 := Lib.hid ((grown_drew HG2.out n3).trans hg)
            clear hg
            go_wp2_with fail
            exact ⟨rfl, fails_got HE.out HG4.out⟩
          | ok hi q2 =>
            have HE : Hid (countAt (rd s) p = .ok (max (lo) 0, hi, true) q2) := count_star HF.out H42.out (by rw [hd2]; exact hn2)
            have HN2 := Lib.hid hn2
            clear hd2 hn2
            go_wp2_with fail
            refine (next_any HA2.out hs (by omega)).mono ?_
            rintro e w3 ⟨rfl, n3, rfl⟩
            go_wp2_with fail
            refine (decimal_any _ hr2.1 hr2.2 _).mono ?_
            rw [HD2.out]
            rintro e w3 ⟨rfl, rfl⟩
            go_wp2_with fail
            refine (number_any 10 200 (.inr (.inl rfl)) (by omega) (by omega) (HA2.out.drew n3) hs (by omega)).mono ?_
            rw [HN2.out]
            rintro e w4 ⟨hq2, rfl, ha, hg⟩
            have HA4 := Lib.hid ha
            have HG4 := Lib.hid ((grown_drew HG2.out n3).trans hg)
            clear ha hg
            go_wp2_with fail
            go_ret3
            exact gives_got HE.out hq2 (by unfold cval; simp only [Int.max_eq_left hlo, decide_eq_true hlo]; rfl) HA4.out HG4.out
      · have H42 := Lib.hid h42
        have HE : Hid (countAt (rd s) p = .ok (max (lo) 0, max (lo) 0, decide (0 ≤ (lo : Int))) q) := count_no HF.out h42
        clear h42
        go_wp2_with fail
        refine (taken_no HA.out hs hqs 42 (by omega) H42.out).mono ?_
        rintro e w2 ⟨rfl, ha, hg⟩
        have HA2 := Lib.hid ha
        have HG2 := Lib.hid (HG.out.trans hg)
        clear ha hg HA HG
        go_wp2_with fail
        go_ret3
        exact gives_got HE.out hqs (by unfold cval; simp only [Int.max_eq_left hlo, decide_eq_true hlo]; rfl) HA2.out HG2.out

end Go.Proofs.YtlaglkbcladfbaaDoor
