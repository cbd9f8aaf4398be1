/- Names and texts in quotes are read by the program as the words say; for every text of at most 50000 bytes. -/
import Derived.Test.YtlaglkbcladfbaaDoorRCount
import Derived.Test.YtlaglkbcladfbaaDoorRShelf
namespace Go.Proofs.YtlaglkbcladfbaaDoor
open Go.RowKit
set_option linter.unusedVariables false
set_option linter.unusedSimpArgs false

/-- The bytes of a list of numbers. -/
def byt (c : Int) : UInt8 := UInt8.ofNat c.toNat
def strOf (x : List Int) : ByteArray := ⟨(x.map byt).toArray⟩

theorem byt_nat (b : UInt8) : byt (b.toNat : Int) = b := by unfold byt; simp
theorem cut_len (f : Nat → Int) (p n : Nat) : (cut f p n).length = n := by unfold cut; simp
theorem cut_at (f : Nat → Int) (p n i : Nat) (h : i < n) : (cut f p n)[i]? = some (f (p + i)) := by unfold cut; simp [h]

theorem extract_eq {s : ByteArray} {p q : Nat} (hq : q ≤ s.size) : s.extract p q = strOf (cut (rd s) p (q - p)) := by
  have hl : (s.extract p q).data.toList = (cut (rd s) p (q - p)).map byt := by
    apply List.ext_getElem?
    intro i
    rw [ByteArray.data_extract, Array.toList_extract, List.getElem?_map, List.extract_eq_take_drop]
    by_cases h : i < q - p
    · rw [cut_at _ _ _ _ h, List.getElem?_take_of_lt h, List.getElem?_drop]
      have hi : p + i < s.size := by omega
      rw [rd_in hi]
      show _ = some (byt _)
      rw [byt_nat]
      exact List.getElem?_eq_getElem (by simpa using hi)
    · rw [List.getElem?_eq_none (by simp; omega), List.getElem?_eq_none (by rw [cut_len]; omega)]
      rfl
  unfold strOf
  rw [← hl]

theorem strOf_data (x : List Int) : (strOf x).data.toList = x.map byt := by unfold strOf; simp
theorem strOf_size (x : List Int) : (strOf x).size = x.length := by unfold strOf; show (List.toArray _).size = _; simp

set_option maxRecDepth 100000 in
theorem low_byt {c : Int} (h0 : 0 ≤ c) (h1 : c ≤ 255) : Lib.lowerB (byt c) = byt (low c) := by
  have key : ∀ i : Fin 256, Lib.lowerB (byt ((i.val : Nat) : Int)) = byt (low ((i.val : Nat) : Int)) := by decide
  have := key ⟨c.toNat, by omega⟩
  simpa [show ((c.toNat : Nat) : Int) = c by omega] using this

theorem lower_str {x : List Int} (h : ∀ c ∈ x, 0 ≤ c ∧ c ≤ 255) : (⟨(Lib.toLowerA (strOf x).data.toList).toArray⟩ : ByteArray) = strOf (x.map low) := by
  rw [strOf_data]
  unfold Lib.toLowerA strOf
  rw [List.map_map, List.map_map]
  congr 2
  apply List.map_congr_left
  intro c hc
  exact low_byt (h c hc).1 (h c hc).2

/-- strings.ToLower of bytes below 128. -/
theorem lower_any {x : List Int} {w : World} (hx : ∀ c ∈ x, 0 ≤ c ∧ c < 128) (hl : x.length ≤ 100000) :
    Calls Tryd.prog 108 #[.string (strOf x)] w fun e w' => e = .returned (.string (strOf (x.map low))) ∧ Below w.heap.size w w' := by
  have h := Tryd.strings_ToLower_ascii (strOf x) w (by rw [strOf_size]; omega) (by
    intro j b hb
    rw [strOf_data, List.getElem?_map] at hb
    cases hc : x[j]? with
    | none => rw [hc] at hb; cases hb
    | some c =>
      rw [hc] at hb
      cases hb
      have hm := hx c (List.mem_of_getElem? hc)
      unfold byt
      have : (UInt8.ofNat c.toNat).toNat = c.toNat % 256 := by simp
      omega)
  rwa [lower_str (fun c hc => ⟨(hx c hc).1, by have := (hx c hc).2; omega⟩)] at h

theorem run_bytes {P : Int → Bool} {s : ByteArray} {p q : Nat} (hP : ∀ c, P c = true → 0 ≤ c ∧ c < 128) (h : IsRun P (rd s) p q) : ∀ c ∈ cut (rd s) p (q - p), 0 ≤ c ∧ c < 128 := by
  intro c hc
  unfold cut at hc
  obtain ⟨i, hi, rfl⟩ := List.mem_map.1 hc
  have := List.mem_range.1 hi
  exact hP _ (h.all _ (by omega) (by omega))

theorem isNm_low (c : Int) (h : isNm c = true) : 0 ≤ c ∧ c < 128 := by
  unfold isNm isAl isDc at h
  simp at h
  omega
theorem isSt_low (c : Int) (h : isSt c = true) : 0 ≤ c ∧ c < 128 := by
  unfold isSt at h
  simp at h
  omega

set_option maxRecDepth 100000 in
set_option maxHeartbeats 4000000 in
theorem rname_any {R p d : Nat} {s : ByteArray} {w : World} (h : At w R s p d) (hs : s.size ≤ 50000) (hp : p ≤ s.size) :
    Calls Tryd.prog 81 #[.pointer (some ⟨R, 0, none⟩)] w (GivesGot (fun x => .string (strOf x)) R s d (nameAt (rd s) p) w) := by
  obtain ⟨q, hq⟩ : ∃ q, runEnd isNm (rd s) p = q := ⟨_, rfl⟩
  obtain ⟨hrun0, hqs0⟩ := run_at (P := isNm) (by decide) hp
  rw [hq] at hrun0 hqs0
  have H := Lib.hid h
  have HQ := Lib.hid hq
  have HRUN := Lib.hid hrun0
  have hpq := hrun0.le
  have hlen := cut_len (rd s) p (q - p)
  have hsz : (strOf (cut (rd s) p (q - p))).size = q - p := by rw [strOf_size, hlen]
  have HX := Lib.hid (extract_eq (p := p) hqs0)
  obtain ⟨X, hX⟩ : ∃ X, X = cut (rd s) p (q - p) := ⟨_, rfl⟩
  rw [← hX] at hlen hsz HX
  have HB : Hid (∀ c ∈ X, 0 ≤ c ∧ c < 128) := by rw [hX]; exact run_bytes isNm_low hrun0
  have HLEN := Lib.hid hlen
  have HXX := Lib.hid hX
  obtain ⟨T, hT⟩ : ∃ T, T = strOf X := ⟨_, rfl⟩
  rw [← hT] at hsz HX
  have HT := Lib.hid hT
  have HSZ := Lib.hid hsz
  clear h hq hrun0 hlen hX hT hsz
  by_cases hlong : 40 < q - p
  · have HE : Hid (nameAt (rd s) p = .err 2) := by unfold nameAt; rw [HQ.out, if_pos hlong]; exact rfl
    have hts : 40 < T.size := by rw [HSZ.out]; exact hlong
    go_enter Tryd.func81, Tryd.ntmps81
    go_wp2_with fail
    refine (while_name H.out hs hp).mono ?_
    rintro e w1 ⟨q1, hrun, hqs, rfl, ha, hg⟩
    obtain rfl : q1 = q := hrun.one HRUN.out
    rw [HX.out]
    have HG := Lib.hid hg
    clear ha hg hrun
    go_wp2_with fail
    refine (fail_any _ _).mono ?_
    rintro e w2 ⟨rfl, rfl⟩
    go_wp2_with fail
    exact ⟨rfl, fails_got HE.out HG.out⟩
  · have HE : Hid (nameAt (rd s) p = .ok (X.map low) q) := by unfold nameAt; rw [HQ.out, if_neg hlong, HXX.out]; exact rfl
    have hts : T.size ≤ 40 := by rw [HSZ.out]; omega
    go_enter Tryd.func81, Tryd.ntmps81
    go_wp2_with fail
    refine (while_name H.out hs hp).mono ?_
    rintro e w1 ⟨q1, hrun, hqs, rfl, ha, hg⟩
    obtain rfl : q1 = q := hrun.one HRUN.out
    rw [HX.out]
    have HA := Lib.hid ha
    have HG := Lib.hid hg
    clear ha hg hrun
    go_wp2_with fail
    rw [HT.out]
    refine (lower_any HB.out (by rw [HLEN.out]; omega)).mono ?_
    rintro e w2 ⟨rfl, hb⟩
    have HA2 := Lib.hid (HA.out.below hb)
    have HG2 := Lib.hid (grown_below HG.out hb)
    clear hb
    go_wp2_with fail
    go_ret
    exact gives_got HE.out hqs rfl HA2.out HG2.out

set_option maxRecDepth 100000 in
set_option maxHeartbeats 4000000 in
theorem quoted_any {R p d : Nat} {s : ByteArray} {w : World} (h : At w R s p d) (hs : s.size ≤ 50000) (hp : p ≤ s.size) :
    Calls Tryd.prog 162 #[.pointer (some ⟨R, 0, none⟩)] w (GivesGot (fun x => .string (strOf x)) R s d (quoteAt (rd s) p) w) := by
  have H := Lib.hid h
  clear h
  by_cases h34 : rd s p = 34
  · have hlt := rd_lt (by omega) h34
    obtain ⟨q, hq⟩ : ∃ q, runEnd isSt (rd s) (p + 1) = q := ⟨_, rfl⟩
    obtain ⟨hrun0, hqs0⟩ := run_at (P := isSt) (by decide) (s := s) (p := p + 1) (by omega)
    rw [hq] at hrun0 hqs0
    have HQ := Lib.hid hq
    have HRUN := Lib.hid hrun0
    have H34 := Lib.hid h34
    have HX := Lib.hid (extract_eq (p := p + 1) hqs0)
    clear hq hrun0 h34
    by_cases k34 : rd s q = 34
    · have K34 := Lib.hid k34
      have HE : Hid (quoteAt (rd s) p = .ok (cut (rd s) (p + 1) (q - (p + 1))) (q + 1)) := by unfold quoteAt; rw [HQ.out, if_pos H34.out, if_pos k34]; exact rfl
      have hlt2 := rd_lt (by omega) k34
      clear k34
      go_enter Tryd.func162, Tryd.ntmps162
      go_wp2_with fail
      refine (take_yes H.out hs 34 (by omega) H34.out).mono ?_
      rintro e w1 ⟨rfl, ha, hg⟩
      have HA := Lib.hid ha
      have HG := Lib.hid hg
      clear ha hg
      go_wp2_with fail
      refine (while_string HA.out hs (by omega)).mono ?_
      rintro e w2 ⟨q1, hrun, hqs, rfl, ha, hg⟩
      obtain rfl : q1 = q := hrun.one HRUN.out
      rw [HX.out]
      have HA2 := Lib.hid ha
      have HG2 := Lib.hid (HG.out.trans hg)
      clear ha hg hrun
      go_wp2_with fail
      refine (take_yes HA2.out hs 34 (by omega) K34.out).mono ?_
      rintro e w3 ⟨rfl, ha, hg⟩
      have HA3 := Lib.hid ha
      have HG3 := Lib.hid (HG2.out.trans hg)
      clear ha hg
      go_wp2_with fail
      go_ret
      exact gives_got HE.out (by omega) rfl HA3.out HG3.out
    · have K34 := Lib.hid k34
      have HE : Hid (quoteAt (rd s) p = .err 20) := by unfold quoteAt; rw [HQ.out, if_pos H34.out, if_neg k34]; exact rfl
      clear k34
      go_enter Tryd.func162, Tryd.ntmps162
      go_wp2_with fail
      refine (take_yes H.out hs 34 (by omega) H34.out).mono ?_
      rintro e w1 ⟨rfl, ha, hg⟩
      have HA := Lib.hid ha
      have HG := Lib.hid hg
      clear ha hg
      go_wp2_with fail
      refine (while_string HA.out hs (by omega)).mono ?_
      rintro e w2 ⟨q1, hrun, hqs, rfl, ha, hg⟩
      obtain rfl : q1 = q := hrun.one HRUN.out
      have HA2 := Lib.hid ha
      have HG2 := Lib.hid (HG.out.trans hg)
      clear ha hg hrun
      go_wp2_with fail
      refine (take_no HA2.out hs hqs 34 (by omega) K34.out).mono ?_
      rintro e w3 ⟨rfl, hg⟩
      have HG3 := Lib.hid (HG2.out.trans hg)
      clear hg
      go_wp2_with fail
      exact ⟨rfl, fails_got HE.out HG3.out⟩
  · have H34 := Lib.hid h34
    have HE : Hid (quoteAt (rd s) p = .err 20) := by unfold quoteAt; rw [if_neg h34]; exact rfl
    clear h34
    go_enter Tryd.func162, Tryd.ntmps162
    go_wp2_with fail
    refine (take_no H.out hs hp 34 (by omega) H34.out).mono ?_
    rintro e w3 ⟨rfl, hg⟩
    have HG3 := Lib.hid hg
    clear hg
    go_wp2_with fail
    exact ⟨rfl, fails_got HE.out HG3.out⟩

end Go.Proofs.YtlaglkbcladfbaaDoor
