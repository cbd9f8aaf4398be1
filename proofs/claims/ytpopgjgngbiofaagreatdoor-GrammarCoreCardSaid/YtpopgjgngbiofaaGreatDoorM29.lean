/- What the laws of the grammar rest on, part 29: made by tools/merge5.py out of YNum YName YQuote YTree. No condition but those that each says. -/
import Derived.Test.YtpopgjgngbiofaaGreatDoorM28
import Derived.Shelf.Strings.OnBuilder
import Derived.Laws.BytesString
import Derived.Laws.IdiomStrings
import Derived.MapKept
set_option linter.unusedVariables false
set_option linter.unusedSimpArgs false
set_option maxRecDepth 100000
set_option maxHeartbeats 8000000
namespace Go.Proofs.YtpopgjgngbiofaaGreatDoor
open Go.RowKit
def NumY (b lim : Int) (R : Nat) (s : ByteArray) (p : Nat) (w : World) (e : Ending) (w' : World) : Prop :=
 (isDg b (rd s p) = false /\ GivesY R s (.int .i64 (-1)) p 0 w e w') \/
 (∃ v q, numAt b lim (rd s) p = .ok v q /\ GivesY R s (.int .i64 v) q 0 w e w') \/
 (isDg b (rd s p) = true /\ numAt b lim (rd s) p = .err 2 /\ ∃ q, q <= s.size /\ GivesY R s (.int .i64 (-1)) q 2 w e w')
def orv (c : Int) : Int := if c / 32 % 2 = 1 then c else c + 32
theorem or32b (c : Int) (h0 : 0 <= c) (h1 : c <= 255) : bits .or .i64 c 32 = orv c := by
 have key : ∀ i : Fin 256, bits .or .i64 ((i.val : Nat) : Int) 32 = orv ((i.val : Nat) : Int) := by decide +kernel
 have := key ⟨c.toNat, by omega⟩
 simp only [show ((c.toNat : Nat) : Int) = c by omega] at this
 exact this
theorem or32 (c : Int) (h : isAl c = true) : bits .or .i64 c 32 = low c := by
 have hc := isAl_iff.1 h
 rw [or32b c (by omega) (by omega)]
 unfold orv low
 split <;> split <;> omega
theorem val_mono {b : Int} (hb : 1 <= b) (f : Nat -> Int) (p m : Nat) (h0 : 2 <= b) : ∀ k, val b f p m <= val b f p (m + k)
 | 0 => Int.le_refl _
 | k + 1 => by
  have h1 := val_mono hb f p m h0 k
  have h2 := val_range h0 f p (m + k)
  have h3 := (dig_range (f (p + (m + k)))).1
  have h4 : val b f p (m + k) <= val b f p (m + k) * b := by
   have := Int.mul_le_mul_of_nonneg_left hb h2
   omega
  show _ <= val b f p (m + k) * b + dig (f (p + (m + k)))
  omega
theorem num_over {b lim : Int} (hb : 2 <= b) (hb16 : b <= 16) {s : ByteArray} {p q : Nat} (hp : p <= s.size) (hpq : p < q) (hall : ∀ i, p <= i -> i < q -> isDg b (rd s i) = true) (hv : lim < val b (rd s) p (q - p)) : numAt b lim (rd s) p = .err 2 := by
 obtain ⟨hr, hq⟩ := run_at (P := isDg b) (isDg_end hb16) hp
 have hle : q <= runEnd (isDg b) (rd s) p := by
  by_cases g : q <= runEnd (isDg b) (rd s) p
  ·exact g
  ·have := hall _ hr.le (by omega)
   rw [hr.stop] at this
   cases this
 have hm := val_mono (by omega) (rd s) p (q - p) hb (runEnd (isDg b) (rd s) p - q)
 rw [show q - p + (runEnd (isDg b) (rd s) p - q) = runEnd (isDg b) (rd s) p - p by omega] at hm
 rw [numAt_run hr (by omega), if_pos (by omega)]
def InNumY (b lim : Int) (R : Nat) (s : ByteArray) (p : Nat) (w wr : World) (N : Int) (q : Nat) (c : Int) : Prop :=
 AtY wr R s q c /\ w.grownBy wr (some R) /\ p <= q /\ q <= s.size /\ (∀ i, p <= i -> i < q -> isDg b (rd s i) = true) /\
  ((c = 0 /\ val b (rd s) p (q - p) <= lim /\ max N 0 = val b (rd s) p (q - p) /\ ((q = p /\ N = -1) \/ (p < q /\ N = val b (rd s) p (q - p)))) \/ (c = 2 /\ p < q /\ lim < val b (rd s) p (q - p)))
theorem ynumber_any {R p : Nat} {s : ByteArray} {w : World} (b lim : Int) (hb : b = 2 \/ b = 10 \/ b = 16) (hl : 0 <= lim) (hl2 : lim <= 2000000) (h : AtY w R s p 0) (hs : s.size <= 50000) (hp : p <= s.size) :
  Calls Tryz.prog 138 #[.pointer (some ⟨R, 0, none⟩), .int .i64 b, .int .i64 lim] w (NumY b lim R s p w) := by
 have hb16 : b <= 16 := by omega
 have hb2 : 2 <= b := by omega
 have H := hh9 h
 have HBB := hh9 hb
 clear h hb
 go_enter Tryz.func138, Tryz.ntmps138
 go_wp2_with fail
 go_loopw [7] (fun v wr => ∃ N : Int, ∃ q : Nat, ∃ c : Int, v = .int .i64 N /\ InNumY b lim R s p w wr N q c) (fun _ wr => s.size - posOf R wr)
 case atStart => exact ⟨-1, p, 0, rfl, H.out, grown_refl _ _, Nat.le_refl _, hp, fun i h1 h2 => absurd h1 (by omega), .inl ⟨rfl, by rw [Nat.sub_self]; unfold val; exact hl, by rw [Nat.sub_self]; rfl, .inl ⟨rfl, rfl⟩⟩⟩
 case round =>
  obtain ⟨N, q, c, rfl, ha, hg, hpq, hqs, hall, hst⟩ := hrel
  have HA := hh9 ha
  have HG := hh9 hg
  have HL := hh9 hall
  have HM := hh9 ha.pos
  obtain ⟨c0, c1, c2, z0, z1, z2⟩ := ha.cells
  clear ha hg hall
  rcases hst with ⟨rfl, hvl, hmax, hN⟩ | ⟨rfl, hlt, hov⟩
  ·have hv := val_range hb2 (rd s) p (q - p)
   obtain ⟨V, hV⟩ : ∃ x, x = val b (rd s) p (q - p) := ⟨_, rfl⟩
   rw [<- hV] at hv hvl hmax hN
   obtain ⟨Z, hZ⟩ : ∃ x, rd s q = x := ⟨_, rfl⟩
   have HZ := hh9 hZ
   have HV := hh9 hV
   have HN := hh9 hN
   have hm0 : 0 <= V * b := Int.mul_nonneg hv (by omega)
   have hm1 : V * b <= 40000000 := by rcases HBB.out with g | g | g <;> rw [g] <;> omega
   have hN2 : -1 <= N /\ N <= 2000000 := by omega
   have HDall : isDg b Z = true -> Hid (q < s.size /\ ∀ i, p <= i -> i < q + 1 -> isDg b (rd s i) = true) := fun hd => ⟨isDg_lt hb16 (by rw [hZ]; exact hd), run_next (P := isDg b) HL.out (by rw [hZ]; exact hd)⟩
   have HST : Hid (V * b + dig Z = val b (rd s) p (q + 1 - p)) := by
    have e1 : q + 1 - p = (q - p) + 1 := by omega
    have e2 : p + (q - p) = q := by omega
    rw [e1]
    show _ = val b (rd s) p (q - p) * b + dig (rd s (p + (q - p)))
    rw [e2, hZ, <- HV.out]
   have HFIN : isDg b Z = false -> Hid (∀ W, AtY W R s q 0 -> w.grownBy W (some R) -> NumY b lim R s p w (.returned (.int .i64 N)) W) := by
    intro hd W ha hg
    rcases HN.out with ⟨h1, h2⟩ | ⟨h1, h2⟩
    ·subst h1 h2
     exact .inl ⟨by rw [hZ]; exact hd, rfl, ha, hg⟩
    ·have hrun : IsRun (isDg b) (rd s) p q := ⟨hpq, HL.out, by rw [hZ]; exact hd⟩
     refine .inr (.inl ⟨N, q, ?_, rfl, ha, hg⟩)
     rw [numAt_run hrun h1, <- HV.out, if_neg (by omega), h2]
   clear hZ hV hN
   cases hdc : isDc Z
   ·cases hal : isAl Z
    ·have hd : isDg b Z = false := by
      unfold isDg
      have : dig Z = 16 := by
       unfold isDc at hdc
       unfold isAl at hal
       simp at hdc hal
       unfold dig
       rw [if_neg (by omega), if_neg (by omega), if_neg (by omega)]
      rw [this]
      simp
      exact hb16
     have HFIN := HFIN hd
     have HDC := hh9 hdc
     have HAL := hh9 hal
     have q99 : b <= 99 := by omega
     clear hd hdc hal HST
     go_wp2_with fail
     refine (yat0 HA.out hs (by omega) _ HZ.out).mono ?_
     rintro e w1 ⟨rfl, hbw⟩
     have HA1 := hh9 (HA.out.below hbw)
     have HG1 := hh9 (grown_below HG.out hbw)
     clear hbw c0 c1 c2 z0 z1 z2
     go_wp2_with fail
     refine (ydigit_any _ _).mono ?_
     rw [HDC.out]
     rintro e w' ⟨rfl, rfl⟩
     go_wp2_with fail
     refine (yalpha_any _ _).mono ?_
     rw [HAL.out]
     rintro e w' ⟨rfl, rfl⟩
     go_wp2_with fail
     go_ret
     exact HFIN.out _ HA1.out HG1.out
    ·have hor := or32 Z hal
     obtain ⟨M, hM⟩ : ∃ x, x = low Z := ⟨_, rfl⟩
     rw [<- hM] at hor
     have hMr : 97 <= M /\ M <= 122 := by
      have := isAl_iff.1 hal
      rw [hM]
      unfold low
      split <;> omega
     have hdm : dig Z = if M <= 102 then M - 87 else 16 := by
      have := isAl_iff.1 hal
      rw [hM]
      unfold dig low
      split <;> split <;> (try split) <;> (try split) <;> omega
     have HDC := hh9 hdc
     have HAL := hh9 hal
     have HMM := hh9 hM
     clear hdc hal hM
     have q99 : b <= 99 := by omega
     have hZr : 65 <= Z /\ Z <= 122 := by have := isAl_iff.1 HAL.out; omega
     by_cases hm : M <= 102
     ·rw [if_pos hm] at hdm
      rw [hdm] at HST
      by_cases hge : b <= M - 87
      ·have HFIN := HFIN (by unfold isDg; rw [hdm]; simp; omega)
       clear hdm HST
       go_wp2_with fail
       refine (yat0 HA.out hs (by omega) _ HZ.out).mono ?_
       rintro e w1 ⟨rfl, hbw⟩
       have HA1 := hh9 (HA.out.below hbw)
       have HG1 := hh9 (grown_below HG.out hbw)
       clear hbw c0 c1 c2 z0 z1 z2
       go_wp2_with fail
       refine (ydigit_any _ _).mono ?_
       rw [HDC.out]
       rintro e w' ⟨rfl, rfl⟩
       go_wp2_with fail
       refine (yalpha_any _ _).mono ?_
       rw [HAL.out]
       rintro e w' ⟨rfl, rfl⟩
       go_wp2_with fail
       go_ret
       exact HFIN.out _ HA1.out HG1.out
      ·obtain ⟨hqlt, hda⟩ := HDall (by unfold isDg; rw [hdm]; simp; omega)
       have HDall := hh9 hda
       clear hdm hda
       go_wp2_with fail
       refine (yat0 HA.out hs (by omega) _ HZ.out).mono ?_
       rintro e w1 ⟨rfl, hbw⟩
       have HA1 := hh9 (HA.out.below hbw)
       have HG1 := hh9 (grown_below HG.out hbw)
       clear hbw c0 c1 c2 z0 z1 z2
       go_wp2_with fail
       refine (ydigit_any _ _).mono ?_
       rw [HDC.out]
       rintro e w' ⟨rfl, rfl⟩
       go_wp2_with fail
       refine (yalpha_any _ _).mono ?_
       rw [HAL.out]
       rintro e w' ⟨rfl, rfl⟩
       by_cases hov : lim < V * b + (M - 87)
       ·go_wp2_with fail
        refine (yfail_first HA1.out 2).mono ?_
        rintro e w2 ⟨rfl, ha, hg⟩
        have HA2 := hh9 ha
        have HG2 := hh9 (HG1.out.trans hg)
        obtain ⟨d0, d1, d2, y0, y1, y2⟩ := ha.cells
        clear ha hg
        go_wp2_with fail
        go_roundw
        case rel => exact ⟨_, q + 1, 2, rfl, HA2.out.step, grown_set HG2.out _ _, by omega, by omega, HDall.out, .inr ⟨rfl, by omega, by rw [<- HST.out]; exact hov⟩⟩
        case measure =>
         rw [HM.out, HA2.out.step.pos]
         omega
       ·obtain ⟨d0, d1, d2, y0, y1, y2⟩ := HA1.out.cells
        go_wp2_with fail
        go_roundw
        case rel => exact ⟨_, q + 1, 0, rfl, HA1.out.step, grown_set HG1.out _ _, by omega, by omega, HDall.out, .inl ⟨rfl, by rw [<- HST.out]; omega, by rw [<- HST.out]; omega, .inr ⟨by omega, HST.out⟩⟩⟩
        case measure =>
         rw [HM.out, HA1.out.step.pos]
         omega
     ·rw [if_neg hm] at hdm
      have HFIN := HFIN (by unfold isDg; rw [hdm]; simp; omega)
      clear hdm HST
      go_wp2_with fail
      refine (yat0 HA.out hs (by omega) _ HZ.out).mono ?_
      rintro e w1 ⟨rfl, hbw⟩
      have HA1 := hh9 (HA.out.below hbw)
      have HG1 := hh9 (grown_below HG.out hbw)
      clear hbw c0 c1 c2 z0 z1 z2
      go_wp2_with fail
      refine (ydigit_any _ _).mono ?_
      rw [HDC.out]
      rintro e w' ⟨rfl, rfl⟩
      go_wp2_with fail
      refine (yalpha_any _ _).mono ?_
      rw [HAL.out]
      rintro e w' ⟨rfl, rfl⟩
      go_wp2_with fail
      go_ret
      exact HFIN.out _ HA1.out HG1.out
   ·have hZr : 48 <= Z /\ Z <= 57 := by unfold isDc at hdc; simp at hdc; omega
    have hdm : dig Z = Z - 48 := by unfold dig; rw [if_pos hZr]
    have HDC := hh9 hdc
    clear hdc
    rw [hdm] at HST
    by_cases hge : b <= Z - 48
    ·have HFIN := HFIN (by unfold isDg; rw [hdm]; simp; omega)
     clear hdm HST
     go_wp2_with fail
     refine (yat0 HA.out hs (by omega) _ HZ.out).mono ?_
     rintro e w1 ⟨rfl, hbw⟩
     have HA1 := hh9 (HA.out.below hbw)
     have HG1 := hh9 (grown_below HG.out hbw)
     clear hbw c0 c1 c2 z0 z1 z2
     go_wp2_with fail
     refine (ydigit_any _ _).mono ?_
     rw [HDC.out]
     rintro e w' ⟨rfl, rfl⟩
     go_wp2_with fail
     go_ret
     exact HFIN.out _ HA1.out HG1.out
    ·obtain ⟨hqlt, hda⟩ := HDall (by unfold isDg; rw [hdm]; simp; omega)
     have HDall := hh9 hda
     clear hdm hda
     go_wp2_with fail
     refine (yat0 HA.out hs (by omega) _ HZ.out).mono ?_
     rintro e w1 ⟨rfl, hbw⟩
     have HA1 := hh9 (HA.out.below hbw)
     have HG1 := hh9 (grown_below HG.out hbw)
     clear hbw c0 c1 c2 z0 z1 z2
     go_wp2_with fail
     refine (ydigit_any _ _).mono ?_
     rw [HDC.out]
     rintro e w' ⟨rfl, rfl⟩
     by_cases hov : lim < V * b + (Z - 48)
     ·go_wp2_with fail
      refine (yfail_first HA1.out 2).mono ?_
      rintro e w2 ⟨rfl, ha, hg⟩
      have HA2 := hh9 ha
      have HG2 := hh9 (HG1.out.trans hg)
      obtain ⟨d0, d1, d2, y0, y1, y2⟩ := ha.cells
      clear ha hg
      go_wp2_with fail
      go_roundw
      case rel => exact ⟨_, q + 1, 2, rfl, HA2.out.step, grown_set HG2.out _ _, by omega, by omega, HDall.out, .inr ⟨rfl, by omega, by rw [<- HST.out]; exact hov⟩⟩
      case measure =>
       rw [HM.out, HA2.out.step.pos]
       omega
     ·obtain ⟨d0, d1, d2, y0, y1, y2⟩ := HA1.out.cells
      go_wp2_with fail
      go_roundw
      case rel => exact ⟨_, q + 1, 0, rfl, HA1.out.step, grown_set HG1.out _ _, by omega, by omega, HDall.out, .inl ⟨rfl, by rw [<- HST.out]; omega, by rw [<- HST.out]; omega, .inr ⟨by omega, HST.out⟩⟩⟩
      case measure =>
       rw [HM.out, HA1.out.step.pos]
       omega
  ·have HE := hh9 (num_over hb2 hb16 (by omega) hlt HL.out hov)
   have HD := hh9 (HL.out p (Nat.le_refl _) hlt)
   clear hov
   go_wp2_with fail
   go_ret
   exact .inr (.inr ⟨HD.out, HE.out, q, hqs, rfl, HA.out, HG.out⟩)
theorem ynumber_later {R p : Nat} {c : Int} {s : ByteArray} {w : World} (b lim : Int) (h : AtY w R s p c) (hc : c ≠ 0) :
  Calls Tryz.prog 138 #[.pointer (some ⟨R, 0, none⟩), .int .i64 b, .int .i64 lim] w (GivesY R s (.int .i64 (-1)) p c w) := by
 obtain ⟨c0, c1, c2, z0, z1, z2⟩ := h.cells
 have H := hh9 h
 have q1 : (c == 0) = false := by simpa using hc
 clear h
 go_enter Tryz.func138, Tryz.ntmps138
 go_wp2_with fail
 go_loopw [7] (fun _ wr => wr = w) (fun _ wr => 0)
 case atStart => rfl
 case round =>
  subst hrel
  go_wp2_with fail
  go_ret
  exact ⟨rfl, H.out, grown_refl _ _⟩
end Go.Proofs.YtpopgjgngbiofaaGreatDoor
namespace Go.Proofs.YtpopgjgngbiofaaGreatDoor
open Go.RowKit
theorem conv_one (W : World) (c : Int) (h0 : 0 <= c) (h1 : c <= 255) :
  (convert 40 9 (.slice (some ⟨W.heap.size, 0, none⟩) 1 1)).run Tryz.prog (W.alloc (.cells #[.int .u8 c] 5)) = .ok (.string (strOf [c])) (W.alloc (.cells #[.int .u8 c] 5)) := by
 have h := run_convert_bytes_back (P := Tryz.prog) (W.alloc (.cells #[.int .u8 c] 5)) 40 9 5 ⟨W.heap.size, 0, none⟩ 1 [byt c] Tryz.underlying40 Tryz.underlying5 Tryz.underlying9 (fun j hj => by
  have hj0 : j = 0 := by simp at hj; exact hj
  subst hj0
  have e : ((byt c).toNat : Int) = c := by unfold byt; simp; omega
  show World.cell? _ ⟨W.heap.size, 0, none⟩ = some (.int .u8 ((byt c).toNat : Int))
  rw [e]
  unfold World.cell?
  show (match (W.alloc _).heap[W.heap.size]? with | some (.cells c elem frozen) => c[0]? | x => none) = _
  rw [heap_alloc_new]
  rfl)
 exact h
theorem str_app (x y : List Int) : strOf x ++ strOf y = strOf (x ++ y) := by
 apply ByteArray.ext
 unfold strOf
 simp
theorem str_ne {x : List Int} (h : 0 < x.length) : strOf x ≠ ⟨#[]⟩ := by
 intro g
 have := congrArg ByteArray.size g
 rw [strOf_size] at this
 have e : (⟨#[]⟩ : ByteArray).size = 0 := rfl
 omega
theorem str_some {s : ByteArray} (h : 0 < s.size) : s.toList.isEmpty = false := by
 rw [Lib.toList_data]
 cases g : s.data.toList with
 | nil =>
  have : s.size = 0 := by
   show s.data.size = 0
   rw [<- Array.length_toList, g]; rfl
  omega
 | cons a l => rfl
theorem low_range {c : Int} (h0 : 0 <= c) (h1 : c <= 255) : 0 <= low c /\ low c <= 255 := by unfold low; split <;> omega
theorem cut_succ (f : Nat -> Int) (p n : Nat) : cut f p (n + 1) = cut f p n ++ [f (p + n)] := by unfold cut; rw [List.range_succ]; simp
def NameY (R : Nat) (s : ByteArray) (p : Nat) (w : World) (e : Ending) (w' : World) : Prop :=
 (isAl (rd s p) = false /\ GivesY R s (.string (strOf [])) p 20 w e w') \/
 (isAl (rd s p) = true /\ ∃ x q, nameAt (rd s) p = .ok x q /\ GivesY R s (.string (strOf x)) q 0 w e w') \/
 (isAl (rd s p) = true /\ nameAt (rd s) p = .err 2 /\ ∃ x q, q <= s.size /\ GivesY R s (.string (strOf x)) q 2 w e w')
def InNameY (R : Nat) (s : ByteArray) (p : Nat) (w wr : World) (x : List Int) (q : Nat) : Prop :=
 AtY wr R s q 0 /\ w.grownBy wr (some R) /\ p <= q /\ q <= s.size /\ x = (cut (rd s) p (q - p)).map low /\ (∀ i, p <= i -> i < q -> isNm (rd s i) = true) /\ (p < q -> isAl (rd s p) = true)
theorem yname_any {R p : Nat} {s : ByteArray} {w : World} (h : AtY w R s p 0) (hs : s.size <= 50000) (hp : p <= s.size) :
  Calls Tryz.prog 65 #[.pointer (some ⟨R, 0, none⟩)] w (NameY R s p w) := by
 have H := hh9 h
 clear h
 go_enter Tryz.func65, Tryz.ntmps65
 go_wp2_with fail
 refine (yat0 H.out hs (by omega) _ rfl).mono ?_
 rintro e w0 ⟨rfl, hbw⟩
 have HA0 := hh9 (H.out.below hbw)
 have HG0 := hh9 (grown_below (grown_refl w (some R)) hbw)
 clear hbw
 go_wp2_with fail
 go_loopw [3, 4] (fun v u wr => ∃ x : List Int, ∃ q : Nat, v = .string (strOf x) /\ u = .int .i64 (rd s q) /\ InNameY R s p w wr x q) (fun _ _ wr => s.size - posOf R wr)
 case atStart => exact ⟨[], p, rfl, rfl, HA0.out, HG0.out, Nat.le_refl _, hp, by rw [Nat.sub_self]; rfl, fun i h1 h2 => absurd h1 (by omega), fun g => absurd g (by omega)⟩
 case round =>
  obtain ⟨x, q, rfl, rfl, ha, hg, hpq, hqs, hx, hall, hal0⟩ := hrel
  have hxl : x.length = q - p := by rw [hx, List.length_map, cut_len]
  have HA := hh9 ha
  have HG := hh9 hg
  have HM := hh9 ha.pos
  have HX := hh9 hx
  have HL := hh9 hall
  obtain ⟨c0, c1, c2, z0, z1, z2⟩ := ha.cells
  obtain ⟨Z, hZ⟩ : ∃ y, rd s q = y := ⟨_, rfl⟩
  rw [hZ]
  have hZr := rd_range s q
  rw [hZ] at hZr
  obtain ⟨T, hT⟩ : ∃ T, T = strOf x := ⟨_, rfl⟩
  have hTs : T.size = q - p := by rw [hT, strOf_size, hxl]
  rw [<- hT]
  have HT := hh9 hT
  have HZ := hh9 hZ
  cases hnm : (isAl Z || (decide (p < q) && isNm Z))
  ·obtain ⟨g1, g2⟩ : isAl Z = false /\ (p < q -> isNm Z = false) := by
    simp at hnm
    exact hnm
   have G1 := hh9 g1
   by_cases hlt : p < q
   ·have g3 := g2 hlt
    obtain ⟨g4, g5⟩ : isDc Z = false /\ Z ≠ 45 := by
     unfold isNm at g3
     rw [g1] at g3
     simpa using g3
    have G4 := hh9 g4
    have q45 : (Z == 45) = false := by simpa using g5
    have hne : T ≠ ⟨#[]⟩ := by rw [hT]; exact str_ne (by omega)
    have hemp : T.toList.isEmpty = false := str_some (by omega)
    have hrun : IsRun isNm (rd s) p q := ⟨hpq, hall, by rw [hZ]; exact g3⟩
    have HAL0 := hh9 (hal0 hlt)
    have HN : Hid (nameAt (rd s) p = if 40 < q - p then .err 2 else .ok x q) := by unfold nameAt; rw [hrun.eq, hx]; exact rfl
    clear hZ hT hx hall hal0 hnm g1 g2 g3 g4 hrun hne
    by_cases hlong : 40 < q - p
    ·have hts : 40 < T.size := by omega
     have HN2 : Hid (nameAt (rd s) p = .err 2) := by rw [HN.out, if_pos hlong]; exact rfl
     clear hTs
     go_wp2_with fail
     refine (yalpha_any _ _).mono ?_
     rw [G1.out]
     rintro e w' ⟨rfl, rfl⟩
     go_wp2_with fail
     refine (ydigit_any _ _).mono ?_
     rw [G4.out]
     rintro e w' ⟨rfl, rfl⟩
     go_wp2_with fail
     refine (yfail_first HA.out 2).mono ?_
     rintro e w2 ⟨rfl, ha, hg⟩
     have HA2 := hh9 ha
     have HG2 := hh9 (HG.out.trans hg)
     clear ha hg c0 c1 c2 z0 z1 z2
     go_wp2_with fail
     go_ret
     rw [HT.out]
     exact .inr (.inr ⟨HAL0.out, HN2.out, x, q, hqs, rfl, HA2.out, HG2.out⟩)
    ·have hts : T.size <= 40 := by omega
     have HN2 : Hid (nameAt (rd s) p = .ok x q) := by rw [HN.out, if_neg hlong]; exact rfl
     clear hTs
     go_wp2_with fail
     refine (yalpha_any _ _).mono ?_
     rw [G1.out]
     rintro e w' ⟨rfl, rfl⟩
     go_wp2_with fail
     refine (ydigit_any _ _).mono ?_
     rw [G4.out]
     rintro e w' ⟨rfl, rfl⟩
     go_wp2_with fail
     go_ret
     rw [HT.out]
     exact .inr (.inl ⟨HAL0.out, x, q, HN2.out, rfl, HA.out, HG.out⟩)
   ·obtain rfl : p = q := by omega
    obtain rfl : x = [] := List.length_eq_zero_iff.1 (by omega)
    have hT0 : T = ⟨#[]⟩ := hT
    clear hT HT hTs
    subst hT0
    have G1' : Hid (isAl (rd s p) = false) := by rw [hZ]; exact g1
    clear hZ hx hall hal0 hnm g1 g2 HL HX
    go_wp2_with fail
    refine (yalpha_any _ _).mono ?_
    rw [G1.out]
    rintro e w' ⟨rfl, rfl⟩
    go_wp2_with fail
    refine (yfail_first HA.out 20).mono ?_
    rintro e w2 ⟨rfl, ha, hg⟩
    have HA2 := hh9 ha
    have HG2 := hh9 (HG.out.trans hg)
    clear ha hg c0 c1 c2 z0 z1 z2
    go_wp2_with fail
    go_ret
    exact .inl ⟨G1'.out, rfl, HA2.out, HG2.out⟩
  ·have hnm2 : isNm Z = true := by
    unfold isNm at hnm ⊢
    cases ha : isAl Z
    ·rw [ha] at hnm
     simp at hnm ⊢
     exact hnm.2
    ·rfl
   have hZ0 : 0 <= Z := (isNm_low Z hnm2).1
   have hZ1 : Z <= 255 := by have := (isNm_low Z hnm2).2; omega
   have hlt : q < s.size := rd_lt hZ0 hZ
   have HNX : Hid (∀ i, p <= i -> i < q + 1 -> isNm (rd s i) = true) := run_next (P := isNm) hall (by rw [hZ]; exact hnm2)
   have HXN : Hid (x ++ [low Z] = (cut (rd s) p (q + 1 - p)).map low) := by
    rw [show q + 1 - p = (q - p) + 1 by omega, cut_succ, List.map_append, <- hx, show p + (q - p) = q by omega, hZ]
    exact rfl
   have hR := ha.lt
   have hT2 : T.size <= 50000 := by omega
   have hT3 : (strOf [low Z]).size = 1 := rfl
   have kc := fun (W : World) => conv_one W (low Z) (low_range hZ0 hZ1).1 (low_range hZ0 hZ1).2
   have HAL0 : Hid (isAl (rd s p) = true) := by
    by_cases g : p < q
    ·exact hal0 g
    ·obtain rfl : p = q := by omega
     rw [hZ]
     have : isAl Z = true := by simpa using hnm
     exact this
   cases g1 : isAl Z
   ·obtain ⟨g2, g3⟩ : p < q /\ (isDc Z = true \/ Z = 45) := by
     rw [g1] at hnm
     simp at hnm
     refine ⟨hnm.1, ?_⟩
     have := hnm.2
     unfold isNm at this
     rw [g1] at this
     simpa using this
    have hne : T ≠ ⟨#[]⟩ := by rw [hT]; exact str_ne (by omega)
    have hemp : T.toList.isEmpty = false := str_some (by omega)
    have G1 := hh9 g1
    clear hZ hT hx hall hal0 hnm hnm2 g1 hTs
    cases g4 : isDc Z
    ·have q45 : Z = 45 := by
      rcases g3 with g | g
      ·rw [g4] at g; cases g
      ·exact g
     have q45b : (Z == 45) = true := by simpa using q45
     have G4 := hh9 g4
     clear g3 g4 q45
     go_wp2_with fail
     refine (yalpha_any _ _).mono ?_
     rw [G1.out]
     rintro e w' ⟨rfl, rfl⟩
     go_wp2_with fail
     refine (ydigit_any _ _).mono ?_
     rw [G4.out]
     rintro e w' ⟨rfl, rfl⟩
     go_wp2_with fail
     refine (ylower_any _ hZ0 hZ1 _).mono ?_
     rintro e w' ⟨rfl, rfl⟩
     go_wp2_with fail
     have HA2 := hh9 (HA.out.step.alloc (.cells #[.int .u8 (low Z)] 5))
     have HG2 := hh9 (grown_alloc (grown_set HG.out 1 (.int .i64 ((q : Int) + 1))) (.cells #[.int .u8 (low Z)] 5))
     refine (yat0 HA2.out hs (by omega) _ rfl).mono ?_
     rintro e w3 ⟨rfl, hbw⟩
     have HA3 := hh9 (HA2.out.below hbw)
     have HG3 := hh9 (grown_below HG2.out hbw)
     clear hbw
     go_wp2_with fail
     go_roundw
     case rel => exact ⟨x ++ [low Z], q + 1, by rw [<- str_app, <- HT.out], rfl, HA3.out, HG3.out, by omega, by omega, HXN.out, HNX.out, fun _ => HAL0.out⟩
     case measure =>
      rw [HM.out, HA3.out.pos]
      omega
    ·have G4 := hh9 g4
     clear g3 g4
     go_wp2_with fail
     refine (yalpha_any _ _).mono ?_
     rw [G1.out]
     rintro e w' ⟨rfl, rfl⟩
     go_wp2_with fail
     refine (ydigit_any _ _).mono ?_
     rw [G4.out]
     rintro e w' ⟨rfl, rfl⟩
     go_wp2_with fail
     refine (ylower_any _ hZ0 hZ1 _).mono ?_
     rintro e w' ⟨rfl, rfl⟩
     go_wp2_with fail
     have HA2 := hh9 (HA.out.step.alloc (.cells #[.int .u8 (low Z)] 5))
     have HG2 := hh9 (grown_alloc (grown_set HG.out 1 (.int .i64 ((q : Int) + 1))) (.cells #[.int .u8 (low Z)] 5))
     refine (yat0 HA2.out hs (by omega) _ rfl).mono ?_
     rintro e w3 ⟨rfl, hbw⟩
     have HA3 := hh9 (HA2.out.below hbw)
     have HG3 := hh9 (grown_below HG2.out hbw)
     clear hbw
     go_wp2_with fail
     go_roundw
     case rel => exact ⟨x ++ [low Z], q + 1, by rw [<- str_app, <- HT.out], rfl, HA3.out, HG3.out, by omega, by omega, HXN.out, HNX.out, fun _ => HAL0.out⟩
     case measure =>
      rw [HM.out, HA3.out.pos]
      omega
   ·have G1 := hh9 g1
    clear hZ hT hx hall hal0 hnm hnm2 g1 hTs
    go_wp2_with fail
    refine (yalpha_any _ _).mono ?_
    rw [G1.out]
    rintro e w' ⟨rfl, rfl⟩
    go_wp2_with fail
    refine (ylower_any _ hZ0 hZ1 _).mono ?_
    rintro e w' ⟨rfl, rfl⟩
    go_wp2_with fail
    have HA2 := hh9 (HA.out.step.alloc (.cells #[.int .u8 (low Z)] 5))
    have HG2 := hh9 (grown_alloc (grown_set HG.out 1 (.int .i64 ((q : Int) + 1))) (.cells #[.int .u8 (low Z)] 5))
    refine (yat0 HA2.out hs (by omega) _ rfl).mono ?_
    rintro e w3 ⟨rfl, hbw⟩
    have HA3 := hh9 (HA2.out.below hbw)
    have HG3 := hh9 (grown_below HG2.out hbw)
    clear hbw
    go_wp2_with fail
    go_roundw
    case rel => exact ⟨x ++ [low Z], q + 1, by rw [<- str_app, <- HT.out], rfl, HA3.out, HG3.out, by omega, by omega, HXN.out, HNX.out, fun _ => HAL0.out⟩
    case measure =>
     rw [HM.out, HA3.out.pos]
     omega
end Go.Proofs.YtpopgjgngbiofaaGreatDoor
namespace Go.Proofs.YtpopgjgngbiofaaGreatDoor
open Go.RowKit
def NeedY (b : Int) (R : Nat) (s : ByteArray) (p : Nat) (w : World) (e : Ending) (w' : World) : Prop :=
 (∃ v q, numAt b 1114111 (rd s) p = .ok v q /\ GivesY R s (.int .i64 v) q 0 w e w') \/
 (∃ c, c ≠ 0 /\ numAt b 1114111 (rd s) p = .err c /\ ∃ q, q <= s.size /\ GivesY R s (.int .i64 (-1)) q c w e w')
theorem yneed_any {R p : Nat} {s : ByteArray} {w : World} (b : Int) (hb : b = 2 \/ b = 10 \/ b = 16) (h : AtY w R s p 0) (hs : s.size <= 50000) (hp : p <= s.size) :
  Calls Tryz.prog 181 #[.pointer (some ⟨R, 0, none⟩), .int .i64 b] w (NeedY b R s p w) := by
 have H := hh9 h
 have HBB := hh9 hb
 clear h hb
 go_enter Tryz.func181, Tryz.ntmps181
 go_wp2_with fail
 refine (ynumber_any b 1114111 HBB.out (by omega) (by omega) H.out hs hp).mono ?_
 rintro e w1 (⟨hd, rfl, ha, hg⟩ | ⟨v, q, hn, rfl, ha, hg⟩ | ⟨hd, hn, q, hq, rfl, ha, hg⟩)
 ·have HN := hh9 (numAt_none (lim := 1114111) hd)
  have HA := hh9 ha
  have HG := hh9 hg
  clear hd ha hg
  go_wp2_with fail
  refine (yfail_first HA.out 20).mono ?_
  rintro e w2 ⟨rfl, ha, hg⟩
  have HA2 := hh9 ha
  have HG2 := hh9 (HG.out.trans hg)
  clear ha hg
  go_wp2_with fail
  go_ret
  exact .inr ⟨20, by omega, HN.out, p, hp, rfl, HA2.out, HG2.out⟩
 ·have hv := numAt_pos (by rcases HBB.out with rfl | rfl | rfl <;> omega) hn
  have hv2 : v <= 1114111 := by
   unfold numAt at hn
   split at hn
   ·cases hn
   ·split at hn
    ·cases hn
    ·cases hn; omega
  have HN := hh9 hn
  have HA := hh9 ha
  have HG := hh9 hg
  clear hn ha hg
  go_wp2_with fail
  go_ret
  exact .inl ⟨v, q, HN.out, rfl, HA.out, HG.out⟩
 ·have HN := hh9 hn
  have HA := hh9 ha
  have HG := hh9 hg
  clear hd hn ha hg
  go_wp2_with fail
  refine (yfail_later HA.out (by omega) 20).mono ?_
  rintro e w2 ⟨rfl, ha, hg⟩
  have HA2 := hh9 ha
  have HG2 := hh9 (HG.out.trans hg)
  clear ha hg
  go_wp2_with fail
  go_ret
  exact .inr ⟨2, by omega, HN.out, q, hq, rfl, HA2.out, HG2.out⟩
def QuoteY (R : Nat) (s : ByteArray) (p : Nat) (w : World) (e : Ending) (w' : World) : Prop :=
 (∃ x q, quoteAt (rd s) p = .ok x q /\ (∀ c ∈ x, 0 <= c /\ c < 128) /\ x.length <= 60000 /\ GivesY R s (.string (strOf x)) q 0 w e w') \/
 (quoteAt (rd s) p = .err 20 /\ ∃ x q, q <= s.size + 1 /\ (∀ c ∈ x, 0 <= c /\ c < 128) /\ x.length <= 60000 /\ GivesY R s (.string (strOf x)) q 20 w e w')
def InQuoteY (R : Nat) (s : ByteArray) (p : Nat) (w wr : World) (T : ByteArray) (q : Nat) : Prop :=
 AtY wr R s q 0 /\ w.grownBy wr (some R) /\ p + 1 <= q /\ q <= s.size /\ T = s.extract (p + 1) q /\ ∀ i, p + 1 <= i -> i < q -> isSt (rd s i) = true
theorem ext_succ {s : ByteArray} {p q : Nat} (h : p <= q) : s.extract p q ++ s.extract q (q + 1) = s.extract p (q + 1) := by
 apply ByteArray.ext
 rw [ByteArray.data_append, ByteArray.data_extract, ByteArray.data_extract, ByteArray.data_extract, Array.extract_append_extract]
 congr 1 <;> omega
theorem yquoted_any {R p : Nat} {s : ByteArray} {w : World} (h : AtY w R s p 0) (hs : s.size <= 50000) (h34 : rd s p = 34) :
  Calls Tryz.prog 180 #[.pointer (some ⟨R, 0, none⟩)] w (QuoteY R s p w) := by
 obtain ⟨c0, c1, c2, z0, z1, z2⟩ := h.cells
 have hp : p < s.size := rd_lt (by omega) h34
 have H34 := hh9 h34
 have H := hh9 h
 clear h h34
 go_enter Tryz.func180, Tryz.ntmps180
 go_wp2_with fail
 clear c0 c1 c2 z0 z1 z2
 go_loopw [3] (fun v wr => ∃ T : ByteArray, ∃ q : Nat, v = .string T /\ InQuoteY R s p w wr T q) (fun _ wr => s.size - posOf R wr)
 case atStart => exact ⟨⟨#[]⟩, p + 1, rfl, H.out.step, grown_set (grown_refl _ _) _ _, Nat.le_refl _, by omega, by simp [ByteArray.ext_iff], fun i h1 h2 => absurd h1 (by omega)⟩
 case round =>
  obtain ⟨T, q, rfl, ha, hg, hpq, hqs, hT, hall⟩ := hrel
  have HA := hh9 ha
  have HG := hh9 hg
  have HM := hh9 ha.pos
  obtain ⟨Z, hZ⟩ : ∃ y, rd s q = y := ⟨_, rfl⟩
  have HZ := hh9 hZ
  have hZr := rd_range s q
  rw [hZ] at hZr
  have hTs : T.size = q - (p + 1) := by rw [hT, ByteArray.size_extract]; omega
  have HTX : Hid (T = strOf (cut (rd s) (p + 1) (q - (p + 1)))) := by rw [hT]; exact extract_eq hqs
  cases hst : isSt Z
  ·have hrun : IsRun isSt (rd s) (p + 1) q := ⟨hpq, hall, by rw [hZ]; exact hst⟩
   have HRUN := hh9 hrun
   have HLOW := hh9 (run_bytes isSt_low hrun)
   have HLEN : Hid ((cut (rd s) (p + 1) (q - (p + 1))).length <= 60000) := by rw [cut_len]; exact (by omega : q - (p + 1) <= 60000)
   have hst2 : ¬ (32 <= Z /\ Z <= 126 /\ Z ≠ 34) := by
    unfold isSt at hst
    simp at hst
    intro ⟨g1, g2, g3⟩
    exact g3 (hst g1 g2)
   clear ha hg hZ hT hall hst hrun hTs
   by_cases g1 : 32 <= Z
   ·by_cases g2 : Z < 127
    ·have g3 : Z = 34 := by omega
     subst g3
     clear hst2
     go_wp2_with fail
     refine (yat0 HA.out hs (by omega) _ HZ.out).mono ?_
     rintro e w1 ⟨rfl, hbw⟩
     have HA0 := hh9 (HA.out.below hbw)
     have HG0 := hh9 (grown_below HG.out hbw)
     clear hbw
     go_wp2_with fail
     refine (yat0 HA0.out hs (by omega) _ HZ.out).mono ?_
     rintro e w2 ⟨rfl, hbw⟩
     have HAb := hh9 (HA0.out.below hbw)
     have HGb := hh9 (grown_below HG0.out hbw)
     clear hbw
     go_wp2_with fail
     refine (yat0 HAb.out hs (by omega) _ HZ.out).mono ?_
     rintro e w3 ⟨rfl, hbw⟩
     have HA1 := hh9 (HAb.out.below hbw)
     have HG1 := hh9 (grown_below HGb.out hbw)
     clear hbw HA HG HA0 HG0 HAb HGb
     have HQ : Hid (quoteAt (rd s) p = .ok (cut (rd s) (p + 1) (q - (p + 1))) (q + 1)) := by
      unfold quoteAt
      rw [if_pos H34.out, HRUN.out.eq, if_pos HZ.out]
      exact rfl
     go_wp2_with fail
     refine (yat0 HA1.out hs (by omega) _ HZ.out).mono ?_
     rintro e w5 ⟨rfl, hbw⟩
     have HA5 := hh9 (HA1.out.below hbw)
     have HG5 := hh9 (grown_below HG1.out hbw)
     obtain ⟨d0, d1, d2, y0, y1, y2⟩ := HA5.out.cells
     clear hbw
     go_wp2_with fail
     go_ret
     rw [HTX.out]
     exact .inl ⟨_, q + 1, HQ.out, HLOW.out, HLEN.out, rfl, HA5.out.step, grown_set HG5.out _ _⟩
    ·clear hst2
     have h34 : ¬ Z = 34 := by omega
     go_wp2_with fail
     refine (yat0 HA.out hs (by omega) _ HZ.out).mono ?_
     rintro e w1 ⟨rfl, hbw⟩
     have HA0 := hh9 (HA.out.below hbw)
     have HG0 := hh9 (grown_below HG.out hbw)
     clear hbw
     go_wp2_with fail
     refine (yat0 HA0.out hs (by omega) _ HZ.out).mono ?_
     rintro e w2 ⟨rfl, hbw⟩
     have HA1 := hh9 (HA0.out.below hbw)
     have HG1 := hh9 (grown_below HG0.out hbw)
     clear hbw HA HG HA0 HG0
     have q34 : (Z == 34) = false := by simpa using h34
     have q34' : (Z != 34) = true := by simpa using h34
     have HQ : Hid (quoteAt (rd s) p = .err 20) := by
      unfold quoteAt
      rw [if_pos H34.out, HRUN.out.eq, if_neg (by rw [HZ.out]; exact h34)]
      exact rfl
     clear h34
     go_wp2_with fail
     refine (yat0 HA1.out hs (by omega) _ HZ.out).mono ?_
     rintro e w5 ⟨rfl, hbw⟩
     have HA5 := hh9 (HA1.out.below hbw)
     have HG5 := hh9 (grown_below HG1.out hbw)
     clear hbw
     go_wp2_with fail
     refine (yfail_first HA5.out 20).mono ?_
     rintro e w6 ⟨rfl, ha, hg⟩
     have HA6 := hh9 ha
     have HG6 := hh9 (HG5.out.trans hg)
     obtain ⟨d0, d1, d2, y0, y1, y2⟩ := ha.cells
     clear ha hg
     go_wp2_with fail
     go_ret
     rw [HTX.out]
     exact .inr ⟨HQ.out, _, q + 1, by omega, HLOW.out, HLEN.out, rfl, HA6.out.step, grown_set HG6.out _ _⟩
   ·clear hst2
    have h34 : ¬ Z = 34 := by omega
    go_wp2_with fail
    refine (yat0 HA.out hs (by omega) _ HZ.out).mono ?_
    rintro e w1 ⟨rfl, hbw⟩
    have HA1 := hh9 (HA.out.below hbw)
    have HG1 := hh9 (grown_below HG.out hbw)
    clear hbw HA HG
    have q34 : (Z == 34) = false := by simpa using h34
    have q34' : (Z != 34) = true := by simpa using h34
    have HQ : Hid (quoteAt (rd s) p = .err 20) := by
     unfold quoteAt
     rw [if_pos H34.out, HRUN.out.eq, if_neg (by rw [HZ.out]; exact h34)]
     exact rfl
    clear h34
    go_wp2_with fail
    refine (yat0 HA1.out hs (by omega) _ HZ.out).mono ?_
    rintro e w5 ⟨rfl, hbw⟩
    have HA5 := hh9 (HA1.out.below hbw)
    have HG5 := hh9 (grown_below HG1.out hbw)
    clear hbw
    go_wp2_with fail
    refine (yfail_first HA5.out 20).mono ?_
    rintro e w6 ⟨rfl, ha, hg⟩
    have HA6 := hh9 ha
    have HG6 := hh9 (HG5.out.trans hg)
    obtain ⟨d0, d1, d2, y0, y1, y2⟩ := ha.cells
    clear ha hg
    go_wp2_with fail
    go_ret
    rw [HTX.out]
    exact .inr ⟨HQ.out, _, q + 1, by omega, HLOW.out, HLEN.out, rfl, HA6.out.step, grown_set HG6.out _ _⟩
  ·obtain ⟨g1, g2, g3⟩ : 32 <= Z /\ Z < 127 /\ Z ≠ 34 := by
    unfold isSt at hst
    simp at hst
    exact ⟨by omega, by omega, hst.2⟩
   have q34 : (Z != 34) = true := by simpa using g3
   have hlt : q < s.size := rd_lt (by omega) hZ
   have HNX : Hid (∀ i, p + 1 <= i -> i < q + 1 -> isSt (rd s i) = true) := run_next (P := isSt) hall (by rw [hZ]; exact hst)
   have HTN : Hid (T ++ s.extract q (q + 1) = s.extract (p + 1) (q + 1)) := by rw [hT]; exact ext_succ hpq
   have hT2 : T.size <= 50000 := by omega
   obtain ⟨m, hm0⟩ : ∃ m, q + 1 = m := ⟨_, rfl⟩
   have hm : (q : Int) + 1 = (m : Int) := by omega
   have hT3 : (s.extract q m).size = 1 := by rw [ByteArray.size_extract]; omega
   have hle : decide ((q : Int) <= (m : Int)) = true := by simp; omega
   have hle2 : decide ((m : Int) <= (s.size : Int)) = true := by simp; omega
   have hle3 : q <= m := by omega
   have hle4 : m <= s.size := by omega
   rw [hm0] at HTN HNX
   clear ha hg hZ hT hall hst hTs g3
   go_wp2_with fail
   refine (yat0 HA.out hs (by omega) _ HZ.out).mono ?_
   rintro e w1 ⟨rfl, hbw⟩
   have HA0 := hh9 (HA.out.below hbw)
   have HG0 := hh9 (grown_below HG.out hbw)
   clear hbw
   go_wp2_with fail
   refine (yat0 HA0.out hs (by omega) _ HZ.out).mono ?_
   rintro e w2 ⟨rfl, hbw⟩
   have HAb := hh9 (HA0.out.below hbw)
   have HGb := hh9 (grown_below HG0.out hbw)
   clear hbw
   go_wp2_with fail
   refine (yat0 HAb.out hs (by omega) _ HZ.out).mono ?_
   rintro e w3 ⟨rfl, hbw⟩
   have HA1 := hh9 (HAb.out.below hbw)
   have HG1 := hh9 (grown_below HGb.out hbw)
   obtain ⟨d0, d1, d2, y0, y1, y2⟩ := HA1.out.cells
   clear hbw HA HG HA0 HG0 HAb HGb
   go_wp2_with fail
   go_quiet (fail)
   go_wp2_with fail
   go_roundw
   case rel => exact ⟨_, m, rfl, (HA1.out.drew _).put (by omega), grown_set (grown_drew HG1.out _) _ _, by omega, by omega, HTN.out, HNX.out⟩
   case measure =>
    rw [HM.out, ((HA1.out.drew _).put (q := m) (by omega)).pos]
    omega
end Go.Proofs.YtpopgjgngbiofaaGreatDoor
namespace Go.Proofs.YtpopgjgngbiofaaGreatDoor
open Go.RowKit
def OutY (sk : Bool) (s : ByteArray) (d : Nat) (a : Ask) (p : Nat) (t : Tree) (q : Nat) (c : Int) : Prop :=
 (c = 0 /\ p <= q /\ q <= s.size /\ Ans (rd s) a d p (.ok t (if sk then skipEnd (rd s) q else q))) \/ (c ≠ 0 /\ q <= s.size + 2 + (52 - d) /\ Ans (rd s) a d p (.err c))
def ReadsY (sk : Bool) (R : Nat) (s : ByteArray) (d : Nat) (a : Ask) (p : Nat) (w : World) (e : Ending) (w' : World) : Prop :=
 ∃ (x : XV) (t : Tree) (q : Nat) (c : Int), TreeAt w' (fun b => w.heap.size <= b) x t /\ GivesY R s x.val q c w e w' /\ OutY sk s d a p t q c
def LaterY (R : Nat) (s : ByteArray) (p : Nat) (c : Int) (w : World) (e : Ending) (w' : World) : Prop :=
 ∃ (x : XV) (t : Tree) (q : Nat), TreeAt w' (fun b => w.heap.size <= b) x t /\ q <= p + 1 /\ GivesY R s x.val q c w e w'
def AskToY (f : Nat) (sk : Bool) (a : Ask) (k : Nat) : Prop := ∀ {R p d : Nat} {s : ByteArray} {w : World}, AtY w R s p 0 -> s.size <= 50000 -> p <= s.size -> d <= 50 -> s.size - p <= k ->
 Calls Tryz.prog f #[.pointer (some ⟨R, 0, none⟩), .int .i64 d] w (ReadsY sk R s d a p w)
theorem AtY.set_row {w : World} {R : Nat} {s : ByteArray} {p : Nat} {c : Int} (h : AtY w R s p c) {g : Nat} (hg : R ≠ g) (cs : Array Value) : AtY (w.setRow g cs) R s p c := (setRow_other _ _ _ _ hg).trans h
theorem kids_aty {w w' : World} {base R : Nat} {s : ByteArray} {p : Nat} {c : Int} {v : Value} {l : List Tree} (hk : KidsAt w base v l) (h : AtY w R s p c) (hg : w.grownBy w' v.ownBlock) (hR : R < base) : AtY w' R s p c := by
 obtain ⟨vs, _, h2, _⟩ := hk
 refine h.kept hg (fun e => ?_)
 rcases row_forms h2 with ⟨rfl, _⟩ | ⟨g, cap, rfl⟩
 ·simp [Value.ownBlock] at e
 ·have hb := (row_base h2).1
  have := Option.some.inj e
  simp at this
  omega
theorem isRp_yes {c : Int} (h : c = 34 \/ c = 37 \/ c = 40 \/ c = 42 \/ c = 91) : isRp c = true := by rcases h with rfl | rfl | rfl | rfl | rfl <;> decide
theorem ybegins_any {R p : Nat} {c : Int} {s : ByteArray} {w : World} (h : AtY w R s p c) (hs : s.size <= 50000) (hp : p <= 60000) :
  Calls Tryz.prog 119 #[.pointer (some ⟨R, 0, none⟩)] w (GivesBool (isRp (rd s p)) w) := by
 have H := hh9 h
 clear h
 obtain ⟨Z, hZ⟩ : ∃ z, rd s p = z := ⟨_, rfl⟩
 have HZ := hh9 hZ
 rw [hZ]
 clear hZ
 cases ha : isAl Z
 ·cases hd : isDc Z
  ·by_cases hc : Z = 34 \/ Z = 37 \/ Z = 40 \/ Z = 42 \/ Z = 91
   ·rw [isRp_yes hc]
    have HA := hh9 ha
    have HD := hh9 hd
    clear ha hd
    rcases hc with rfl | rfl | rfl | rfl | rfl
    all_goals
     go_enter Tryz.func119, Tryz.ntmps119
     go_wp2_with fail
     refine (yat0 H.out hs hp _ HZ.out).mono ?_
     rintro e w1 ⟨rfl, hb⟩
     have HB := hh9 hb
     clear hb
     go_wp2_with fail
     refine (yalpha_any _ _).mono ?_
     rw [HA.out]
     rintro e w' ⟨rfl, rfl⟩
     go_wp2_with fail
     refine (ydigit_any _ _).mono ?_
     rw [HD.out]
     rintro e w' ⟨rfl, rfl⟩
     go_wp2
     go_ret
     exact ⟨rfl, HB.out⟩
   ·have e1 : (Z == 34) = false := by simp; omega
    have e2 : (Z == 37) = false := by simp; omega
    have e3 : (Z == 40) = false := by simp; omega
    have e4 : (Z == 42) = false := by simp; omega
    have e5 : (Z == 91) = false := by simp; omega
    rw [isRp_no ha hd (by omega) (by omega) (by omega) (by omega) (by omega)]
    have HA := hh9 ha
    have HD := hh9 hd
    clear ha hd hc
    go_enter Tryz.func119, Tryz.ntmps119
    go_wp2_with fail
    refine (yat0 H.out hs hp _ HZ.out).mono ?_
    rintro e w1 ⟨rfl, hb⟩
    have HB := hh9 hb
    clear hb
    go_wp2_with fail
    refine (yalpha_any _ _).mono ?_
    rw [HA.out]
    rintro e w' ⟨rfl, rfl⟩
    go_wp2_with fail
    refine (ydigit_any _ _).mono ?_
    rw [HD.out]
    rintro e w' ⟨rfl, rfl⟩
    go_wp2
    go_ret
    exact ⟨rfl, HB.out⟩
  ·rw [show isRp Z = true by unfold isRp; simp [hd]]
   have HA := hh9 ha
   have HD := hh9 hd
   clear ha hd
   go_enter Tryz.func119, Tryz.ntmps119
   go_wp2_with fail
   refine (yat0 H.out hs hp _ HZ.out).mono ?_
   rintro e w1 ⟨rfl, hb⟩
   have HB := hh9 hb
   clear hb
   go_wp2_with fail
   refine (yalpha_any _ _).mono ?_
   rw [HA.out]
   rintro e w' ⟨rfl, rfl⟩
   go_wp2_with fail
   refine (ydigit_any _ _).mono ?_
   rw [HD.out]
   rintro e w' ⟨rfl, rfl⟩
   go_wp2
   go_ret
   exact ⟨rfl, HB.out⟩
 ·rw [show isRp Z = true by unfold isRp; simp [ha]]
  have HA := hh9 ha
  clear ha
  go_enter Tryz.func119, Tryz.ntmps119
  go_wp2_with fail
  refine (yat0 H.out hs hp _ HZ.out).mono ?_
  rintro e w1 ⟨rfl, hb⟩
  have HB := hh9 hb
  clear hb
  go_wp2_with fail
  refine (yalpha_any _ _).mono ?_
  rw [HA.out]
  rintro e w' ⟨rfl, rfl⟩
  go_wp2
  go_ret
  exact ⟨rfl, HB.out⟩
end Go.Proofs.YtpopgjgngbiofaaGreatDoor
