/- Joined texts; each begins with what it says. -/
import Derived.Test.YtjeplmnjgdpgbaaGreatDoorW4
import Derived.Test.YtjeplmnjgdpgbaaGreatDoorW0
import Derived.Test.YtjeplmnjgdpgbaaGreatDoorBase
import Derived.Orders
import Derived.Test.YtjeplmnjgdpgbaaGreatDoorMake
import Derived.BigFrame
import Derived.Great.BuildSlice
import Derived.Laws.IdiomStrings
import Derived.Test.YtjeplmnjgdpgbaaGreatDoorW3
/-! The document's Either. No condition but size. -/
namespace Go.Proofs.YtjeplmnjgdpgbaaGreatDoor
open Go.RowKit Go.Lib
set_option linter.unusedVariables false
set_option linter.unusedSimpArgs false

theorem others_take (l : List RT) (i : Nat) (u : RT) (hu : l[i]? = some u) : othersM (l.take (i + 1)) = othersM (l.take i) ++ (if u.kind = 0 ∨ u.kind = 2 then [] else [u]) := by
  unfold othersM
  rw [List.take_add_one, hu, List.filter_append]
  congr 1
  by_cases h : u.kind = 0
  · simp [h]
  · by_cases h2 : u.kind = 2
    · simp [h2]
    · simp [h, h2]
theorem puts_snoc (L : List RT) (u : RT) : putsM (L ++ [u]) = putL txt u false (putsM L) := by
  unfold putsM
  rw [List.foldl_append]
  rfl
theorem puts_byte (F : List RT) : putsM (byteM F) = byteM F := by
  unfold byteM
  split <;> rfl
theorem cnt_pos {s : W4} (h : s.Ok) : (0 : Int) < (cnt s.mem 256 : Int) ↔ s ≠ W4.zero := by
  have := cnt_w4 h
  constructor
  · intro h1 e
    have := this.2 e
    omega
  · intro h1
    have : cnt s.mem 256 ≠ 0 := fun e => h1 (this.1 e)
    omega
theorem KidsR.weakP {W : World} {P P' : Nat → Prop} {p : Option Addr} {n cap : Nat} {vs : List ReV} {l : List RT} (h : KidsR W P p n cap vs l) (hk : ∀ b, P b → P' b) : KidsR W P' p n cap vs l := h.kept (Keeps.of (Nat.le_refl _) fun b hp _ => ⟨rfl, hk b hp⟩)

set_option maxRecDepth 100000 in
set_option maxHeartbeats 16000000 in
theorem refeither_any {P : Nat → Prop} (w : World) {p : Option Addr} {n cap : Nat} {vs : List ReV} {l : List RT} (h : KidsR w P p n cap vs l) (hsz : (l.map RT.sz).sum ≤ 9000000000) :
    Calls Tryz.prog 28 #[.slice p n cap] w (GivesRe (fun g => P g ∨ w.heap.size ≤ g) (eitherM l) w) := by
  obtain ⟨i0, hi0, hz0, hz1, hz2⟩ := re_parts
  obtain ⟨D, hD⟩ : ∃ D, D = w.heap.size := ⟨_, rfl⟩
  obtain ⟨w1, hw1⟩ : ∃ w1 : World, w1 = w.alloc (.cells #[.int .i64 0, .int .u64 0, .int .u64 0, .int .u64 0, .int .u64 0, .slice none 0 0] 29) := ⟨_, rfl⟩
  have hb1 : Below w.heap.size w w1 := by rw [hw1]; exact (Below.refl _ _).alloc (Nat.le_refl _) _
  have hnD : w1.heap[D]? = some (.cells #[.int .i64 0, .int .u64 0, .int .u64 0, .int .u64 0, .int .u64 0, .slice none 0 0] 29 (0, 0)) := by rw [hw1, hD]; exact heap_alloc_new _ _
  have h0 : KidsR w (fun g => P g ∧ g < w.heap.size) p n cap vs l := h.kept (Keeps.of (Nat.le_refl _) fun b hp hl => ⟨rfl, hp, hl⟩)
  have c1 := refflat_any w1 4 (h0.under hb1) hsz
  have hfl := flat_len 4 l
  have hfs : ∀ t ∈ flatM 4 l, t.sz ≤ 9000000000 := flat_all (fun t ht => by have := sum_mem ht; omega) fun y hy x hx => by have := kids_sz hx; have := sum_mem hy; omega
  obtain ⟨F, hF⟩ : ∃ F, F = flatM 4 l := ⟨_, rfl⟩
  obtain ⟨R, hR⟩ : ∃ R, R = eitherM l := ⟨_, rfl⟩
  rw [← hR]
  rw [← hF] at c1 hfl hfs
  have HR : Hid (R = someM 4 0 (putsM (byteM F ++ othersM F))) := by unfold Hid; rw [hR, hF]; rfl
  have HB1 := Lib.hid hb1
  have HND := Lib.hid hnD
  have HW1 := Lib.hid hw1
  have HDD := Lib.hid hD
  have HFS := Lib.hid hfs
  have hDl : D < w1.heap.size := (Array.getElem?_eq_some_iff.1 hnD).1
  have HDL := Lib.hid hDl
  clear h h0 hF hR hb1 hnD hw1 hD hDl hfs
  go_enter Tryz.func28, Tryz.ntmps28
  go_wp2_with fail
  rw [← HW1.out, ← HDD.out]
  ((with_reducible refine c1.mono ?_))
  rintro _ w2 ⟨v, us, rfl, hO, hb2⟩
  obtain ⟨q2, cp2, rfl, hk⟩ := hO.slice hb2
  obtain ⟨n2, hn2⟩ : ∃ n2, n2 = F.length := ⟨_, rfl⟩
  rw [← hn2] at hk ⊢ hfl
  obtain ⟨SB, hSB⟩ : ∃ SB, SB = w2.heap.size := ⟨_, rfl⟩
  obtain ⟨w3, hw3⟩ : ∃ w3 : World, w3 = w2.alloc (.cells #[.int .u64 0, .int .u64 0, .int .u64 0, .int .u64 0] 26) := ⟨_, rfl⟩
  have HB3 : Hid (Below w2.heap.size w2 w3) := by unfold Hid; rw [hw3]; exact (Below.refl _ _).alloc (Nat.le_refl _) _
  have HNS : Hid (w3.heap[SB]? = some (.cells #[.int .u64 0, .int .u64 0, .int .u64 0, .int .u64 0] 26 (0, 0))) := by unfold Hid; rw [hw3, hSB]; exact heap_alloc_new _ _
  have HK2 := Lib.hid hk
  have HN2 := Lib.hid hn2
  have HB2 := Lib.hid hb2
  have H2D : Hid (w2.heap[D]? = some (.cells #[.int .i64 0, .int .u64 0, .int .u64 0, .int .u64 0, .int .u64 0, .slice none 0 0] 29 (0, 0))) := (hb2.block D HDL.out).trans HND.out
  have h12 : w1.heap.size ≤ w2.heap.size := hb2.size
  have hn2b : n2 ≤ 9000000000 := by omega
  have HW3 := Lib.hid hw3
  have HSB := Lib.hid hSB
  have hS2 : w2.heap.size ≤ SB := by omega
  have mixed : Tryz.prog.follows .mixedOrders = true := by kernel_rfl
  clear hO hk hn2 hb2 c1 hw3 hSB
  go_wp2_with fail
  rw [← HW3.out, ← HSB.out]
  go_loopg [6] n2 (fun gk vi wr => ∃ (i : Nat) (a0 a1 a2 a3 : Int), vi = .int .i64 (i : Int) ∧ i ≤ n2 ∧ n2 - i ≤ gk ∧ Hid (Below w2.heap.size w2 wr) ∧ Hid (wr.heap[SB]? = some (.cells #[.int .u64 a0, .int .u64 a1, .int .u64 a2, .int .u64 a3] 26 (0, 0))) ∧ Hid (IsSet a0 a1 a2 a3 (unF (F.take i))))
  case atStart => exact ⟨0, 0, 0, 0, 0, rfl, by omega, by omega, HB3.out, HNS.out, zero_isSet⟩
  case round =>
    obtain ⟨i, a0, a1, a2, a3, rfl, hi, hgk, HB, HS, HI⟩ := hrel
    have hsb := HS.out
    by_cases hlt : i < n2
    · have hltz : (i : Int) < (n2 : Int) := by omega
      obtain ⟨g, off, rfl⟩ := HK2.out.rowv.some_of hlt
      have hil : i < F.length := by rw [← HN2.out]; exact hlt
      obtain ⟨y, hy⟩ : ∃ y, us[i]? = some y := ⟨_, List.getElem?_eq_getElem (by rw [HK2.out.len]; exact hil)⟩
      obtain ⟨u, hu⟩ : ∃ u, F[i]? = some u := ⟨_, List.getElem?_eq_getElem hil⟩
      have hpl := HK2.out.place hy
      have hra := HK2.out.each i y u hy hu
      obtain ⟨ws, et, hyok, _⟩ := hra.kids
      have hukd : u.kind = y.kind := by rw [et]; rfl
      have huset : u.set = y.w4 := by rw [et]; rfl
      clear et
      have htk := unF_take F i u hu
      obtain ⟨k, a, b, c, d, q, m, cp⟩ := y
      simp only at hukd
      obtain ⟨p0, p1, p2, p3, p4, p5⟩ := (hpl.under HB.out).six
      simp only at p0 p1 p2 p3 p4 p5
      have HTK := Lib.hid htk
      have HUK := Lib.hid hukd
      have HUS := Lib.hid huset
      have HYO := Lib.hid hyok
      clear hpl hra hukd huset hyok htk hy hu hil
      by_cases hk : k = 2
      · subst hk
        have s0 : wr.cell? ⟨SB, 0, none⟩ = some (.int .u64 a0) := by simp [World.cell?, hsb]
        have s1 : wr.cell? ⟨SB, 1, none⟩ = some (.int .u64 a1) := by simp [World.cell?, hsb]
        have s2 : wr.cell? ⟨SB, 2, none⟩ = some (.int .u64 a2) := by simp [World.cell?, hsb]
        have s3 : wr.cell? ⟨SB, 3, none⟩ = some (.int .u64 a3) := by simp [World.cell?, hsb]
        have HC : Hid (∀ W, Calls Tryz.prog 46 #[.agg #[.int .u64 a0, .int .u64 a1, .int .u64 a2, .int .u64 a3], .agg #[.int .u64 a, .int .u64 b, .int .u64 c, .int .u64 d]] W (RetSet _ W)) := fun W => refjoin_any a0 a1 a2 a3 a b c d _ _ W HI.out (W4.isSet HYO.out)
        have HQ : Hid (∀ w4, Below wr.drew.heap.size wr.drew w4 → (w4.cell? ⟨SB, 0, none⟩ = some (.int .u64 a0) ∧ w4.cell? ⟨SB, 1, none⟩ = some (.int .u64 a1) ∧ w4.cell? ⟨SB, 2, none⟩ = some (.int .u64 a2) ∧ w4.cell? ⟨SB, 3, none⟩ = some (.int .u64 a3)) ∧ (w4.frozen? ⟨SB, 0, none⟩ = false ∧ w4.frozen? ⟨SB, 1, none⟩ = false ∧ w4.frozen? ⟨SB, 2, none⟩ = false ∧ w4.frozen? ⟨SB, 3, none⟩ = false) ∧ Hid (Below w2.heap.size w2 w4) ∧ Hid (w4.heap[SB]? = some (.cells #[.int .u64 a0, .int .u64 a1, .int .u64 a2, .int .u64 a3] 26 (0, 0)))) := by
          intro w4 hb
          have e4 : w4.heap[SB]? = some (.cells #[.int .u64 a0, .int .u64 a1, .int .u64 a2, .int .u64 a3] 26 (0, 0)) := (hb.block SB (Array.getElem?_eq_some_iff.1 HS.out).1).trans HS.out
          refine ⟨⟨?_, ?_, ?_, ?_⟩, ⟨frozen_no e4 _, frozen_no e4 _, frozen_no e4 _, frozen_no e4 _⟩, (below_drawn HB.out 1).trans (hb.mono HB.out.size), e4⟩
          · simp [World.cell?, e4]
          · simp [World.cell?, e4]
          · simp [World.cell?, e4]
          · simp [World.cell?, e4]
        clear hsb
        go_wp2_with fail
        go_region_law (first
          | (go_simp; go_at_call 46; (with_reducible (refine (HC.out _).mono ?_)); rintro _ w4 ⟨b0, b1, b2, b3, hr, rfl, hb4⟩; obtain ⟨⟨t0, t1, t2, t3⟩, ⟨f0, f1, f2, f3⟩, HB4, H4⟩ := HQ.out w4 hb4; have HRR := Lib.hid hr; clear hb4 hr)
          | fail)
        all_goals go_wp2
        all_goals
          go_roundg (n2 - (i + 1))
          case measure => omega
          case rel =>
            refine ⟨i + 1, b0, b1, b2, b3, by go_num, by omega, Nat.le_refl _, four_below HB4.out hS2 _ _ _ _, set4_heap H4.out _ _ _ _, ?_⟩
            exact HRR.out.congr fun b hb => by rw [HTK.out, HUK.out, HUS.out]; rfl
      · have hkz : (k == 2) = false := by simpa using hk
        have HKZ := Lib.hid hkz
        clear hk hsb
        go_wp2
        go_roundg (n2 - (i + 1))
        case measure => omega
        case rel =>
          refine ⟨i + 1, a0, a1, a2, a3, by go_num, by omega, Nat.le_refl _, HB, HS, ?_⟩
          exact HI.out.congr fun b hb => by rw [HTK.out, HUK.out, HKZ.out, Bool.false_and, Bool.or_false]
    · have hltz : ¬ (i : Int) < (n2 : Int) := by omega
      have eF : F.take i = F := List.take_of_length_le (by rw [← HN2.out]; omega)
      have hs := HI.out
      rw [eF] at hs
      have hU : (⟨a0, a1, a2, a3⟩ : W4) = unionM F := by rw [isSet_of hs]; rfl
      have hok : (⟨a0, a1, a2, a3⟩ : W4).Ok := by rw [hU]; exact of_ok _
      have s0 : wr.cell? ⟨SB, 0, none⟩ = some (.int .u64 a0) := by simp [World.cell?, hsb]
      have s1 : wr.cell? ⟨SB, 1, none⟩ = some (.int .u64 a1) := by simp [World.cell?, hsb]
      have s2 : wr.cell? ⟨SB, 2, none⟩ = some (.int .u64 a2) := by simp [World.cell?, hsb]
      have s3 : wr.cell? ⟨SB, 3, none⟩ = some (.int .u64 a3) := by simp [World.cell?, hsb]
      have c5 := fun W => refcount_any a0 a1 a2 a3 _ W (W4.isSet hok)
      have hpos := cnt_pos hok
      obtain ⟨CN, hCN⟩ : ∃ CN : Int, CN = (cnt (W4.mem ⟨a0, a1, a2, a3⟩) 256 : Int) := ⟨_, rfl⟩
      rw [← hCN] at c5 hpos
      have HU := Lib.hid hU
      have HOK := Lib.hid hok
      have HPOS := Lib.hid hpos
      have HSI := Lib.hid HS.out
      have c6 := c5 wr
      clear eF hs hU hok hpos hCN hsb HI c5
      go_wp2_with fail
      ((with_reducible refine c6.mono ?_))
      rintro _ w5 ⟨rfl, hb5⟩
      have hB25 : Below w2.heap.size w2 w5 := HB.out.trans (hb5.mono HB.out.size)
      have HB5 := Lib.hid hB25
      have h5S := (hb5.block SB (Array.getElem?_eq_some_iff.1 HSI.out).1).trans HSI.out
      have H5S := Lib.hid h5S
      clear hb5 hB25 c6 s0 s1 s2 s3 hlt hltz
      have cont : ∀ (W : World) (q0 : Option Addr) (N cp0 : Nat) (us0 : List ReV), True := fun _ _ _ _ _ => trivial
      by_cases hz : (⟨a0, a1, a2, a3⟩ : W4) = W4.zero
      · have hcz : ¬ CN > 0 := fun h => (HPOS.out.1 h) hz
        have HBY : Hid (byteM F = []) := by unfold Hid; unfold byteM; rw [← HU.out, if_pos hz]
        have HB7 : Hid (Below w2.heap.size w2 w5) := HB5
        have HK7 : Hid (KidsR w5 (fun g => (P g ∧ g < w.heap.size) ∨ w1.heap.size ≤ g) none 0 0 [] (putsM (byteM F ++ othersM (F.take 0)))) := by unfold Hid; rw [HBY.out]; exact kids_empty
        clear hz h5S cont
        go_wp2_with fail
        go_loopg [4, 7] n2 (fun gk v vi wr => ∃ (j : Nat) (q : Option Addr) (N cp : Nat) (us3 : List ReV), v = .slice q N cp ∧ vi = .int .i64 (j : Int) ∧ j ≤ n2 ∧ n2 - j ≤ gk ∧ N ≤ j + 1 ∧ Hid (Below w2.heap.size w2 wr) ∧ Hid (KidsR wr (fun g => (P g ∧ g < w.heap.size) ∨ w1.heap.size ≤ g) q N cp us3 (putsM (byteM F ++ othersM (F.take j)))) ∧ Hid (∀ t ∈ putsM (byteM F ++ othersM (F.take j)), t.sz ≤ 9000000000))
        case atStart =>
          refine ⟨0, none, 0, 0, [], rfl, rfl, by omega, by omega, by omega, HB7.out, HK7.out, ?_⟩
          intro t ht
          rcases List.mem_append.1 ((puts_asc _).2 t ht) with h | h
          · unfold byteM at h
            split at h
            · simp at h
            · simp at h; subst h; rw [sz_mk]; decide
          · simp [othersM] at h
        case round =>
          obtain ⟨j, q0, N, cp0, us3, rfl, rfl, hj, hgk, hNj, HBj, HKj, HZj⟩ := hrel
          by_cases hlt : j < n2
          · have hltz : (j : Int) < (n2 : Int) := by omega
            obtain ⟨g, off, rfl⟩ := HK2.out.rowv.some_of hlt
            have hil : j < F.length := by rw [← HN2.out]; exact hlt
            obtain ⟨y, hy⟩ : ∃ y, us[j]? = some y := ⟨_, List.getElem?_eq_getElem (by rw [HK2.out.len]; exact hil)⟩
            obtain ⟨u, hu⟩ : ∃ u, F[j]? = some u := ⟨_, List.getElem?_eq_getElem hil⟩
            have hpl := HK2.out.place hy
            have hra := (HK2.out.each j y u hy hu).under HBj.out
            have hukd : u.kind = y.kind := by obtain ⟨_, et, _⟩ := hra.kids; rw [et]; rfl
            have htk := others_take F j u hu
            have husz := HFS.out u (List.mem_of_getElem? hu)
            have c8 := refput_any wr HKj.out y u hra (by omega) HZj.out husz
            obtain ⟨k, a, b, c, d, q, m, cp⟩ := y
            simp only at hukd
            unfold ReV.val at c8
            simp only at c8
            obtain ⟨p0, p1, p2, p3, p4, p5⟩ := (hpl.under HBj.out).six
            simp only at p0 p1 p2 p3 p4 p5
            have HTK := Lib.hid htk
            have HUK := Lib.hid hukd
            have HUZ := Lib.hid husz
            clear hpl hra hukd htk hy hu hil husz
            by_cases hk0 : k = 0
            · have HT : Hid (othersM (F.take (j + 1)) = othersM (F.take j)) := by unfold Hid; rw [HTK.out, if_pos (.inl (by rw [HUK.out]; exact hk0)), List.append_nil]
              clear c8
              subst hk0
              go_wp2
              go_roundg (n2 - (j + 1))
              case measure => omega
              case rel => exact ⟨j + 1, q0, N, cp0, us3, rfl, by go_num, by omega, Nat.le_refl _, by omega, HBj.out, by rw [HT.out]; exact HKj.out, by rw [HT.out]; exact HZj.out⟩
            · have z0 : (k == 0) = false := by simpa using hk0
              by_cases hk2 : k = 2
              · have HT : Hid (othersM (F.take (j + 1)) = othersM (F.take j)) := by unfold Hid; rw [HTK.out, if_pos (.inr (by rw [HUK.out]; exact hk2)), List.append_nil]
                clear c8 z0 hk0
                subst hk2
                go_wp2
                go_roundg (n2 - (j + 1))
                case measure => omega
                case rel => exact ⟨j + 1, q0, N, cp0, us3, rfl, by go_num, by omega, Nat.le_refl _, by omega, HBj.out, by rw [HT.out]; exact HKj.out, by rw [HT.out]; exact HZj.out⟩
              · have z2 : (k == 2) = false := by simpa using hk2
                have HT : Hid (putsM (byteM F ++ othersM (F.take (j + 1))) = putL txt u false (putsM (byteM F ++ othersM (F.take j)))) := by
                  unfold Hid
                  rw [HTK.out, if_neg (by rw [HUK.out]; omega), ← List.append_assoc, puts_snoc]
                have y0 : (k != 0) = true := by simpa using hk0
                have y2 : (k != 2) = true := by simpa using hk2
                go_wp2_with fail
                ((with_reducible refine c8.mono ?_))
                rintro _ w9 ⟨v9, us9, rfl, hO9, hb9⟩
                obtain ⟨q9, cp9, rfl, hk9⟩ := hO9.slice hb9
                have hlen9 : (putL txt u false (putsM (byteM F ++ othersM (F.take j)))).length ≤ N + 1 := by
                  have h1 : ∀ (pb : Bool) (L : List RT), (putL txt u pb L).length ≤ L.length + (if pb then 0 else 1) := by
                    intro pb L
                    induction L generalizing pb with
                    | nil => cases pb <;> simp [putL]
                    | cons x L ih =>
                      rw [putL]
                      have i1 := ih true
                      have i2 := ih pb
                      simp only [if_true] at i1
                      split
                      · simp only [List.length_cons]; omega
                      · split
                        · rename_i hc
                          rw [hc.2]
                          simp only [List.length_cons, Bool.false_eq_true, if_false]
                          omega
                        · simp only [List.length_cons]; omega
                  have := h1 false (putsM (byteM F ++ othersM (F.take j)))
                  have := HKj.out.num
                  simp at *
                  omega
                have HZ9 : Hid (∀ t ∈ putL txt u false (putsM (byteM F ++ othersM (F.take j))), t.sz ≤ 9000000000) := by
                  intro t ht
                  rcases putL_sub u false _ t ht with rfl | h
                  · exact HUZ.out
                  · exact HZj.out t h
                have HB9 : Hid (Below w2.heap.size w2 w9) := HBj.out.trans (hb9.mono HBj.out.size)
                have hwj : w1.heap.size ≤ wr.heap.size := Nat.le_trans h12 HBj.out.size
                have HK9 : Hid (KidsR w9 (fun g => (P g ∧ g < w.heap.size) ∨ w1.heap.size ≤ g) q9 (putL txt u false (putsM (byteM F ++ othersM (F.take j)))).length cp9 us9 (putL txt u false (putsM (byteM F ++ othersM (F.take j))))) := hk9.weakP fun b hb => by
                  rcases hb with h | h
                  · exact h
                  · exact .inr (by omega)
                obtain ⟨N9, hN9⟩ : ∃ N9, N9 = (putL txt u false (putsM (byteM F ++ othersM (F.take j)))).length := ⟨_, rfl⟩
                rw [← hN9] at HK9 hlen9 ⊢
                clear hO9 hb9 hk9 c8 hN9
                go_wp2
                go_roundg (n2 - (j + 1))
                case measure => omega
                case rel => exact ⟨j + 1, q9, N9, cp9, us9, rfl, by go_num, by omega, Nat.le_refl _, by omega, HB9.out, by rw [HT.out]; exact HK9.out, by rw [HT.out]; exact HZ9.out⟩
          · have hltz : ¬ (j : Int) < (n2 : Int) := by omega
            have eF : F.take j = F := List.take_of_length_le (by rw [← HN2.out]; omega)
            have hkj := HKj.out
            rw [eF] at hkj
            have hall : Below w.heap.size w wr := HB1.out.trans ((HB2.out.trans (HBj.out.mono HB2.out.size)).mono HB1.out.size)
            have hrD := (HBj.out.block D (Nat.lt_of_lt_of_le HDL.out h12)).trans H2D.out
            have HRD := Lib.hid hrD
            have HALL := Lib.hid hall
            have HKJ := Lib.hid hkj
            clear eF hkj hall
            by_cases hN0 : N = 0
            · have hNz : ((N : Int) == 0) = true := by simp [hN0]
              have HL0 : Hid (putsM (byteM F ++ othersM F) = []) := List.length_eq_zero_iff.1 (by rw [← HKJ.out.num]; exact hN0)
              have d0 : wr.cell? ⟨D, 0, none⟩ = some (.int .i64 0) := by simp [World.cell?, hrD]
              have d1 : wr.cell? ⟨D, 1, none⟩ = some (.int .u64 0) := by simp [World.cell?, hrD]
              have d2 : wr.cell? ⟨D, 2, none⟩ = some (.int .u64 0) := by simp [World.cell?, hrD]
              have d3 : wr.cell? ⟨D, 3, none⟩ = some (.int .u64 0) := by simp [World.cell?, hrD]
              have d4 : wr.cell? ⟨D, 4, none⟩ = some (.int .u64 0) := by simp [World.cell?, hrD]
              have d5 : wr.cell? ⟨D, 5, none⟩ = some (.slice none 0 0) := by simp [World.cell?, hrD]
              have f0 := frozen_no hrD 0
              have f1 := frozen_no hrD 1
              have f2 := frozen_no hrD 2
              have f3 := frozen_no hrD 3
              have f4 := frozen_no hrD 4
              have f5 := frozen_no hrD 5
              clear hN0 hrD
              go_wp2
              refine bodyPost_ret_by (results_cell_row rfl _ _ D 29 #[.int .i64 0, .int .u64 0, .int .u64 0, .int .u64 0, .int .u64 0, .slice none 0 0] (0, 0) _ rfl (set6_heap HRD.out _ _ _ _ _ _) Tryz.underlying29 rfl (by kernel_rfl)) rfl ?_
              refine ⟨⟨0, 0, 0, 0, 0, none, 0, 0⟩, rfl, ?_, six_set HALL.out (by have := HDD.out; omega) _ _ _ _ _ _⟩
              rw [HR.out, HL0.out]
              exact kids_empty.tree 0 W4.zero zero_ok
            · have hNz : ((N : Int) == 0) = false := by simp; omega
              have c5 := refsome_any wr 4 0 HKJ.out (by omega)
              clear hN0 hrD
              go_wp2_with fail
              ((with_reducible refine c5.mono ?_))
              rintro _ w6 ⟨x, rfl, hx, hb6⟩
              obtain ⟨k, a, b, c, d, q6, m, cp6⟩ := x
              have h6D := (hb6.block D (Nat.lt_of_lt_of_le HDL.out (Nat.le_trans h12 HBj.out.size))).trans HRD.out
              have H6D := Lib.hid h6D
              have d0 : w6.cell? ⟨D, 0, none⟩ = some (.int .i64 0) := by simp [World.cell?, h6D]
              have d1 : w6.cell? ⟨D, 1, none⟩ = some (.int .u64 0) := by simp [World.cell?, h6D]
              have d2 : w6.cell? ⟨D, 2, none⟩ = some (.int .u64 0) := by simp [World.cell?, h6D]
              have d3 : w6.cell? ⟨D, 3, none⟩ = some (.int .u64 0) := by simp [World.cell?, h6D]
              have d4 : w6.cell? ⟨D, 4, none⟩ = some (.int .u64 0) := by simp [World.cell?, h6D]
              have d5 : w6.cell? ⟨D, 5, none⟩ = some (.slice none 0 0) := by simp [World.cell?, h6D]
              have f0 := frozen_no h6D 0
              have f1 := frozen_no h6D 1
              have f2 := frozen_no h6D 2
              have f3 := frozen_no h6D 3
              have f4 := frozen_no h6D 4
              have f5 := frozen_no h6D 5
              have HX := Lib.hid hx
              have HB6 := Lib.hid hb6
              clear hx hb6 h6D c5
              unfold ReV.val
              go_wp2
              refine bodyPost_ret_by (results_cell_row rfl _ _ D 29 #[.int .i64 k, .int .u64 a, .int .u64 b, .int .u64 c, .int .u64 d, .slice q6 m cp6] (0, 0) _ rfl (set6_heap H6D.out _ _ _ _ _ _) Tryz.underlying29 rfl (by kernel_rfl)) rfl ?_
              have hall : Below w.heap.size w w6 := HALL.out.trans (HB6.out.mono HALL.out.size)
              refine ⟨⟨k, a, b, c, d, q6, m, cp6⟩, rfl, ?_, six_set hall (by have := HDD.out; omega) _ _ _ _ _ _⟩
              rw [HR.out]
              refine HX.out.kept (Keeps.of (by simp [World.setCell]) fun b hp hl => ?_)
              have hbD : b ≠ D := by
                have h1 := HDD.out
                have h2 : w1.heap.size = D + 1 := by rw [HW1.out, h1]; simp
                rcases hp with ⟨_, hp⟩ | hp
                · omega
                · omega
              refine ⟨six_ne hbD _ _ _ _ _ _, ?_⟩
              rcases hp with ⟨hp, _⟩ | hp
              · exact .inl hp
              · exact .inr (Nat.le_trans HB1.out.size hp)
      · have hcz : CN > 0 := HPOS.out.2 hz
        have HBY : Hid (byteM F = [ofM ⟨a0, a1, a2, a3⟩]) := by unfold Hid; unfold byteM ofM; rw [← HU.out, if_neg hz, if_neg hz]
        have s0 : w5.cell? ⟨SB, 0, none⟩ = some (.int .u64 a0) := by simp [World.cell?, h5S]
        have s1 : w5.cell? ⟨SB, 1, none⟩ = some (.int .u64 a1) := by simp [World.cell?, h5S]
        have s2 : w5.cell? ⟨SB, 2, none⟩ = some (.int .u64 a2) := by simp [World.cell?, h5S]
        have s3 : w5.cell? ⟨SB, 3, none⟩ = some (.int .u64 a3) := by simp [World.cell?, h5S]
        have c7 := refofr_any (P := fun g => (P g ∧ g < w.heap.size) ∨ w1.heap.size ≤ g) w5 a0 a1 a2 a3 HOK.out
        clear hz h5S cont
        go_wp2_with fail
        ((with_reducible refine c7.mono ?_))
        rintro _ w6 ⟨x, rfl, hx, hb6⟩
        obtain ⟨k1, a1', b1, c1, d1, q1, m1, cp1⟩ := x
        have HX := Lib.hid hx
        have hB26 : Below w2.heap.size w2 w6 := HB5.out.trans (hb6.mono HB5.out.size)
        have HB6 := Lib.hid hB26
        have hw6 : w2.heap.size ≤ w6.heap.size := hB26.size
        have HOB : Hid ((w6.alloc (.cells #[.int .i64 k1, .int .u64 a1', .int .u64 b1, .int .u64 c1, .int .u64 d1, .slice q1 m1 cp1] 29)).ownsRow w2.heap.size 29 6 (.slice none 0 0) 0 []) := World.ownsRow_nil _ _ _ _
        clear hx hb6 hB26 c7 s0 s1 s2 s3
        unfold ReV.val
        go_wp2_with (at_builtin; go_loud (refine wpList_append_own_at _ rfl _ _ 27 rfl w2.heap.size 29 i0 _ 6 64 Tryz.underlying27 hi0 hz0 hz1 hz2 rfl (by decide) _ _ _ rfl HOB.out ⟨w6.heap.size, 0, none⟩ 1 1 [.int .i64 k1, .int .u64 a1', .int .u64 b1, .int .u64 c1, .int .u64 d1, .slice q1 m1 cp1] rfl rfl (new3 w6 #[.int .i64 k1, .int .u64 a1', .int .u64 b1, .int .u64 c1, .int .u64 d1, .slice q1 m1 cp1] 29 [.int .i64 k1, .int .u64 a1', .int .u64 b1, .int .u64 c1, .int .u64 d1, .slice q1 m1 cp1] rfl) ?c2 ?c3 ?c4 ?c5 ?_))
        case c2 => first | exact ⟨rfl, rfl, rfl, rfl, rfl, rfl⟩ | (intro x hx; simp at hx; rcases hx with rfl | rfl | rfl | rfl | rfl | rfl <;> rfl)
        case c3 => first | (unfold maxLen; omega) | decide
        case c4 => first | omega | decide
        case c5 => first | omega | (simp; omega)
        intro v' w7 hown hgrow _ hat
        obtain ⟨g4, cap4, rfl⟩ := (row_forms hown).resolve_left (fun h => by cases h.2)
        have hB67 : Below w6.heap.size w6 w7 := ((Below.refl _ _).alloc (Nat.le_refl _) _).grown hgrow (by simp) (fun r hr => by cases hr)
        have HB7 : Hid (Below w2.heap.size w2 w7) := HB6.out.trans (hB67.mono hw6)
        have HK7 : Hid (KidsR w7 (fun g => (P g ∧ g < w.heap.size) ∨ w1.heap.size ≤ g) (some ⟨g4, 0, none⟩) 1 cap4 [⟨k1, a1', b1, c1, d1, q1, m1, cp1⟩] (putsM (byteM F ++ othersM (F.take 0)))) := by
          unfold Hid
          rw [HBY.out]
          show KidsR w7 _ (some ⟨g4, 0, none⟩) 1 cap4 _ [ofM ⟨a0, a1, a2, a3⟩]
          have h1 : OwnRe w2 w7 (fun g => (P g ∧ g < w.heap.size) ∨ w1.heap.size ≤ g) (.slice (some ⟨g4, 0, none⟩) 1 cap4) [⟨k1, a1', b1, c1, d1, q1, m1, cp1⟩] [ofM ⟨a0, a1, a2, a3⟩] :=
            ⟨hown, rfl, fun i y t hy ht => by
              cases i with
              | zero => simp at hy ht; subst hy ht; exact HX.out.leaf (ofM_kids _)
              | succ i => simp at hy⟩
          obtain ⟨q', cp', e, h2⟩ := h1.slice HB7.out
          cases e
          exact h2.weakP fun b hb => by
            rcases hb with h | h
            · exact h
            · exact .inr (by omega)
        clear hown hgrow hat hB67
        go_wp2_with fail
        go_loopg [4, 7] n2 (fun gk v vi wr => ∃ (j : Nat) (q : Option Addr) (N cp : Nat) (us3 : List ReV), v = .slice q N cp ∧ vi = .int .i64 (j : Int) ∧ j ≤ n2 ∧ n2 - j ≤ gk ∧ N ≤ j + 1 ∧ Hid (Below w2.heap.size w2 wr) ∧ Hid (KidsR wr (fun g => (P g ∧ g < w.heap.size) ∨ w1.heap.size ≤ g) q N cp us3 (putsM (byteM F ++ othersM (F.take j)))) ∧ Hid (∀ t ∈ putsM (byteM F ++ othersM (F.take j)), t.sz ≤ 9000000000))
        case atStart =>
          refine ⟨0, some ⟨g4, 0, none⟩, 1, cap4, [⟨k1, a1', b1, c1, d1, q1, m1, cp1⟩], rfl, rfl, by omega, by omega, by omega, HB7.out, HK7.out, ?_⟩
          intro t ht
          rcases List.mem_append.1 ((puts_asc _).2 t ht) with h | h
          · unfold byteM at h
            split at h
            · simp at h
            · simp at h; subst h; rw [sz_mk]; decide
          · simp [othersM] at h
        case round =>
          obtain ⟨j, q0, N, cp0, us3, rfl, rfl, hj, hgk, hNj, HBj, HKj, HZj⟩ := hrel
          by_cases hlt : j < n2
          · have hltz : (j : Int) < (n2 : Int) := by omega
            obtain ⟨g, off, rfl⟩ := HK2.out.rowv.some_of hlt
            have hil : j < F.length := by rw [← HN2.out]; exact hlt
            obtain ⟨y, hy⟩ : ∃ y, us[j]? = some y := ⟨_, List.getElem?_eq_getElem (by rw [HK2.out.len]; exact hil)⟩
            obtain ⟨u, hu⟩ : ∃ u, F[j]? = some u := ⟨_, List.getElem?_eq_getElem hil⟩
            have hpl := HK2.out.place hy
            have hra := (HK2.out.each j y u hy hu).under HBj.out
            have hukd : u.kind = y.kind := by obtain ⟨_, et, _⟩ := hra.kids; rw [et]; rfl
            have htk := others_take F j u hu
            have husz := HFS.out u (List.mem_of_getElem? hu)
            have c8 := refput_any wr HKj.out y u hra (by omega) HZj.out husz
            obtain ⟨k, a, b, c, d, q, m, cp⟩ := y
            simp only at hukd
            unfold ReV.val at c8
            simp only at c8
            obtain ⟨p0, p1, p2, p3, p4, p5⟩ := (hpl.under HBj.out).six
            simp only at p0 p1 p2 p3 p4 p5
            have HTK := Lib.hid htk
            have HUK := Lib.hid hukd
            have HUZ := Lib.hid husz
            clear hpl hra hukd htk hy hu hil husz
            by_cases hk0 : k = 0
            · have HT : Hid (othersM (F.take (j + 1)) = othersM (F.take j)) := by unfold Hid; rw [HTK.out, if_pos (.inl (by rw [HUK.out]; exact hk0)), List.append_nil]
              clear c8
              subst hk0
              go_wp2
              go_roundg (n2 - (j + 1))
              case measure => omega
              case rel => exact ⟨j + 1, q0, N, cp0, us3, rfl, by go_num, by omega, Nat.le_refl _, by omega, HBj.out, by rw [HT.out]; exact HKj.out, by rw [HT.out]; exact HZj.out⟩
            · have z0 : (k == 0) = false := by simpa using hk0
              by_cases hk2 : k = 2
              · have HT : Hid (othersM (F.take (j + 1)) = othersM (F.take j)) := by unfold Hid; rw [HTK.out, if_pos (.inr (by rw [HUK.out]; exact hk2)), List.append_nil]
                clear c8 z0 hk0
                subst hk2
                go_wp2
                go_roundg (n2 - (j + 1))
                case measure => omega
                case rel => exact ⟨j + 1, q0, N, cp0, us3, rfl, by go_num, by omega, Nat.le_refl _, by omega, HBj.out, by rw [HT.out]; exact HKj.out, by rw [HT.out]; exact HZj.out⟩
              · have z2 : (k == 2) = false := by simpa using hk2
                have HT : Hid (putsM (byteM F ++ othersM (F.take (j + 1))) = putL txt u false (putsM (byteM F ++ othersM (F.take j)))) := by
                  unfold Hid
                  rw [HTK.out, if_neg (by rw [HUK.out]; omega), ← List.append_assoc, puts_snoc]
                have y0 : (k != 0) = true := by simpa using hk0
                have y2 : (k != 2) = true := by simpa using hk2
                go_wp2_with fail
                ((with_reducible refine c8.mono ?_))
                rintro _ w9 ⟨v9, us9, rfl, hO9, hb9⟩
                obtain ⟨q9, cp9, rfl, hk9⟩ := hO9.slice hb9
                have hlen9 : (putL txt u false (putsM (byteM F ++ othersM (F.take j)))).length ≤ N + 1 := by
                  have h1 : ∀ (pb : Bool) (L : List RT), (putL txt u pb L).length ≤ L.length + (if pb then 0 else 1) := by
                    intro pb L
                    induction L generalizing pb with
                    | nil => cases pb <;> simp [putL]
                    | cons x L ih =>
                      rw [putL]
                      have i1 := ih true
                      have i2 := ih pb
                      simp only [if_true] at i1
                      split
                      · simp only [List.length_cons]; omega
                      · split
                        · rename_i hc
                          rw [hc.2]
                          simp only [List.length_cons, Bool.false_eq_true, if_false]
                          omega
                        · simp only [List.length_cons]; omega
                  have := h1 false (putsM (byteM F ++ othersM (F.take j)))
                  have := HKj.out.num
                  simp at *
                  omega
                have HZ9 : Hid (∀ t ∈ putL txt u false (putsM (byteM F ++ othersM (F.take j))), t.sz ≤ 9000000000) := by
                  intro t ht
                  rcases putL_sub u false _ t ht with rfl | h
                  · exact HUZ.out
                  · exact HZj.out t h
                have HB9 : Hid (Below w2.heap.size w2 w9) := HBj.out.trans (hb9.mono HBj.out.size)
                have hwj : w1.heap.size ≤ wr.heap.size := Nat.le_trans h12 HBj.out.size
                have HK9 : Hid (KidsR w9 (fun g => (P g ∧ g < w.heap.size) ∨ w1.heap.size ≤ g) q9 (putL txt u false (putsM (byteM F ++ othersM (F.take j)))).length cp9 us9 (putL txt u false (putsM (byteM F ++ othersM (F.take j))))) := hk9.weakP fun b hb => by
                  rcases hb with h | h
                  · exact h
                  · exact .inr (by omega)
                obtain ⟨N9, hN9⟩ : ∃ N9, N9 = (putL txt u false (putsM (byteM F ++ othersM (F.take j)))).length := ⟨_, rfl⟩
                rw [← hN9] at HK9 hlen9 ⊢
                clear hO9 hb9 hk9 c8 hN9
                go_wp2
                go_roundg (n2 - (j + 1))
                case measure => omega
                case rel => exact ⟨j + 1, q9, N9, cp9, us9, rfl, by go_num, by omega, Nat.le_refl _, by omega, HB9.out, by rw [HT.out]; exact HK9.out, by rw [HT.out]; exact HZ9.out⟩
          · have hltz : ¬ (j : Int) < (n2 : Int) := by omega
            have eF : F.take j = F := List.take_of_length_le (by rw [← HN2.out]; omega)
            have hkj := HKj.out
            rw [eF] at hkj
            have hall : Below w.heap.size w wr := HB1.out.trans ((HB2.out.trans (HBj.out.mono HB2.out.size)).mono HB1.out.size)
            have hrD := (HBj.out.block D (Nat.lt_of_lt_of_le HDL.out h12)).trans H2D.out
            have HRD := Lib.hid hrD
            have HALL := Lib.hid hall
            have HKJ := Lib.hid hkj
            clear eF hkj hall
            by_cases hN0 : N = 0
            · have hNz : ((N : Int) == 0) = true := by simp [hN0]
              have HL0 : Hid (putsM (byteM F ++ othersM F) = []) := List.length_eq_zero_iff.1 (by rw [← HKJ.out.num]; exact hN0)
              have d0 : wr.cell? ⟨D, 0, none⟩ = some (.int .i64 0) := by simp [World.cell?, hrD]
              have d1 : wr.cell? ⟨D, 1, none⟩ = some (.int .u64 0) := by simp [World.cell?, hrD]
              have d2 : wr.cell? ⟨D, 2, none⟩ = some (.int .u64 0) := by simp [World.cell?, hrD]
              have d3 : wr.cell? ⟨D, 3, none⟩ = some (.int .u64 0) := by simp [World.cell?, hrD]
              have d4 : wr.cell? ⟨D, 4, none⟩ = some (.int .u64 0) := by simp [World.cell?, hrD]
              have d5 : wr.cell? ⟨D, 5, none⟩ = some (.slice none 0 0) := by simp [World.cell?, hrD]
              have f0 := frozen_no hrD 0
              have f1 := frozen_no hrD 1
              have f2 := frozen_no hrD 2
              have f3 := frozen_no hrD 3
              have f4 := frozen_no hrD 4
              have f5 := frozen_no hrD 5
              clear hN0 hrD
              go_wp2
              refine bodyPost_ret_by (results_cell_row rfl _ _ D 29 #[.int .i64 0, .int .u64 0, .int .u64 0, .int .u64 0, .int .u64 0, .slice none 0 0] (0, 0) _ rfl (set6_heap HRD.out _ _ _ _ _ _) Tryz.underlying29 rfl (by kernel_rfl)) rfl ?_
              refine ⟨⟨0, 0, 0, 0, 0, none, 0, 0⟩, rfl, ?_, six_set HALL.out (by have := HDD.out; omega) _ _ _ _ _ _⟩
              rw [HR.out, HL0.out]
              exact kids_empty.tree 0 W4.zero zero_ok
            · have hNz : ((N : Int) == 0) = false := by simp; omega
              have c5 := refsome_any wr 4 0 HKJ.out (by omega)
              clear hN0 hrD
              go_wp2_with fail
              ((with_reducible refine c5.mono ?_))
              rintro _ w6 ⟨x, rfl, hx, hb6⟩
              obtain ⟨k, a, b, c, d, q6, m, cp6⟩ := x
              have h6D := (hb6.block D (Nat.lt_of_lt_of_le HDL.out (Nat.le_trans h12 HBj.out.size))).trans HRD.out
              have H6D := Lib.hid h6D
              have d0 : w6.cell? ⟨D, 0, none⟩ = some (.int .i64 0) := by simp [World.cell?, h6D]
              have d1 : w6.cell? ⟨D, 1, none⟩ = some (.int .u64 0) := by simp [World.cell?, h6D]
              have d2 : w6.cell? ⟨D, 2, none⟩ = some (.int .u64 0) := by simp [World.cell?, h6D]
              have d3 : w6.cell? ⟨D, 3, none⟩ = some (.int .u64 0) := by simp [World.cell?, h6D]
              have d4 : w6.cell? ⟨D, 4, none⟩ = some (.int .u64 0) := by simp [World.cell?, h6D]
              have d5 : w6.cell? ⟨D, 5, none⟩ = some (.slice none 0 0) := by simp [World.cell?, h6D]
              have f0 := frozen_no h6D 0
              have f1 := frozen_no h6D 1
              have f2 := frozen_no h6D 2
              have f3 := frozen_no h6D 3
              have f4 := frozen_no h6D 4
              have f5 := frozen_no h6D 5
              have HX := Lib.hid hx
              have HB6 := Lib.hid hb6
              clear hx hb6 h6D c5
              unfold ReV.val
              go_wp2
              refine bodyPost_ret_by (results_cell_row rfl _ _ D 29 #[.int .i64 k, .int .u64 a, .int .u64 b, .int .u64 c, .int .u64 d, .slice q6 m cp6] (0, 0) _ rfl (set6_heap H6D.out _ _ _ _ _ _) Tryz.underlying29 rfl (by kernel_rfl)) rfl ?_
              have hall : Below w.heap.size w w6 := HALL.out.trans (HB6.out.mono HALL.out.size)
              refine ⟨⟨k, a, b, c, d, q6, m, cp6⟩, rfl, ?_, six_set hall (by have := HDD.out; omega) _ _ _ _ _ _⟩
              rw [HR.out]
              refine HX.out.kept (Keeps.of (by simp [World.setCell]) fun b hp hl => ?_)
              have hbD : b ≠ D := by
                have h1 := HDD.out
                have h2 : w1.heap.size = D + 1 := by rw [HW1.out, h1]; simp
                rcases hp with ⟨_, hp⟩ | hp
                · omega
                · omega
              refine ⟨six_ne hbD _ _ _ _ _ _, ?_⟩
              rcases hp with ⟨hp, _⟩ | hp
              · exact .inl hp
              · exact .inr (Nat.le_trans HB1.out.size hp)

end Go.Proofs.YtjeplmnjgdpgbaaGreatDoor

/-! The laws' letter, and expressions by numbers. No condition but how many numbers are taken. -/
namespace Go.Proofs.YtjeplmnjgdpgbaaGreatDoor
open Go.RowKit Go.Lib
set_option linter.unusedVariables false
set_option linter.unusedSimpArgs false

theorem let_set {r0 r1 r2 r3 lo hi : Int} (h : IsSet r0 r1 r2 r3 (rng lo hi)) : (⟨r0, r1, r2, r3⟩ : W4) = W4.of (letF lo hi) := by
  rw [isSet_of h]
  refine of_congr fun b _ => ?_
  unfold rng letF
  rw [Bool.decide_and]
set_option maxRecDepth 100000 in
set_option maxHeartbeats 4000000 in
theorem letter_any {P : Nat → Prop} (w : World) (lo hi : Int) : Calls Tryz.prog 33 #[.int .i64 lo, .int .i64 hi] w (GivesRe P (letM lo hi) w) := by
  obtain ⟨D, hD⟩ : ∃ D, D = w.heap.size := ⟨_, rfl⟩
  obtain ⟨w1, hw1⟩ : ∃ w1 : World, w1 = w.alloc (.cells #[.int .i64 0, .int .u64 0, .int .u64 0, .int .u64 0, .int .u64 0, .slice none 0 0] 29) := ⟨_, rfl⟩
  have hb1 : Below w.heap.size w w1 := by rw [hw1]; exact (Below.refl _ _).alloc (Nat.le_refl _) _
  have hnD : w1.heap[D]? = some (.cells #[.int .i64 0, .int .u64 0, .int .u64 0, .int .u64 0, .int .u64 0, .slice none 0 0] 29 (0, 0)) := by rw [hw1, hD]; exact heap_alloc_new _ _
  have hDl : D < w1.heap.size := (Array.getElem?_eq_some_iff.1 hnD).1
  have c1 := refof_any lo hi w1
  have HB1 := Lib.hid hb1
  have HND := Lib.hid hnD
  have HW1 := Lib.hid hw1
  have HDD := Lib.hid hD
  have HDL := Lib.hid hDl
  clear hb1 hw1 hD hDl hnD
  go_enter Tryz.func33, Tryz.ntmps33
  go_wp2_with fail
  rw [← HW1.out, ← HDD.out]
  ((with_reducible refine c1.mono ?_))
  rintro _ w2 ⟨r0, r1, r2, r3, hs, rfl, hb2⟩
  have h2D := (hb2.block D HDL.out).trans HND.out
  have H2D := Lib.hid h2D
  have d0 : w2.cell? ⟨D, 0, none⟩ = some (.int .i64 0) := by simp [World.cell?, h2D]
  have d1 : w2.cell? ⟨D, 1, none⟩ = some (.int .u64 0) := by simp [World.cell?, h2D]
  have d2 : w2.cell? ⟨D, 2, none⟩ = some (.int .u64 0) := by simp [World.cell?, h2D]
  have d3 : w2.cell? ⟨D, 3, none⟩ = some (.int .u64 0) := by simp [World.cell?, h2D]
  have d4 : w2.cell? ⟨D, 4, none⟩ = some (.int .u64 0) := by simp [World.cell?, h2D]
  have d5 : w2.cell? ⟨D, 5, none⟩ = some (.slice none 0 0) := by simp [World.cell?, h2D]
  have f0 := frozen_no h2D 0
  have f1 := frozen_no h2D 1
  have f2 := frozen_no h2D 2
  have f3 := frozen_no h2D 3
  have f4 := frozen_no h2D 4
  have f5 := frozen_no h2D 5
  have HS := Lib.hid hs
  have HB2 := Lib.hid hb2
  clear hs hb2 h2D c1
  go_wp2
  refine bodyPost_ret_by (results_cell_row rfl _ _ D 29 #[.int .i64 2, .int .u64 r0, .int .u64 r1, .int .u64 r2, .int .u64 r3, .slice none 0 0] (0, 0) _ rfl (set6_heap H2D.out _ _ _ _ _ _) Tryz.underlying29 rfl (by kernel_rfl)) rfl ?_
  refine ⟨⟨2, r0, r1, r2, r3, none, 0, 0⟩, rfl, ?_, six_set (HB1.out.trans (HB2.out.mono HB1.out.size)) (by have := HDD.out; omega) _ _ _ _ _ _⟩
  have e : letM lo hi = .mk 2 ⟨r0, r1, r2, r3⟩ [] := by unfold letM; rw [let_set HS.out]
  rw [e]
  exact kids_empty.tree 2 ⟨r0, r1, r2, r3⟩ (by rw [let_set HS.out]; exact of_ok _)

/-- The call answers this expression, in blocks of its own, and has taken so many numbers. -/
def GivesP (R : Nat) (v : Value) (zs : List Int) (t : RT) (a : Nat) (w : World) (e : Ending) (w' : World) : Prop :=
  ∃ x : ReV, e = .returned x.val ∧ RAt w' (fun b => w.heap.size ≤ b) x t ∧ PickAt w' R v zs a ∧ w.grownBy w' (some R)
/-- Likewise of a row of them, which lies apart. -/
def GivesL (R : Nat) (v : Value) (zs : List Int) (l : List RT) (a : Nat) (w : World) (e : Ending) (w' : World) : Prop :=
  ∃ (q : Option Addr) (n cp : Nat) (us : List ReV), e = .returned (.slice q n cp) ∧ n = l.length ∧ w'.ownsRow w.heap.size 29 6 (.slice q n cp) n (us.flatMap ReV.cells) ∧ us.length = n ∧
    (∀ (i : Nat) (y : ReV) (t : RT), us[i]? = some y → l[i]? = some t → RAt w' (fun b => w.heap.size ≤ b ∧ (Value.slice q n cp).ownBlock ≠ some b) y t) ∧ PickAt w' R v zs a ∧ w.grownBy w' (some R)
theorem keeps_grown {W W' : World} {R : Nat} {P : Nat → Prop} (hg : W.grownBy W' (some R)) (hP : ∀ b, P b → b ≠ R) : Keeps W W' P P :=
  Keeps.of hg.size fun b hb hl => ⟨hg.block b hl (fun e => hP b hb (by cases e; rfl)), hb⟩
theorem grown_one {w W : World} {r : Option Nat} {D : Nat} (h : w.grownBy W r) (hD : w.heap.size ≤ D) (o : Nat) (v : Value) : w.grownBy (W.setCell ⟨D, o, none⟩ v) r :=
  ⟨h.os, h.tape, h.output, by simpa [World.setCell] using h.size, fun b hl hne => (Below.heap_setCell _ _ _ _ (by show b ≠ D; omega)).trans (h.block b hl hne)⟩
theorem grown_six {w W : World} {r : Option Nat} {D : Nat} (h : w.grownBy W r) (hD : w.heap.size ≤ D) (a b c d e f : Value) :
    w.grownBy ((((((W.setCell ⟨D, 0, none⟩ a).setCell ⟨D, 1, none⟩ b).setCell ⟨D, 2, none⟩ c).setCell ⟨D, 3, none⟩ d).setCell ⟨D, 4, none⟩ e).setCell ⟨D, 5, none⟩ f) r :=
  grown_one (grown_one (grown_one (grown_one (grown_one (grown_one h hD _ _) hD _ _) hD _ _) hD _ _) hD _ _) hD _ _
theorem own_grownR {W W' : World} {base n R : Nat} {v : Value} {xs : List Value} (h : W.ownsRow base 29 6 v n xs) (hg : W.grownBy W' (some R)) (hR : R < base) : W'.ownsRow base 29 6 v n xs := by
  rcases row_forms h with ⟨rfl, h0⟩ | ⟨g, cp, rfl⟩
  · exact ⟨h.1, .inl ⟨rfl, h0⟩⟩
  · have h1 := row_base h
    exact own_at h (hg.block g h1.2.2.2 (fun e => by cases e; omega))

set_option maxRecDepth 100000 in
set_option maxHeartbeats 8000000 in
theorem some_any {R : Nat} {v : Value} {zs : List Int} {f : Nat → RT × Nat} {dz : Int} {M B : Nat} (hf : ∀ a, a ≤ (f a).2 ∧ (f a).2 ≤ a + B)
    (hc : ∀ (w : World) (a : Nat), PickAt w R v zs a → a ≤ M → Calls Tryz.prog 16 #[.pointer (some ⟨R, 0, none⟩), .int .i64 dz] w (GivesP R v zs (f a).1 (f a).2 w)) (w : World) (n a : Nat) (hp : PickAt w R v zs a) (hn : n ≤ 10) (ha : a + n * B ≤ M) :
    Calls Tryz.prog 34 #[.pointer (some ⟨R, 0, none⟩), .int .i64 (n : Int), .int .i64 dz] w (GivesL R v zs (listR f n a).1 (listR f n a).2 w) := by
  obtain ⟨i0, hi0, hz0, hz1, hz2⟩ := re_parts
  have hRw : R < w.heap.size := hp.lt
  have HC := Lib.hid hc
  have HP0 := Lib.hid hp
  have HA : Hid (∀ i, i ≤ n → (listR f i a).2 ≤ M) := fun i hi => by
    have := (listR_num hf i a).2
    have : i * B ≤ n * B := Nat.mul_le_mul_right _ hi
    omega
  clear hc hp ha hf
  go_enter Tryz.func34, Tryz.ntmps34
  go_wp2_with fail
  go_loopg [7, 8] n (fun gk vv vi wr => ∃ (i : Nat) (q : Option Addr) (N cp : Nat) (us : List ReV), vv = .slice q N cp ∧ vi = .int .i64 (i : Int) ∧ i ≤ n ∧ n - i ≤ gk ∧ N = i ∧ Hid (wr.ownsRow w.heap.size 29 6 (.slice q N cp) N (us.flatMap ReV.cells)) ∧ Hid (us.length = N) ∧
    Hid (∀ (j : Nat) (y : ReV) (t : RT), us[j]? = some y → (listR f i a).1[j]? = some t → RAt wr (fun b => w.heap.size ≤ b ∧ (Value.slice q N cp).ownBlock ≠ some b) y t) ∧ Hid (PickAt wr R v zs (listR f i a).2) ∧ Hid (w.grownBy wr (some R)))
  case atStart => exact ⟨0, none, 0, 0, [], rfl, rfl, by omega, by omega, rfl, World.ownsRow_nil _ _ _ _, rfl, fun j y t hy => by simp at hy, HP0.out, grown_refl _ _⟩
  case round =>
    obtain ⟨i, q0, N, cp0, us, rfl, rfl, hi, hgk, hN, HO, HL, HE, HP, HG⟩ := hrel
    subst hN
    by_cases hlt : N < n
    · have hltz : (N : Int) < (n : Int) := by omega
      have c1 := HC.out wr _ HP.out (HA.out N hi)
      go_wp2_with fail
      ((with_reducible refine c1.mono ?_))
      rintro _ w1 ⟨x, rfl, hx, hp1, hg1⟩
      obtain ⟨k, a0, b, c, dw, q, m, cp⟩ := x
      have hwr : w.heap.size ≤ wr.heap.size := HG.out.size
      have hw1 : w.heap.size ≤ w1.heap.size := Nat.le_trans hwr hg1.size
      have HO1 : Hid (w1.ownsRow w.heap.size 29 6 (.slice q0 N cp0) N (us.flatMap ReV.cells)) := own_grownR HO.out hg1 hRw
      have HOB : Hid ((w1.alloc (.cells #[.int .i64 k, .int .u64 a0, .int .u64 b, .int .u64 c, .int .u64 dw, .slice q m cp] 29)).ownsRow w.heap.size 29 6 (.slice q0 N cp0) N (us.flatMap ReV.cells)) := HO1.out.alloc _
      have HE1 : Hid (∀ (j : Nat) (y : ReV) (t : RT), us[j]? = some y → (listR f N a).1[j]? = some t → RAt w1 (fun b => w.heap.size ≤ b ∧ (Value.slice q0 N cp0).ownBlock ≠ some b) y t) := fun j y t hy ht => (HE.out j y t hy ht).kept (keeps_grown hg1 fun b hb => by omega)
      have HX : Hid (RAt w1 (fun b => w.heap.size ≤ b ∧ (Value.slice q0 N cp0).ownBlock ≠ some b) ⟨k, a0, b, c, dw, q, m, cp⟩ (f (listR f N a).2).1) := hx.weak fun b hb _ => by
        refine ⟨by omega, fun e => ?_⟩
        rcases row_forms HO.out with ⟨e2, _⟩ | ⟨g, cp', e2⟩
        · rw [e2] at e; cases e
        · have h1 := HO.out
          rw [e2] at h1 e
          have := (row_base h1).2.2.2
          have : g = b := by simpa [Value.ownBlock] using e
          omega
      have HP1 := Lib.hid hp1
      have HG1 : Hid (w.grownBy w1 (some R)) := HG.out.trans hg1
      clear hx hp1 hg1 c1
      unfold ReV.val
      go_wp2_with (at_builtin; go_loud (refine wpList_append_own_at _ rfl _ _ 27 rfl w.heap.size 29 i0 _ 6 64 Tryz.underlying27 hi0 hz0 hz1 hz2 rfl (by decide) _ _ _ rfl HOB.out ⟨w1.heap.size, 0, none⟩ 1 1 [.int .i64 k, .int .u64 a0, .int .u64 b, .int .u64 c, .int .u64 dw, .slice q m cp] rfl rfl (new3 w1 #[.int .i64 k, .int .u64 a0, .int .u64 b, .int .u64 c, .int .u64 dw, .slice q m cp] 29 [.int .i64 k, .int .u64 a0, .int .u64 b, .int .u64 c, .int .u64 dw, .slice q m cp] rfl) ?c2 ?c3 ?c4 ?c5 ?_))
      case c2 => first | exact ⟨rfl, rfl, rfl, rfl, rfl, rfl⟩ | (intro x hx; simp at hx; rcases hx with rfl | rfl | rfl | rfl | rfl | rfl <;> rfl)
      case c3 => unfold maxLen; omega
      case c4 => omega
      case c5 => first | omega | (simp; omega)
      intro v' w4 hown hgrow _ hat
      have HOWN := Lib.hid hown
      have HGR := Lib.hid hgrow
      have HAT := Lib.hid hat
      obtain ⟨g4, cap4, rfl⟩ := (row_forms hown).resolve_left (fun h => by cases h.2)
      clear hown hgrow hat
      go_wp2
      go_roundg (n - (N + 1))
      case measure => omega
      case rel =>
        have keep : ∀ (y : ReV) (t : RT), RAt w1 (fun b => w.heap.size ≤ b ∧ (Value.slice q0 N cp0).ownBlock ≠ some b) y t → RAt w4 (fun b => w.heap.size ≤ b ∧ (Value.slice (some ⟨g4, 0, none⟩) (N + 1) cap4).ownBlock ≠ some b) y t := by
          intro y t hr
          refine hr.kept (Keeps.of (Nat.le_trans (by simp) HGR.out.size) fun b hb hl => ?_)
          refine ⟨(HGR.out.block b (by simp; omega) (fun e => hb.2 e.symm)).trans (@heap_alloc_old _ _ _ hl), hb.1, fun e => ?_⟩
          rcases HAT.out with h | h
          · exact hb.2 (h.symm.trans e)
          · rw [h] at e
            have : w1.heap.size + 1 = b := by simpa using e
            omega
        refine ⟨N + 1, some ⟨g4, 0, none⟩, N + 1, cap4, us ++ [(⟨k, a0, b, c, dw, q, m, cp⟩ : ReV)], rfl, by go_num, by omega, Nat.le_refl _, rfl, ?_, ?_, ?_, ?_, ?_⟩
        · unfold Hid
          rw [List.flatMap_append]
          exact HOWN.out
        · unfold Hid
          rw [List.length_append, HL.out]
          rfl
        · intro j y t hy ht
          rw [listR] at ht
          by_cases hj : j < us.length
          · rw [List.getElem?_append_left hj] at hy
            rw [List.getElem?_append_left (by rw [listR_len, ← HL.out]; exact hj)] at ht
            exact keep y t (HE1.out j y t hy ht)
          · rw [List.getElem?_append_right (by omega)] at hy
            rw [List.getElem?_append_right (by rw [listR_len, ← HL.out]; omega), listR_len] at ht
            have eL := HL.out
            cases e : j - us.length with
            | zero =>
              have e2 : j - N = 0 := by omega
              rw [e] at hy
              rw [e2] at ht
              simp at hy ht
              subst hy ht
              exact keep _ _ HX.out
            | succ j2 => rw [e] at hy; simp at hy
        · rw [listR]
          refine HP1.out.kept fun b hb => ?_
          refine (HGR.out.block b (by have := HP1.out.lt; simp; omega) (fun e => ?_)).trans (@heap_alloc_old _ _ _ (by have := HP1.out.lt; omega))
          have := own_above HO1.out b e.symm
          omega
        · refine ⟨HGR.out.os.trans HG1.out.os, HGR.out.tape.trans HG1.out.tape, HGR.out.output.trans HG1.out.output, Nat.le_trans HG1.out.size (Nat.le_trans (by simp) HGR.out.size), fun b hl hne => ?_⟩
          refine (HGR.out.block b (by simp; omega) (fun e => ?_)).trans ((@heap_alloc_old _ _ _ (by omega)).trans (HG1.out.block b hl hne))
          have := own_above HO1.out b e.symm
          omega
    · have hltz : ¬ (N : Int) < (n : Int) := by omega
      obtain rfl : N = n := by omega
      go_wp2
      go_ret
      exact ⟨q0, N, cp0, us, rfl, (listR_len f N a).symm, HO.out, HL.out, HE.out, HP.out, HG.out⟩

def leafOk (k : Nat) : Prop := k < 5
set_option maxRecDepth 100000 in
set_option maxHeartbeats 16000000 in
theorem re_any {R : Nat} {v : Value} {zs : List Int} : ∀ (d : Nat), d ≤ 4 → ∀ (w : World) (a : Nat), PickAt w R v zs a → a ≤ 900000 - 8 ^ (d + 1) → Calls Tryz.prog 16 #[.pointer (some ⟨R, 0, none⟩), .int .i64 (d : Int)] w (GivesP R v zs (reM zs d a).1 (reM zs d a).2 w) := by
  intro d
  induction d with
  | zero =>
    intro _ w a hp ha
    have ha : a ≤ 899992 := by omega
    have hRw := hp.lt
    obtain ⟨T, hT⟩ : ∃ T, T = reM zs 0 a := ⟨_, rfl⟩
    rw [← hT]
    have HT : Hid (T = leafM zs (pickF zs a 11 % 5) (a + 1)) := by unfold Hid; rw [hT, reM]
    clear hT
    obtain ⟨D, hD⟩ : ∃ D, D = w.heap.size := ⟨_, rfl⟩
    obtain ⟨w1, hw1⟩ : ∃ w1 : World, w1 = w.alloc (.cells #[.int .i64 0, .int .u64 0, .int .u64 0, .int .u64 0, .int .u64 0, .slice none 0 0] 29) := ⟨_, rfl⟩
    have HW1 := Lib.hid hw1
    have HDD := Lib.hid hD
    have hp1 : PickAt w1 R v zs a := by rw [hw1]; exact hp.alloc _
    have HG1 : Hid (w.grownBy w1 (some R)) := by unfold Hid; rw [hw1]; exact World.grownBy_alloc w _ _
    have hnD : w1.heap[D]? = some (.cells #[.int .i64 0, .int .u64 0, .int .u64 0, .int .u64 0, .int .u64 0, .slice none 0 0] 29 (0, 0)) := by rw [hw1, hD]; exact heap_alloc_new _ _
    have hDl : D < w1.heap.size := (Array.getElem?_eq_some_iff.1 hnD).1
    have HND := Lib.hid hnD
    have c1 := picknum_any (n := 11) hp1 (by omega) (by decide)
    unfold Picks at c1
    clear hp hp1 hw1 hD hnD
    go_enter Tryz.func16, Tryz.ntmps16
    go_wp2_with fail
    rw [← HW1.out, ← HDD.out]
    ((with_reducible refine c1.mono ?_))
    rintro _ w3 ⟨rfl, hp3, hg3⟩
    have hDR : R ≠ D := by have := HDD.out; omega
    have H3D : Hid (w3.heap[D]? = some (.cells #[.int .i64 0, .int .u64 0, .int .u64 0, .int .u64 0, .int .u64 0, .slice none 0 0] 29 (0, 0))) := (hg3.block D hDl (fun e => by cases e; exact hDR rfl)).trans HND.out
    have HDL3 : Hid (D < w3.heap.size) := Nat.lt_of_lt_of_le hDl hg3.size
    have HP3 := Lib.hid hp3
    have HG3 : Hid (w.grownBy w3 (some R)) := HG1.out.trans hg3
    clear hp3 hg3 c1 hDl hDR
    have hK5 : pickF zs a 11 % 5 < 5 := Nat.mod_lt _ (by decide)
    obtain ⟨K, hK⟩ : ∃ K, K = pickF zs a 11 % 5 := ⟨_, rfl⟩
    have hmod : (pickF zs a 11 : Int) % 5 = (K : Int) := by omega
    rw [← hK] at hK5 HT
    clear hK
    by_cases h4 : K < 4
    · have h4z : (K : Int) < 4 := by omega
      have c2 := picknum_any (n := 3) HP3.out (by omega) (by decide)
      unfold Picks at c2
      have hm3 := pick3 zs (a + 1)
      obtain ⟨M, hM⟩ : ∃ M, M = pickF zs (a + 1) 3 := ⟨_, rfl⟩
      obtain ⟨M2, hM2⟩ : ∃ M2, M2 = pickF zs (a + 2) 4 := ⟨_, rfl⟩
      have hm4 := pick4 zs (a + 2)
      have HTT : Hid (T = (letM (97 + (M : Int)) (97 + (M : Int) + (M2 : Int) / 3), a + 1 + 2)) := by unfold Hid; rw [HT.out, leafM, if_pos h4, hM, hM2]
      rw [← hM] at c2 hm3
      rw [← hM2] at hm4
      have HM2 := Lib.hid hM2
      clear hM hM2 h4 hK5 HT
      have HT := HTT
      clear HTT
      go_wp2_with fail
      ((with_reducible refine c2.mono ?_))
      rintro _ w4 ⟨rfl, hp4, hg4⟩
      have c3 := picknum_any (n := 4) hp4 (by omega) (by decide)
      unfold Picks at c3
      rw [show a + 1 + 1 = a + 2 from rfl, ← HM2.out] at c3
      have hDR : R ≠ D := by have := HDD.out; omega
      have H4D : Hid (w4.heap[D]? = some (.cells #[.int .i64 0, .int .u64 0, .int .u64 0, .int .u64 0, .int .u64 0, .slice none 0 0] 29 (0, 0))) := (hg4.block D HDL3.out (fun e => by cases e; exact hDR rfl)).trans H3D.out
      have HG4 : Hid (w.grownBy w4 (some R)) := HG3.out.trans hg4
      have hw34 : w3.heap.size ≤ w4.heap.size := hg4.size
      clear hp4 hg4 c2
      go_wp2_with fail
      ((with_reducible refine c3.mono ?_))
      rintro _ w6 ⟨rfl, hp6, hg6⟩
      have c9 := letter_any (P := fun b => w6.heap.size ≤ b ∨ w6.heap.size ≤ b) w6 (97 + (M : Int)) (97 + (M : Int) + (M2 : Int) / 3)
      have H6D : Hid (w6.heap[D]? = some (.cells #[.int .i64 0, .int .u64 0, .int .u64 0, .int .u64 0, .int .u64 0, .slice none 0 0] 29 (0, 0))) := (hg6.block D (Nat.lt_of_lt_of_le HDL3.out hw34) (fun e => by cases e; exact hDR rfl)).trans H4D.out
      have HP6 := Lib.hid hp6
      have HG6 : Hid (w.grownBy w6 (some R)) := HG4.out.trans hg6
      have hw4 : w3.heap.size ≤ w6.heap.size := Nat.le_trans hw34 hg6.size
      clear hp6 hg6 c3 H4D HG4
      go_wp2_with fail
      ((with_reducible refine c9.mono ?_))
      rintro _ w5 ⟨x5, rfl, hx5, hb5⟩
      clear c9
      obtain ⟨k, a0, b, c, dw, q, m, cp⟩ := x5
      have h5D := (hb5.block D (Nat.lt_of_lt_of_le HDL3.out hw4)).trans H6D.out
      have H5D := Lib.hid h5D
      have d0 : w5.cell? ⟨D, 0, none⟩ = some (.int .i64 0) := by simp [World.cell?, h5D]
      have d1 : w5.cell? ⟨D, 1, none⟩ = some (.int .u64 0) := by simp [World.cell?, h5D]
      have d2 : w5.cell? ⟨D, 2, none⟩ = some (.int .u64 0) := by simp [World.cell?, h5D]
      have d3 : w5.cell? ⟨D, 3, none⟩ = some (.int .u64 0) := by simp [World.cell?, h5D]
      have d4 : w5.cell? ⟨D, 4, none⟩ = some (.int .u64 0) := by simp [World.cell?, h5D]
      have d5 : w5.cell? ⟨D, 5, none⟩ = some (.slice none 0 0) := by simp [World.cell?, h5D]
      have f0 := frozen_no h5D 0
      have f1 := frozen_no h5D 1
      have f2 := frozen_no h5D 2
      have f3 := frozen_no h5D 3
      have f4 := frozen_no h5D 4
      have f5 := frozen_no h5D 5
      have HX5 := Lib.hid hx5
      have HB5 := Lib.hid hb5
      clear hx5 hb5 h5D
      unfold ReV.val
      go_wp2
      refine bodyPost_ret_by (results_cell_row rfl _ _ D 29 #[.int .i64 k, .int .u64 a0, .int .u64 b, .int .u64 c, .int .u64 dw, .slice q m cp] (0, 0) _ rfl (set6_heap H5D.out _ _ _ _ _ _) Tryz.underlying29 rfl (by kernel_rfl)) rfl ?_
      rw [HT.out]
      refine ⟨⟨k, a0, b, c, dw, q, m, cp⟩, rfl, ?_, ?_, ?_⟩
      · refine HX5.out.kept (Keeps.of (by simp [World.setCell]) fun b hp hl => ?_)
        have h1 := HDL3.out
        have h2 := HDD.out
        have hbD : b ≠ D := by
          rcases hp with hp | hp
          · omega
          · omega
        exact ⟨six_ne hbD _ _ _ _ _ _, by rcases hp with hp | hp <;> omega⟩
      · refine HP6.out.kept fun b hb => ?_
        have h1 := HDD.out
        rw [six_ne (by omega)]
        exact HB5.out.block b (by have := HP6.out.lt; omega)
      · have hg5 := HG6.out.trans (grown_of (r := some R) HB5.out)
        exact grown_six hg5 (by have := HDD.out; omega) _ _ _ _ _ _
    · have h4z : ¬ (K : Int) < 4 := by omega
      have hK4 : (K : Int) = 4 := by omega
      have c2 := picknum_any (n := 4) HP3.out (by omega) (by decide)
      unfold Picks at c2
      have hm4 := pick4 zs (a + 1)
      obtain ⟨M, hM⟩ : ∃ M, M = pickF zs (a + 1) 4 := ⟨_, rfl⟩
      have HTT : Hid (T = (.mk ((M : Int) / 3) W4.zero [], a + 1 + 1)) := by unfold Hid; rw [HT.out, leafM, if_neg h4, hM]
      rw [← hM] at c2 hm4
      clear hM h4 hK5 HT
      have HT := HTT
      clear HTT
      go_wp2_with fail
      ((with_reducible refine c2.mono ?_))
      rintro _ w4 ⟨rfl, hp4, hg4⟩
      have hDR : R ≠ D := by have := HDD.out; omega
      have h4D : w4.heap[D]? = some (.cells #[.int .i64 0, .int .u64 0, .int .u64 0, .int .u64 0, .int .u64 0, .slice none 0 0] 29 (0, 0)) := (hg4.block D HDL3.out (fun e => by cases e; exact hDR rfl)).trans H3D.out
      have H4D := Lib.hid h4D
      have HP4 := Lib.hid hp4
      have HG4 : Hid (w.grownBy w4 (some R)) := HG3.out.trans hg4
      have d0 : w4.cell? ⟨D, 0, none⟩ = some (.int .i64 0) := by simp [World.cell?, h4D]
      have d1 : w4.cell? ⟨D, 1, none⟩ = some (.int .u64 0) := by simp [World.cell?, h4D]
      have d2 : w4.cell? ⟨D, 2, none⟩ = some (.int .u64 0) := by simp [World.cell?, h4D]
      have d3 : w4.cell? ⟨D, 3, none⟩ = some (.int .u64 0) := by simp [World.cell?, h4D]
      have d4 : w4.cell? ⟨D, 4, none⟩ = some (.int .u64 0) := by simp [World.cell?, h4D]
      have d5 : w4.cell? ⟨D, 5, none⟩ = some (.slice none 0 0) := by simp [World.cell?, h4D]
      have f0 := frozen_no h4D 0
      have f1 := frozen_no h4D 1
      have f2 := frozen_no h4D 2
      have f3 := frozen_no h4D 3
      have f4 := frozen_no h4D 4
      have f5 := frozen_no h4D 5
      clear hp4 hg4 c2 h4D
      go_wp2
      refine bodyPost_ret_by (results_cell_row rfl _ _ D 29 #[.int .i64 ((M : Int) / 3), .int .u64 0, .int .u64 0, .int .u64 0, .int .u64 0, .slice none 0 0] (0, 0) _ rfl (set6_heap H4D.out _ _ _ _ _ _) Tryz.underlying29 rfl (by kernel_rfl)) rfl ?_
      rw [HT.out]
      refine ⟨⟨(M : Int) / 3, 0, 0, 0, 0, none, 0, 0⟩, rfl, ?_, ?_, ?_⟩
      · exact kids_empty.tree ((M : Int) / 3) W4.zero zero_ok
      · refine HP4.out.kept fun b hb => ?_
        have h1 := HDD.out
        rw [six_ne (by omega)]
      · exact grown_six HG4.out (by have := HDD.out; omega) _ _ _ _ _ _
  | succ d ih =>
    intro hd w a hp ha
    have e8 : 8 ^ (d + 1 + 1) = 8 * 8 ^ (d + 1) := by rw [Nat.pow_succ 8 (d + 1), Nat.mul_comm]
    have hp8 : 1 ≤ 8 ^ (d + 1) := Nat.pow_pos (by decide)
    have hp9 : 8 ^ (d + 1) ≤ 4096 := Nat.pow_le_pow_right (by decide) (by omega : d + 1 ≤ 4)
    have hRw := hp.lt
    obtain ⟨T, hT⟩ : ∃ T, T = reM zs (d + 1) a := ⟨_, rfl⟩
    rw [← hT]
    rw [reM] at hT
    have HT := Lib.hid hT
    have HIH : Hid (∀ (w : World) (a : Nat), PickAt w R v zs a → a ≤ 900000 - 8 ^ (d + 1) → Calls Tryz.prog 16 #[.pointer (some ⟨R, 0, none⟩), .int .i64 (d : Int)] w (GivesP R v zs (reM zs d a).1 (reM zs d a).2 w)) := fun w a h1 h2 => ih (by omega) w a h1 h2
    have HB8 : Hid (8 ^ (d + 1) ≤ 4096 ∧ a + 8 * 8 ^ (d + 1) ≤ 900000) := ⟨hp9, by omega⟩
    have ha : a ≤ 899992 := by omega
    have hdz : ¬ ((d : Int) + 1 < 1) := by omega
    have ed : ((d + 1 : Nat) : Int) = (d : Int) + 1 := by omega
    rw [ed]
    clear hT ih e8 hp8 hp9 ed
    obtain ⟨D, hD⟩ : ∃ D, D = w.heap.size := ⟨_, rfl⟩
    obtain ⟨w1, hw1⟩ : ∃ w1 : World, w1 = w.alloc (.cells #[.int .i64 0, .int .u64 0, .int .u64 0, .int .u64 0, .int .u64 0, .slice none 0 0] 29) := ⟨_, rfl⟩
    have HW1 := Lib.hid hw1
    have HDD := Lib.hid hD
    have hp1 : PickAt w1 R v zs a := by rw [hw1]; exact hp.alloc _
    have HG1 : Hid (w.grownBy w1 (some R)) := by unfold Hid; rw [hw1]; exact World.grownBy_alloc w _ _
    have hnD : w1.heap[D]? = some (.cells #[.int .i64 0, .int .u64 0, .int .u64 0, .int .u64 0, .int .u64 0, .slice none 0 0] 29 (0, 0)) := by rw [hw1, hD]; exact heap_alloc_new _ _
    have hDl : D < w1.heap.size := (Array.getElem?_eq_some_iff.1 hnD).1
    have HND := Lib.hid hnD
    have c1 := picknum_any (n := 11) hp1 (by omega) (by decide)
    unfold Picks at c1
    clear hp hp1 hw1 hD hnD
    go_enter Tryz.func16, Tryz.ntmps16
    go_wp2_with fail
    rw [← HW1.out, ← HDD.out]
    ((with_reducible refine c1.mono ?_))
    rintro _ w3 ⟨rfl, hp3, hg3⟩
    have hDR : R ≠ D := by have := HDD.out; omega
    have H3D : Hid (w3.heap[D]? = some (.cells #[.int .i64 0, .int .u64 0, .int .u64 0, .int .u64 0, .int .u64 0, .slice none 0 0] 29 (0, 0))) := (hg3.block D hDl (fun e => by cases e; exact hDR rfl)).trans HND.out
    have HDL3 : Hid (D < w3.heap.size) := Nat.lt_of_lt_of_le hDl hg3.size
    have HP3 := Lib.hid hp3
    have HG3 : Hid (w.grownBy w3 (some R)) := HG1.out.trans hg3
    clear hp3 hg3 c1 hDl hDR
    by_cases hlt : pickF zs a 11 < 5
    · have hK5 := hlt
      obtain ⟨K, hK⟩ : ∃ K, K = pickF zs a 11 := ⟨_, rfl⟩
      have HT2 : Hid (T = leafM zs K (a + 1)) := by unfold Hid; rw [HT.out, if_pos hlt, hK]
      rw [← hK] at hK5 ⊢
      clear hK hlt HT
      have HT := HT2
      clear HT2
      by_cases h4 : K < 4
      · have h4z : (K : Int) < 4 := by omega
        have c2 := picknum_any (n := 3) HP3.out (by omega) (by decide)
        unfold Picks at c2
        have hm3 := pick3 zs (a + 1)
        obtain ⟨M, hM⟩ : ∃ M, M = pickF zs (a + 1) 3 := ⟨_, rfl⟩
        obtain ⟨M2, hM2⟩ : ∃ M2, M2 = pickF zs (a + 2) 4 := ⟨_, rfl⟩
        have hm4 := pick4 zs (a + 2)
        have HTT : Hid (T = (letM (97 + (M : Int)) (97 + (M : Int) + (M2 : Int) / 3), a + 1 + 2)) := by unfold Hid; rw [HT.out, leafM, if_pos h4, hM, hM2]
        rw [← hM] at c2 hm3
        rw [← hM2] at hm4
        have HM2 := Lib.hid hM2
        clear hM hM2 h4 hK5 HT
        have HT := HTT
        clear HTT
        go_wp2_with fail
        ((with_reducible refine c2.mono ?_))
        rintro _ w4 ⟨rfl, hp4, hg4⟩
        have c3 := picknum_any (n := 4) hp4 (by omega) (by decide)
        unfold Picks at c3
        rw [show a + 1 + 1 = a + 2 from rfl, ← HM2.out] at c3
        have hDR : R ≠ D := by have := HDD.out; omega
        have H4D : Hid (w4.heap[D]? = some (.cells #[.int .i64 0, .int .u64 0, .int .u64 0, .int .u64 0, .int .u64 0, .slice none 0 0] 29 (0, 0))) := (hg4.block D HDL3.out (fun e => by cases e; exact hDR rfl)).trans H3D.out
        have HG4 : Hid (w.grownBy w4 (some R)) := HG3.out.trans hg4
        have hw34 : w3.heap.size ≤ w4.heap.size := hg4.size
        clear hp4 hg4 c2
        go_wp2_with fail
        ((with_reducible refine c3.mono ?_))
        rintro _ w6 ⟨rfl, hp6, hg6⟩
        have c9 := letter_any (P := fun b => w6.heap.size ≤ b ∨ w6.heap.size ≤ b) w6 (97 + (M : Int)) (97 + (M : Int) + (M2 : Int) / 3)
        have H6D : Hid (w6.heap[D]? = some (.cells #[.int .i64 0, .int .u64 0, .int .u64 0, .int .u64 0, .int .u64 0, .slice none 0 0] 29 (0, 0))) := (hg6.block D (Nat.lt_of_lt_of_le HDL3.out hw34) (fun e => by cases e; exact hDR rfl)).trans H4D.out
        have HP6 := Lib.hid hp6
        have HG6 : Hid (w.grownBy w6 (some R)) := HG4.out.trans hg6
        have hw4 : w3.heap.size ≤ w6.heap.size := Nat.le_trans hw34 hg6.size
        clear hp6 hg6 c3 H4D HG4
        go_wp2_with fail
        ((with_reducible refine c9.mono ?_))
        rintro _ w5 ⟨x5, rfl, hx5, hb5⟩
        clear c9
        obtain ⟨k, a0, b, c, dw, q, m, cp⟩ := x5
        have h5D := (hb5.block D (Nat.lt_of_lt_of_le HDL3.out hw4)).trans H6D.out
        have H5D := Lib.hid h5D
        have d0 : w5.cell? ⟨D, 0, none⟩ = some (.int .i64 0) := by simp [World.cell?, h5D]
        have d1 : w5.cell? ⟨D, 1, none⟩ = some (.int .u64 0) := by simp [World.cell?, h5D]
        have d2 : w5.cell? ⟨D, 2, none⟩ = some (.int .u64 0) := by simp [World.cell?, h5D]
        have d3 : w5.cell? ⟨D, 3, none⟩ = some (.int .u64 0) := by simp [World.cell?, h5D]
        have d4 : w5.cell? ⟨D, 4, none⟩ = some (.int .u64 0) := by simp [World.cell?, h5D]
        have d5 : w5.cell? ⟨D, 5, none⟩ = some (.slice none 0 0) := by simp [World.cell?, h5D]
        have f0 := frozen_no h5D 0
        have f1 := frozen_no h5D 1
        have f2 := frozen_no h5D 2
        have f3 := frozen_no h5D 3
        have f4 := frozen_no h5D 4
        have f5 := frozen_no h5D 5
        have HX5 := Lib.hid hx5
        have HB5 := Lib.hid hb5
        clear hx5 hb5 h5D
        unfold ReV.val
        go_wp2
        refine bodyPost_ret_by (results_cell_row rfl _ _ D 29 #[.int .i64 k, .int .u64 a0, .int .u64 b, .int .u64 c, .int .u64 dw, .slice q m cp] (0, 0) _ rfl (set6_heap H5D.out _ _ _ _ _ _) Tryz.underlying29 rfl (by kernel_rfl)) rfl ?_
        rw [HT.out]
        refine ⟨⟨k, a0, b, c, dw, q, m, cp⟩, rfl, ?_, ?_, ?_⟩
        · refine HX5.out.kept (Keeps.of (by simp [World.setCell]) fun b hp hl => ?_)
          have h1 := HDL3.out
          have h2 := HDD.out
          have hbD : b ≠ D := by
            rcases hp with hp | hp
            · omega
            · omega
          exact ⟨six_ne hbD _ _ _ _ _ _, by rcases hp with hp | hp <;> omega⟩
        · refine HP6.out.kept fun b hb => ?_
          have h1 := HDD.out
          rw [six_ne (by omega)]
          exact HB5.out.block b (by have := HP6.out.lt; omega)
        · have hg5 := HG6.out.trans (grown_of (r := some R) HB5.out)
          exact grown_six hg5 (by have := HDD.out; omega) _ _ _ _ _ _
      · have h4z : ¬ (K : Int) < 4 := by omega
        have hK4 : (K : Int) = 4 := by omega
        have c2 := picknum_any (n := 4) HP3.out (by omega) (by decide)
        unfold Picks at c2
        have hm4 := pick4 zs (a + 1)
        obtain ⟨M, hM⟩ : ∃ M, M = pickF zs (a + 1) 4 := ⟨_, rfl⟩
        have HTT : Hid (T = (.mk ((M : Int) / 3) W4.zero [], a + 1 + 1)) := by unfold Hid; rw [HT.out, leafM, if_neg h4, hM]
        rw [← hM] at c2 hm4
        clear hM h4 hK5 HT
        have HT := HTT
        clear HTT
        go_wp2_with fail
        ((with_reducible refine c2.mono ?_))
        rintro _ w4 ⟨rfl, hp4, hg4⟩
        have hDR : R ≠ D := by have := HDD.out; omega
        have h4D : w4.heap[D]? = some (.cells #[.int .i64 0, .int .u64 0, .int .u64 0, .int .u64 0, .int .u64 0, .slice none 0 0] 29 (0, 0)) := (hg4.block D HDL3.out (fun e => by cases e; exact hDR rfl)).trans H3D.out
        have H4D := Lib.hid h4D
        have HP4 := Lib.hid hp4
        have HG4 : Hid (w.grownBy w4 (some R)) := HG3.out.trans hg4
        have d0 : w4.cell? ⟨D, 0, none⟩ = some (.int .i64 0) := by simp [World.cell?, h4D]
        have d1 : w4.cell? ⟨D, 1, none⟩ = some (.int .u64 0) := by simp [World.cell?, h4D]
        have d2 : w4.cell? ⟨D, 2, none⟩ = some (.int .u64 0) := by simp [World.cell?, h4D]
        have d3 : w4.cell? ⟨D, 3, none⟩ = some (.int .u64 0) := by simp [World.cell?, h4D]
        have d4 : w4.cell? ⟨D, 4, none⟩ = some (.int .u64 0) := by simp [World.cell?, h4D]
        have d5 : w4.cell? ⟨D, 5, none⟩ = some (.slice none 0 0) := by simp [World.cell?, h4D]
        have f0 := frozen_no h4D 0
        have f1 := frozen_no h4D 1
        have f2 := frozen_no h4D 2
        have f3 := frozen_no h4D 3
        have f4 := frozen_no h4D 4
        have f5 := frozen_no h4D 5
        clear hp4 hg4 c2 h4D
        go_wp2
        refine bodyPost_ret_by (results_cell_row rfl _ _ D 29 #[.int .i64 ((M : Int) / 3), .int .u64 0, .int .u64 0, .int .u64 0, .int .u64 0, .slice none 0 0] (0, 0) _ rfl (set6_heap H4D.out _ _ _ _ _ _) Tryz.underlying29 rfl (by kernel_rfl)) rfl ?_
        rw [HT.out]
        refine ⟨⟨(M : Int) / 3, 0, 0, 0, 0, none, 0, 0⟩, rfl, ?_, ?_, ?_⟩
        · exact kids_empty.tree ((M : Int) / 3) W4.zero zero_ok
        · refine HP4.out.kept fun b hb => ?_
          have h1 := HDD.out
          rw [six_ne (by omega)]
        · exact grown_six HG4.out (by have := HDD.out; omega) _ _ _ _ _ _
    · obtain ⟨K, hK⟩ : ∃ K, K = pickF zs a 11 := ⟨_, rfl⟩
      have HT' := HT.out
      rw [if_neg hlt, ← hK] at HT'
      rw [← hK] at hlt ⊢
      have n4 : ¬ (K : Int) < 4 := by omega
      have n5 : ((K : Int) == 4) = false := by simp; omega
      clear hK HT
      by_cases h7 : K < 7
      · have h7z : (K : Int) < 7 := by omega
        rw [if_pos h7] at HT'
        have HT := Lib.hid HT'
        have c2 := HIH.out w3 (a + 1) HP3.out (by have := HB8.out; omega)
        clear HT' h7 hlt
        go_wp2_with fail
        ((with_reducible refine c2.mono ?_))
        rintro _ w4 ⟨x, rfl, hx, hp4, hg4⟩
        have hDR : R ≠ D := by have := HDD.out; omega
        have c3 := refstar_any w4 x _ hx
        have H4D : Hid (w4.heap[D]? = some (.cells #[.int .i64 0, .int .u64 0, .int .u64 0, .int .u64 0, .int .u64 0, .slice none 0 0] 29 (0, 0))) := (hg4.block D HDL3.out (fun e => by cases e; exact hDR rfl)).trans H3D.out
        have HP4 := Lib.hid hp4
        have HG4 : Hid (w.grownBy w4 (some R)) := HG3.out.trans hg4
        have hw4 : w3.heap.size ≤ w4.heap.size := hg4.size
        clear hx hp4 hg4 c2
        go_wp2_with fail
        ((with_reducible refine c3.mono ?_))
        rintro _ w5 ⟨x5, rfl, hx5, hb5⟩
        obtain ⟨k, a0, b, c, dw, q, m, cp⟩ := x5
        have h5D := (hb5.block D (Nat.lt_of_lt_of_le HDL3.out hw4)).trans H4D.out
        have H5D := Lib.hid h5D
        have d0 : w5.cell? ⟨D, 0, none⟩ = some (.int .i64 0) := by simp [World.cell?, h5D]
        have d1 : w5.cell? ⟨D, 1, none⟩ = some (.int .u64 0) := by simp [World.cell?, h5D]
        have d2 : w5.cell? ⟨D, 2, none⟩ = some (.int .u64 0) := by simp [World.cell?, h5D]
        have d3 : w5.cell? ⟨D, 3, none⟩ = some (.int .u64 0) := by simp [World.cell?, h5D]
        have d4 : w5.cell? ⟨D, 4, none⟩ = some (.int .u64 0) := by simp [World.cell?, h5D]
        have d5 : w5.cell? ⟨D, 5, none⟩ = some (.slice none 0 0) := by simp [World.cell?, h5D]
        have f0 := frozen_no h5D 0
        have f1 := frozen_no h5D 1
        have f2 := frozen_no h5D 2
        have f3 := frozen_no h5D 3
        have f4 := frozen_no h5D 4
        have f5 := frozen_no h5D 5
        have HX5 := Lib.hid hx5
        have HB5 := Lib.hid hb5
        clear hx5 hb5 h5D c3
        unfold ReV.val
        go_wp2
        refine bodyPost_ret_by (results_cell_row rfl _ _ D 29 #[.int .i64 k, .int .u64 a0, .int .u64 b, .int .u64 c, .int .u64 dw, .slice q m cp] (0, 0) _ rfl (set6_heap H5D.out _ _ _ _ _ _) Tryz.underlying29 rfl (by kernel_rfl)) rfl ?_
        rw [HT.out]
        refine ⟨⟨k, a0, b, c, dw, q, m, cp⟩, rfl, ?_, ?_, ?_⟩
        · refine HX5.out.kept (Keeps.of (by simp [World.setCell]) fun b hp hl => ?_)
          have h1 := HDL3.out
          have h2 := HDD.out
          have hbD : b ≠ D := by
            rcases hp with hp | hp
            · omega
            · omega
          exact ⟨six_ne hbD _ _ _ _ _ _, by rcases hp with hp | hp <;> omega⟩
        · refine HP4.out.kept fun b hb => ?_
          have h1 := HDD.out
          rw [six_ne (by omega)]
          exact HB5.out.block b (by have := HP4.out.lt; omega)
        · have hg5 := HG4.out.trans (grown_of (r := some R) HB5.out)
          exact grown_six hg5 (by have := HDD.out; omega) _ _ _ _ _ _
      · have n7 : ¬ (K : Int) < 7 := by omega
        rw [if_neg h7] at HT'
        have c2 := picknum_any (n := 3) HP3.out (by omega) (by decide)
        have hp3 := pick3 zs (a + 1)
        obtain ⟨M, hM⟩ : ∃ M, M = pickF zs (a + 1) 3 := ⟨_, rfl⟩
        unfold Picks at c2
        rw [← hM] at c2 HT' hp3
        have hs := some_any (R := R) (v := v) (zs := zs) (f := reM zs d) (dz := (d : Int)) (M := 900000 - 8 ^ (d + 1)) (B := 8 ^ (d + 1)) (fun a => ⟨(re_facts zs d a).2.2.2.1, (re_facts zs d a).2.2.2.2⟩) HIH.out
        have HSO : Hid (∀ w4, PickAt w4 R v zs (a + 1 + 1) → Calls Tryz.prog 34 #[.pointer (some ⟨R, 0, none⟩), .int .i64 (1 + (M : Int)), .int .i64 (d : Int)] w4 (GivesL R v zs (listR (reM zs d) (1 + M) (a + 2)).1 (listR (reM zs d) (1 + M) (a + 2)).2 w4)) := by
          intro w4 h4
          have := hs w4 (1 + M) (a + 2) h4 (by omega) (by
            have h1 := HB8.out
            have : (1 + M) * 8 ^ (d + 1) ≤ 3 * 8 ^ (d + 1) := Nat.mul_le_mul_right _ (by omega)
            omega)
          rw [show ((1 + M : Nat) : Int) = 1 + (M : Int) by omega] at this
          exact this
        have HSZ : Hid (((listR (reM zs d) (1 + M) (a + 2)).1.map RT.sz).sum ≤ 9000000000) := by
          have h1 := listR_sum (f := reM zs d) (B := 8 ^ d) (fun a => (re_facts zs d a).2.1) (1 + M) (a + 2)
          have h2 : (1 + M) * 8 ^ d ≤ 3 * 8 ^ (d + 1) := Nat.mul_le_mul (by omega) (Nat.pow_le_pow_right (by decide) (by omega))
          have h3 := HB8.out
          unfold Hid
          omega
        have hMb : (M : Int) ≤ 2 := by omega
        have HLI : Hid (T = (if K < 9 then (catM (listR (reM zs d) (1 + M) (a + 2)).1, (listR (reM zs d) (1 + M) (a + 2)).2) else (eitherM (listR (reM zs d) (1 + M) (a + 2)).1, (listR (reM zs d) (1 + M) (a + 2)).2))) := HT'
        obtain ⟨LL, hLL⟩ : ∃ LL, LL = listR (reM zs d) (1 + M) (a + 2) := ⟨_, rfl⟩
        rw [← hLL] at HSO HSZ HLI
        clear hs hM HT' h7 hlt hp3 hLL
        by_cases h9 : K < 9
        · have h9z : (K : Int) < 9 := by omega
          have HT : Hid (T = (catM LL.1, LL.2)) := by unfold Hid; rw [HLI.out, if_pos h9]
          clear h9 HLI
          go_wp2_with fail
          ((with_reducible refine c2.mono ?_))
          rintro _ w4' ⟨rfl, hp4, hg4⟩
          have c3 := HSO.out w4' hp4
          have hDR : R ≠ D := by have := HDD.out; omega
          have H7D : Hid (w4'.heap[D]? = some (.cells #[.int .i64 0, .int .u64 0, .int .u64 0, .int .u64 0, .int .u64 0, .slice none 0 0] 29 (0, 0))) := (hg4.block D HDL3.out (fun e => by cases e; exact hDR rfl)).trans H3D.out
          have HG7 : Hid (w.grownBy w4' (some R)) := HG3.out.trans hg4
          have hw7 : w3.heap.size ≤ w4'.heap.size := hg4.size
          clear hp4 hg4 c2
          go_wp2_with fail
          ((with_reducible refine c3.mono ?_))
          rintro _ w4 ⟨q4, n4, cp4, us4, rfl, hn4, ho4, hl4, he4, hp4, hg4⟩
          have hkr : KidsR w4 (fun b => w3.heap.size ≤ b) q4 n4 cp4 us4 LL.1 := by
            refine ⟨?_, hn4, hl4.trans hn4, fun i y t hy ht => (he4 i y t hy ht).weak fun b hb _ => by omega⟩
            rcases row_forms ho4 with ⟨e, h0⟩ | ⟨g, cp', e⟩
            · cases e; exact .inl ⟨h0, fun _ => rfl⟩
            · cases e
              obtain ⟨r1, r2, r3, r4⟩ := row_base ho4
              rcases ho4.2 with ⟨h2, _⟩ | ⟨g', cap', cur, hv, hb, hh, hc, hm, hsz, ht⟩
              · cases h2
              · obtain rfl : g = g' := by simp at hv; omega
                exact .inr ⟨g, 0, rfl, r2, r3, by omega, ⟨cur, _, by decide, hh⟩, fun j u hj => by rw [Nat.zero_add]; exact row_cell ho4 hj⟩
          have c5 := refcat_any w4 hkr HSZ.out
          have H4D : Hid (w4.heap[D]? = some (.cells #[.int .i64 0, .int .u64 0, .int .u64 0, .int .u64 0, .int .u64 0, .slice none 0 0] 29 (0, 0))) := (hg4.block D (Nat.lt_of_lt_of_le HDL3.out hw7) (fun e => by cases e; exact hDR rfl)).trans H7D.out
          have HP4 := Lib.hid hp4
          have HG4 : Hid (w.grownBy w4 (some R)) := HG7.out.trans hg4
          have hw4 : w3.heap.size ≤ w4.heap.size := Nat.le_trans hw7 hg4.size
          clear hn4 ho4 hl4 he4 hp4 hg4 hkr c3
          go_wp2_with fail
          ((with_reducible refine c5.mono ?_))
          rintro _ w5 ⟨x5, rfl, hx5, hb5⟩
          clear c5
          obtain ⟨k, a0, b, c, dw, q, m, cp⟩ := x5
          have h5D := (hb5.block D (Nat.lt_of_lt_of_le HDL3.out hw4)).trans H4D.out
          have H5D := Lib.hid h5D
          have d0 : w5.cell? ⟨D, 0, none⟩ = some (.int .i64 0) := by simp [World.cell?, h5D]
          have d1 : w5.cell? ⟨D, 1, none⟩ = some (.int .u64 0) := by simp [World.cell?, h5D]
          have d2 : w5.cell? ⟨D, 2, none⟩ = some (.int .u64 0) := by simp [World.cell?, h5D]
          have d3 : w5.cell? ⟨D, 3, none⟩ = some (.int .u64 0) := by simp [World.cell?, h5D]
          have d4 : w5.cell? ⟨D, 4, none⟩ = some (.int .u64 0) := by simp [World.cell?, h5D]
          have d5 : w5.cell? ⟨D, 5, none⟩ = some (.slice none 0 0) := by simp [World.cell?, h5D]
          have f0 := frozen_no h5D 0
          have f1 := frozen_no h5D 1
          have f2 := frozen_no h5D 2
          have f3 := frozen_no h5D 3
          have f4 := frozen_no h5D 4
          have f5 := frozen_no h5D 5
          have HX5 := Lib.hid hx5
          have HB5 := Lib.hid hb5
          clear hx5 hb5 h5D
          unfold ReV.val
          go_wp2
          refine bodyPost_ret_by (results_cell_row rfl _ _ D 29 #[.int .i64 k, .int .u64 a0, .int .u64 b, .int .u64 c, .int .u64 dw, .slice q m cp] (0, 0) _ rfl (set6_heap H5D.out _ _ _ _ _ _) Tryz.underlying29 rfl (by kernel_rfl)) rfl ?_
          rw [HT.out]
          refine ⟨⟨k, a0, b, c, dw, q, m, cp⟩, rfl, ?_, ?_, ?_⟩
          · refine HX5.out.kept (Keeps.of (by simp [World.setCell]) fun b hp hl => ?_)
            have h1 := HDL3.out
            have h2 := HDD.out
            have hbD : b ≠ D := by
              rcases hp with hp | hp
              · omega
              · omega
            exact ⟨six_ne hbD _ _ _ _ _ _, by rcases hp with hp | hp <;> omega⟩
          · refine HP4.out.kept fun b hb => ?_
            have h1 := HDD.out
            rw [six_ne (by omega)]
            exact HB5.out.block b (by have := HP4.out.lt; omega)
          · have hg5 := HG4.out.trans (grown_of (r := some R) HB5.out)
            exact grown_six hg5 (by have := HDD.out; omega) _ _ _ _ _ _
        · have n9 : ¬ (K : Int) < 9 := by omega
          have HT : Hid (T = (eitherM LL.1, LL.2)) := by unfold Hid; rw [HLI.out, if_neg h9]
          clear h9 HLI
          go_wp2_with fail
          ((with_reducible refine c2.mono ?_))
          rintro _ w4' ⟨rfl, hp4, hg4⟩
          have c3 := HSO.out w4' hp4
          have hDR : R ≠ D := by have := HDD.out; omega
          have H7D : Hid (w4'.heap[D]? = some (.cells #[.int .i64 0, .int .u64 0, .int .u64 0, .int .u64 0, .int .u64 0, .slice none 0 0] 29 (0, 0))) := (hg4.block D HDL3.out (fun e => by cases e; exact hDR rfl)).trans H3D.out
          have HG7 : Hid (w.grownBy w4' (some R)) := HG3.out.trans hg4
          have hw7 : w3.heap.size ≤ w4'.heap.size := hg4.size
          clear hp4 hg4 c2
          go_wp2_with fail
          ((with_reducible refine c3.mono ?_))
          rintro _ w4 ⟨q4, n4, cp4, us4, rfl, hn4, ho4, hl4, he4, hp4, hg4⟩
          have hkr : KidsR w4 (fun b => w3.heap.size ≤ b) q4 n4 cp4 us4 LL.1 := by
            refine ⟨?_, hn4, hl4.trans hn4, fun i y t hy ht => (he4 i y t hy ht).weak fun b hb _ => by omega⟩
            rcases row_forms ho4 with ⟨e, h0⟩ | ⟨g, cp', e⟩
            · cases e; exact .inl ⟨h0, fun _ => rfl⟩
            · cases e
              obtain ⟨r1, r2, r3, r4⟩ := row_base ho4
              rcases ho4.2 with ⟨h2, _⟩ | ⟨g', cap', cur, hv, hb, hh, hc, hm, hsz, ht⟩
              · cases h2
              · obtain rfl : g = g' := by simp at hv; omega
                exact .inr ⟨g, 0, rfl, r2, r3, by omega, ⟨cur, _, by decide, hh⟩, fun j u hj => by rw [Nat.zero_add]; exact row_cell ho4 hj⟩
          have c5 := refeither_any w4 hkr HSZ.out
          have H4D : Hid (w4.heap[D]? = some (.cells #[.int .i64 0, .int .u64 0, .int .u64 0, .int .u64 0, .int .u64 0, .slice none 0 0] 29 (0, 0))) := (hg4.block D (Nat.lt_of_lt_of_le HDL3.out hw7) (fun e => by cases e; exact hDR rfl)).trans H7D.out
          have HP4 := Lib.hid hp4
          have HG4 : Hid (w.grownBy w4 (some R)) := HG7.out.trans hg4
          have hw4 : w3.heap.size ≤ w4.heap.size := Nat.le_trans hw7 hg4.size
          clear hn4 ho4 hl4 he4 hp4 hg4 hkr c3
          go_wp2_with fail
          ((with_reducible refine c5.mono ?_))
          rintro _ w5 ⟨x5, rfl, hx5, hb5⟩
          clear c5
          obtain ⟨k, a0, b, c, dw, q, m, cp⟩ := x5
          have h5D := (hb5.block D (Nat.lt_of_lt_of_le HDL3.out hw4)).trans H4D.out
          have H5D := Lib.hid h5D
          have d0 : w5.cell? ⟨D, 0, none⟩ = some (.int .i64 0) := by simp [World.cell?, h5D]
          have d1 : w5.cell? ⟨D, 1, none⟩ = some (.int .u64 0) := by simp [World.cell?, h5D]
          have d2 : w5.cell? ⟨D, 2, none⟩ = some (.int .u64 0) := by simp [World.cell?, h5D]
          have d3 : w5.cell? ⟨D, 3, none⟩ = some (.int .u64 0) := by simp [World.cell?, h5D]
          have d4 : w5.cell? ⟨D, 4, none⟩ = some (.int .u64 0) := by simp [World.cell?, h5D]
          have d5 : w5.cell? ⟨D, 5, none⟩ = some (.slice none 0 0) := by simp [World.cell?, h5D]
          have f0 := frozen_no h5D 0
          have f1 := frozen_no h5D 1
          have f2 := frozen_no h5D 2
          have f3 := frozen_no h5D 3
          have f4 := frozen_no h5D 4
          have f5 := frozen_no h5D 5
          have HX5 := Lib.hid hx5
          have HB5 := Lib.hid hb5
          clear hx5 hb5 h5D
          unfold ReV.val
          go_wp2
          refine bodyPost_ret_by (results_cell_row rfl _ _ D 29 #[.int .i64 k, .int .u64 a0, .int .u64 b, .int .u64 c, .int .u64 dw, .slice q m cp] (0, 0) _ rfl (set6_heap H5D.out _ _ _ _ _ _) Tryz.underlying29 rfl (by kernel_rfl)) rfl ?_
          rw [HT.out]
          refine ⟨⟨k, a0, b, c, dw, q, m, cp⟩, rfl, ?_, ?_, ?_⟩
          · refine HX5.out.kept (Keeps.of (by simp [World.setCell]) fun b hp hl => ?_)
            have h1 := HDL3.out
            have h2 := HDD.out
            have hbD : b ≠ D := by
              rcases hp with hp | hp
              · omega
              · omega
            exact ⟨six_ne hbD _ _ _ _ _ _, by rcases hp with hp | hp <;> omega⟩
          · refine HP4.out.kept fun b hb => ?_
            have h1 := HDD.out
            rw [six_ne (by omega)]
            exact HB5.out.block b (by have := HP4.out.lt; omega)
          · have hg5 := HG4.out.trans (grown_of (r := some R) HB5.out)
            exact grown_six hg5 (by have := HDD.out; omega) _ _ _ _ _ _

end Go.Proofs.YtjeplmnjgdpgbaaGreatDoor

/-! A region that draws its order, by an invariant: each operation is walked once. No condition. -/
namespace Go.Proofs.YtjeplmnjgdpgbaaGreatDoor
open Go.RowKit
set_option linter.unusedVariables false
set_option linter.unusedSimpArgs false

section
variable {P : Program} {ops : Array Oper} {Q : Exit → Act → World → Prop} {md : Region.Mode}
theorem ready_iff {listed : Array Bool} {i : Nat} : i ∈ Region.ready md ops listed ↔ i < ops.size ∧ listed.getD i true = false ∧ ∃ o, ops[i]? = some o ∧ ∀ e ∈ o.after, Region.binds md e = true → listed.getD e.on false = true := by
  unfold Region.ready
  rw [List.mem_filter, List.mem_range]
  refine and_congr_right fun hi => ?_
  rw [Array.getElem?_eq_getElem hi]
  simp only [Option.map_some, Option.getD_some, Bool.and_eq_true, Bool.not_eq_true', Array.all_eq_true_iff_forall_mem, Bool.or_eq_true]
  refine and_congr_right fun _ => ⟨fun h => ⟨_, rfl, fun e he hb => (h e he).resolve_left (by simp [hb])⟩, fun ⟨o, ho, h⟩ e he => ?_⟩
  have e1 := Option.some.inj ho
  subst e1
  cases hb : Region.binds md e with
  | false => exact .inl rfl
  | true => exact .inr (h e he hb)
theorem count_set : ∀ (l : List Bool) (i : Nat), l[i]? = some false → (l.set i true).count false + 1 = l.count false
  | [], i, h => by simp at h
  | b :: l, 0, h => by
    simp at h
    subst h
    simp
  | b :: l, i + 1, h => by
    simp at h
    have := count_set l i h
    simp only [List.set_cons_succ, List.count_cons]
    omega
theorem wpAny_inv {J : Array Bool → Act → World → Prop} (hstep : ∀ (listed : Array Bool) (a : Act) (w : World) (i : Nat), listed.size = ops.size → J listed a w → i ∈ Region.ready md ops listed → wpOp P ops Q i (J (listed.setIfInBounds i true)) a w)
    (hdone : ∀ (listed : Array Bool) (a : Act) (w : World), listed.size = ops.size → J listed a w → Region.ready md ops listed = [] → Q .normal a w) :
    ∀ (fuel : Nat) (listed : Array Bool) (a : Act) (w : World), listed.size = ops.size → listed.toList.count false ≤ fuel → J listed a w → wpAny P md ops Q fuel listed a w
  | 0, listed, a, w, hs, hc, hJ => by
    have hr : Region.ready md ops listed = [] := by
      rw [List.eq_nil_iff_forall_not_mem]
      intro i hi
      obtain ⟨h1, h2, _⟩ := ready_iff.1 hi
      have hl : i < listed.size := by omega
      rw [Array.getD_eq_getD_getElem?, Array.getElem?_eq_getElem hl] at h2
      have hm : false ∈ listed.toList := by
        rw [← show listed[i] = false from h2]
        exact Array.getElem_mem_toList hl
      have := List.count_pos_iff.2 hm
      omega
    exact ⟨hr, hdone _ _ _ hs hJ hr⟩
  | fuel + 1, listed, a, w, hs, hc, hJ => by
    refine ⟨hdone _ _ _ hs hJ, fun i hi => wpOp_mono (fun a' w' h => wpAny_inv hstep hdone fuel _ a' w' (by simpa using hs) ?_ h) (hstep _ _ _ i hs hJ hi)⟩
    obtain ⟨h1, h2, _⟩ := ready_iff.1 hi
    have hl : i < listed.size := by omega
    rw [Array.getD_eq_getD_getElem?, Array.getElem?_eq_getElem hl] at h2
    have h3 := count_set listed.toList i (by rw [Array.getElem?_toList, Array.getElem?_eq_getElem hl]; exact congrArg some h2)
    rw [Array.toList_setIfInBounds]
    omega
/-- Where each operation waits for elder ones alone, all have come up in the end. -/
theorem all_listed {listed : Array Bool} (hacy : ∀ (i : Nat) (o : Oper), ops[i]? = some o → ∀ e ∈ o.after, e.on < i) (hs : listed.size = ops.size) (hr : Region.ready md ops listed = []) : ∀ i, i < ops.size → listed.getD i false = true := by
  intro i
  induction i using Nat.strongRecOn with
  | _ i ih =>
  intro hi
  cases hl : listed.getD i false with
  | true => rfl
  | false =>
    have hm : i ∈ Region.ready md ops listed := ready_iff.2 ⟨hi, by rw [Array.getD_eq_getD_getElem?, Array.getElem?_eq_getElem (by omega)] at hl ⊢; exact hl, ops[i], Array.getElem?_eq_getElem hi, fun e he _ => ih e.on (hacy i _ (Array.getElem?_eq_getElem hi) e he) (by have := hacy i _ (Array.getElem?_eq_getElem hi) e he; omega)⟩
    rw [hr] at hm
    cases hm
/-- A region that draws its order, by what holds at every time. -/
theorem wp_region_inv {id : Nat} {a : Act} {w : World} (J : Array Bool → Act → World → Prop) (hm : P.follows .mixedOrders = true)
    (h0 : J (Array.replicate ops.size false) a { w with drawn := w.drawn + 1 })
    (hstep : ∀ (listed : Array Bool) (a : Act) (w : World) (i : Nat), listed.size = ops.size → J listed a w → i ∈ Region.ready .any ops listed → wpOp P ops Q i (J (listed.setIfInBounds i true)) a w)
    (hdone : ∀ (listed : Array Bool) (a : Act) (w : World), listed.size = ops.size → J listed a w → Region.ready .any ops listed = [] → Q .normal a w) : (Code.region id ops true).wp P Q a w :=
  wp_region_any hm (wpAny_inv hstep hdone ops.size _ a _ (by simp) (by simp) h0)
end

end Go.Proofs.YtjeplmnjgdpgbaaGreatDoor

/-! Regions that draw their order and only read, call and reckon, held by an invariant: one law for each kind of operation. No condition. -/
namespace Go.Proofs.YtjeplmnjgdpgbaaGreatDoor
open Go.RowKit Go.Lib
set_option linter.unusedVariables false
set_option linter.unusedSimpArgs false

/-- The operations of a region. -/
noncomputable def opsAt (n : Nat) : Code → Array Oper
  | .region m ops _ => if m = n then ops else #[]
  | .seq a b => if (opsAt n a).size = 0 then opsAt n b else opsAt n a
  | _ => #[]
/-- Where operation i of n writes: the last one elsewhere. -/
def dR (n a0 b0 i : Nat) : Nat := if i + 1 = n then a0 else i + b0
/-- What a slot holds: this value, an expression, a slice of this one byte. -/
inductive SD
  | v (u : Value)
  | x (t : RT)
  | b (z : Int)
def SD.at : SD → World → Value → Prop
  | .v u, _, z => z = u
  | .x t, W, z => ∃ y : ReV, z = y.val ∧ RAt W (fun _ => True) y t
  | .b c, W, z => ∃ g, z = .slice (some ⟨g, 0, none⟩) 1 1 ∧ g < W.heap.size ∧ W.cell? ⟨g, 0, none⟩ = some (.int .u8 c)
theorem SD.under {s : SD} {W W' : World} {z : Value} (h : s.at W z) (hb : Below W.heap.size W W') : s.at W' z := by
  cases s with
  | v u => exact h
  | x t => obtain ⟨y, e, h⟩ := h; exact ⟨y, e, h.under hb⟩
  | b c => obtain ⟨g, e, hl, h⟩ := h; exact ⟨g, e, Nat.lt_of_lt_of_le hl hb.size, (hb.cell (p := ⟨g, 0, none⟩) hl).trans h⟩
def tt : Value := .bool true
/-- While a region runs: S says what each operation's slot holds, F what slots hold that no operation writes. -/
def JR (n nt a0 b0 : Nat) (S : List SD) (F : List (Nat × Value)) (W : World) (L : Array Bool) (a : Act) (w : World) : Prop :=
  a.tmps.size = nt ∧ a.defers = [] ∧ Below W.heap.size W w ∧ (∀ x ∈ F, a.tmps.getD x.1 undef = x.2) ∧ ∀ (i : Nat) (s : SD), S[i]? = some s → L.getD i false = true → s.at w (a.tmps.getD (dR n a0 b0 i) undef)
/-- What is asked of a region. -/
structure RegK (ops : Array Oper) (n nt a0 b0 : Nat) (S : List SD) (F : List (Nat × Value)) : Prop where
  sz : ops.size = n
  elder : (ops.toList.zipIdx.all fun x => x.1.after.all fun e => decide (e.on < x.2)) = true
  len : S.length = n
  ab : a0 < b0
  top : b0 + n ≤ nt + 1
  keys : ∀ x ∈ F, x.1 ≠ a0 ∧ x.1 < b0
section
variable {ops : Array Oper} {n nt a0 b0 : Nat} {S : List SD} {F : List (Nat × Value)} {W w w' : World} {v : Value} {i j : Nat} {L : Array Bool} {a : Act} {s : SD} {K : Act → World → Prop} {Q : Exit → Act → World → Prop} {o : Oper}
theorem RegK.acy (hk : RegK ops n nt a0 b0 S F) (i : Nat) (o : Oper) (h : ops[i]? = some o) : ∀ e ∈ o.after, e.on < i := by
  have h1 := List.all_eq_true.1 hk.elder (o, i) (by rw [List.mem_zipIdx_iff_getElem?]; simpa using h)
  intro e he
  simpa using (Array.all_eq_true_iff_forall_mem.1 h1) e he
theorem JR.step (hk : RegK ops n nt a0 b0 S F) (h : JR n nt a0 b0 S F W L a w) (hi : S[i]? = some s) (hL : L.size = n) (hs : s.at w' v) (hb : Below w.heap.size w w') : JR n nt a0 b0 S F W (L.setIfInBounds i true) (a.put (some (dR n a0 b0 i)) v) w' := by
  obtain ⟨h1, h2, h3, h4, h6⟩ := h
  have hi' : i < n := by have := (List.getElem?_eq_some_iff.1 hi).1; have := hk.len; omega
  have hab := hk.ab
  have htop := hk.top
  have hd : dR n a0 b0 i < nt := by unfold dR; split <;> omega
  refine ⟨by simpa [Act.put] using h1, h2, h3.trans (hb.mono h3.size), fun x hx => ?_, fun k s' hk' hl => ?_⟩
  · have hx1 := hk.keys x hx
    have hne : dR n a0 b0 i ≠ x.1 := by unfold dR; split <;> omega
    simp only [Act.put]
    rw [Array.getD_eq_getD_getElem?, Array.getElem?_setIfInBounds_ne hne, ← Array.getD_eq_getD_getElem?]
    exact h4 x hx
  · have hkn : k < n := by have := (List.getElem?_eq_some_iff.1 hk').1; have := hk.len; omega
    simp only [Act.put]
    by_cases e : k = i
    · subst e
      rw [hi] at hk'
      obtain rfl := Option.some.inj hk'
      rw [Array.getD_eq_getD_getElem?, Array.getElem?_setIfInBounds_self_of_lt (by omega)]
      exact hs
    · have hne : dR n a0 b0 i ≠ dR n a0 b0 k := by unfold dR; split <;> split <;> omega
      rw [Array.getD_eq_getD_getElem?, Array.getElem?_setIfInBounds_ne hne, ← Array.getD_eq_getD_getElem?]
      rw [Array.getD_eq_getD_getElem?, Array.getElem?_setIfInBounds_ne (Ne.symm e), ← Array.getD_eq_getD_getElem?] at hl
      exact SD.under (h6 k s' hk' hl) hb
theorem JR.get (h : JR n nt a0 b0 S F W L a w) (hr : i ∈ Region.ready .any ops L) (hd : ((ops[i]?).map fun o => o.after.any fun e => decide (e.on = j) && Region.binds .any e) = some true) (hj : S[j]? = some s) : s.at w (a.tmps.getD (dR n a0 b0 j) undef) := by
  obtain ⟨_, _, o, ho, h3⟩ := ready_iff.1 hr
  rw [ho] at hd
  have hd' : (o.after.any fun e => decide (e.on = j) && Region.binds .any e) = true := Option.some.inj hd
  rw [← Array.any_toList] at hd'
  obtain ⟨e, he, hc⟩ := List.any_eq_true.1 hd'
  have he := Array.mem_toList_iff.1 he
  simp only [Bool.and_eq_true, decide_eq_true_eq] at hc
  have := h3 e he hc.2
  rw [hc.1] at this
  exact h.2.2.2.2 j s hj this
set_option maxRecDepth 100000 in
theorem atP {d : Nat} {X : Op} (hm : ((ops[i]?).map fun o => (o.dst, o.op, o.guard)) = some (some d, X, none)) (h : ∀ o : Oper, o.op = X → o.dst = some d → o.wp Tryz.prog a w K Q) : wpOp Tryz.prog ops Q i K a w := by
  obtain ⟨o, ho, he⟩ := Option.map_eq_some_iff.1 hm
  simp only [Prod.mk.injEq] at he
  unfold wpOp
  rw [ho]
  show if Region.wanted o _ then _ else _
  rw [if_pos (by unfold Region.wanted; rw [he.2.2])]
  exact .inl (h o he.2.1 he.1)
set_option maxRecDepth 100000 in
theorem atG {d : Nat} {X : Op} {g m : Nat} (hm : ((ops[i]?).map fun o => (o.dst, o.op, o.guard)) = some (some d, X, some (g, true))) (hg : (ops[g]?).bind (·.dst) = some m) (hv : a.tmps.getD m undef = tt) (h : ∀ o : Oper, o.op = X → o.dst = some d → o.wp Tryz.prog a w K Q) : wpOp Tryz.prog ops Q i K a w := by
  obtain ⟨o, ho, he⟩ := Option.map_eq_some_iff.1 hm
  simp only [Prod.mk.injEq] at he
  have hy : yielded ops a.tmps g = some true := by
    unfold yielded
    rw [hg]
    show (match a.tmps[m]? with | some (.bool b) => some b | _ => none) = some true
    rw [Array.getD_eq_getD_getElem?] at hv
    cases e : a.tmps[m]? with
    | none => rw [e] at hv; exact absurd hv (by unfold undef tt; simp)
    | some z => rw [e] at hv; simp at hv; rw [hv]; rfl
  unfold wpOp
  rw [ho]
  show if Region.wanted o _ then _ else _
  rw [if_pos (by unfold Region.wanted; rw [he.2.2]; simp [hy])]
  exact .inl (h o he.2.1 he.1)
theorem opMove {d : Tmp} {s : SD} (hd : s.at w (a.tmps.getD d undef)) (ho : o.op = .move (.tmp d)) (hK : ∀ v w', s.at w' v → Below w.heap.size w w' → K (a.put o.dst v) w') : o.wp Tryz.prog a w K Q := by
  unfold Oper.wp execOp
  simp only [ho]
  exact hK _ _ hd (Below.refl _ _)
theorem opAssign {d : Tmp} {s : SD} (hd : s.at w (a.tmps.getD d undef)) (ho : o.op = .assign (.tmp d)) (hK : ∀ v w', s.at w' v → Below w.heap.size w w' → K (a.put o.dst v) w') : o.wp Tryz.prog a w K Q := by
  unfold Oper.wp execOp
  simp only [ho]
  exact hK _ _ hd (Below.refl _ _)
theorem opPick {c d : Tmp} (hc : a.tmps.getD c undef = tt) (hd : a.tmps.getD d undef = tt) (ho : o.op = .pick (.tmp c) (.tmp d) (.const (.bool false))) (hK : ∀ v w', (SD.v tt).at w' v → Below w.heap.size w w' → K (a.put o.dst v) w') : o.wp Tryz.prog a w K Q := by
  have hx : a.eval (.tmp c) = .bool true := hc
  have hy : a.eval (.tmp d) = .bool true := hd
  have hk := hK (.bool true) w rfl (Below.refl _ _)
  unfold Oper.wp
  generalize a.eval = ev at hx hy ⊢
  simp [execOp, ho, hx, hy, go_sem]
  exact hk
theorem opNot {c : Tmp} {b : Bool} (hc : a.tmps.getD c undef = .bool b) (ho : o.op = .unOp .not 4 (.tmp c)) (hK : ∀ v w', (SD.v (.bool (!b))).at w' v → Below w.heap.size w w' → K (a.put o.dst v) w') : o.wp Tryz.prog a w K Q := by
  have hx : a.eval (.tmp c) = .bool b := hc
  have hk := hK (.bool (!b)) w rfl (Below.refl _ _)
  unfold Oper.wp
  generalize a.eval = ev at hx ⊢
  simp [execOp, ho, hx, go_sem]
  exact hk
theorem opEqB {c d : Tmp} {b : Bool} (hc : a.tmps.getD c undef = .bool b) (hd : a.tmps.getD d undef = .bool b) (ho : o.op = .binOp .eql 4 (.tmp c) (.tmp d) 4) (hK : ∀ v w', (SD.v tt).at w' v → Below w.heap.size w w' → K (a.put o.dst v) w') : o.wp Tryz.prog a w K Q := by
  have hx : a.eval (.tmp c) = .bool b := hc
  have hy : a.eval (.tmp d) = .bool b := hd
  have hk := hK (.bool true) w rfl (Below.refl _ _)
  unfold Oper.wp
  generalize a.eval = ev at hx hy ⊢
  simp [execOp, ho, hx, hy, go_sem]
  exact hk
theorem opEqI {c : Tmp} {z : Int} (hc : a.tmps.getD c undef = .int .i64 z) (ho : o.op = .binOp .eql 3 (.tmp c) (.const (.int .i64 z)) 3) (hK : ∀ v w', (SD.v tt).at w' v → Below w.heap.size w w' → K (a.put o.dst v) w') : o.wp Tryz.prog a w K Q := by
  have hx : a.eval (.tmp c) = .int .i64 z := hc
  have hy : a.eval (.const (.int .i64 z)) = .int .i64 z := rfl
  have hk := hK (.bool true) w rfl (Below.refl _ _)
  unfold Oper.wp
  generalize a.eval = ev at hx hy ⊢
  simp [execOp, ho, hx, hy, go_sem]
  exact hk
theorem field0d (k a b c d : Int) (p : Option Addr) (n cap : Nat) (w : World) : (Instr.field 29 (.agg #[.int .i64 k, .int .u64 a, .int .u64 b, .int .u64 c, .int .u64 d, .slice p n cap]) 0).run Tryz.prog w = .ok (.int .i64 k) w := by
  kernel_rfl
theorem opField {c : Tmp} {t : RT} (hc : (SD.x t).at w (a.tmps.getD c undef)) (ho : o.op = .field 29 (.tmp c) 0) (hK : ∀ v w', (SD.v (.int .i64 t.kind)).at w' v → Below w.heap.size w w' → K (a.put o.dst v) w') : o.wp Tryz.prog a w K Q := by
  obtain ⟨⟨k, x, y, z, u, q, m, cp⟩, he, hr⟩ := hc
  obtain ⟨vs, et, hok, hk⟩ := hr.kids
  have ek : t.kind = k := by rw [et]; rfl
  have hx : a.eval (.tmp c) = _ := he
  have hk := hK (.int .i64 k) w (by rw [ek]; rfl) (Below.refl _ _)
  unfold Oper.wp
  generalize a.eval = ev at hx ⊢
  simp [execOp, ho, hx, ReV.val, field0d]
  exact hk
theorem infoReD : (Tryz.prog.info? 29).map (·.size) = some 6 := by kernel_rfl
theorem opLoad {d : Tmp} {C : Nat} {y : ReV} {t : RT} {P : Nat → Prop} (hd : a.tmps.getD d undef = .pointer (some ⟨C, 0, none⟩)) (hC : w.heap[C]? = some (.cells y.cells.toArray 29 (0, 0))) (hr : RAt w P y t) (ho : o.op = .load 29 (.tmp d))
    (hK : ∀ v w', (SD.x t).at w' v → Below w.heap.size w w' → K (a.put o.dst v) w') : o.wp Tryz.prog a w K Q := by
  obtain ⟨k, x, y, z, u, q, m, cp⟩ := y
  refine wp_load_row 29 (.tmp d) ho C hd _ _ (0, 0) _ hC Tryz.underlying29 rfl ?_ (hK _ _ ⟨⟨k, x, y, z, u, q, m, cp⟩, rfl, hr.weak fun _ _ _ => trivial⟩ (Below.refl _ _))
  rw [infoReD]
  rfl
set_option maxRecDepth 100000 in
theorem opCall1 {Fn : FuncId} {x : Operand} {u : Value} {T : Array TypeId} {R : Ending → World → Prop} {s : SD} (hx : a.eval x = u) (ho : o.op = .call { callee := .value (.func Fn), args := #[x], argTypes := T }) (hc : Calls Tryz.prog Fn #[u] w R)
    (hF : ∀ args w, (callFunc Fn args).run Tryz.prog w = .ok (.enter Fn args) w)
    (hR : ∀ e w', R e w' → ∃ v, e = .returned v ∧ s.at w' v ∧ Below w.heap.size w w') (hK : ∀ v w', s.at w' v → Below w.heap.size w w' → K (a.put o.dst v) w') : o.wp Tryz.prog a w K Q := by
  unfold Oper.wp
  have hf : a.eval (.func Fn) = .func (.func Fn) #[] #[] := rfl
  generalize a.eval = ev at hx hf ⊢
  simp [execOp, ho, hx, hf, go_sem, hF, resolve, invoke]
  refine hc.mono (fun e w' hr => ?_)
  obtain ⟨v, rfl, hs, hb⟩ := hR e w' hr
  exact hK v w' hs hb
set_option maxRecDepth 100000 in
theorem opCall2 {Fn : FuncId} {x x' : Operand} {u u' : Value} {T : Array TypeId} {R : Ending → World → Prop} {s : SD} (hx : a.eval x = u) (hx' : a.eval x' = u') (ho : o.op = .call { callee := .value (.func Fn), args := #[x, x'], argTypes := T }) (hc : Calls Tryz.prog Fn #[u, u'] w R)
    (hF : ∀ args w, (callFunc Fn args).run Tryz.prog w = .ok (.enter Fn args) w)
    (hR : ∀ e w', R e w' → ∃ v, e = .returned v ∧ s.at w' v ∧ Below w.heap.size w w') (hK : ∀ v w', s.at w' v → Below w.heap.size w w' → K (a.put o.dst v) w') : o.wp Tryz.prog a w K Q := by
  unfold Oper.wp
  have hf : a.eval (.func Fn) = .func (.func Fn) #[] #[] := rfl
  generalize a.eval = ev at hx hx' hf ⊢
  simp [execOp, ho, hx, hx', hf, go_sem, hF, resolve, invoke]
  refine hc.mono (fun e w' hr => ?_)
  obtain ⟨v, rfl, hs, hb⟩ := hR e w' hr
  exact hK v w' hs hb
theorem treeOf {P : Nat → Prop} {t : RT} {e : Ending} {w' : World} (h : GivesRe P t w e w') : ∃ v, e = .returned v ∧ (SD.x t).at w' v ∧ Below w.heap.size w w' := by
  obtain ⟨y, he, hr, hb⟩ := h
  exact ⟨_, he, ⟨y, rfl, hr.weak fun _ _ _ => trivial⟩, hb⟩
theorem boolOf {b : Bool} {e : Ending} {w' : World} (h : GivesBool b w e w') : ∃ v, e = .returned v ∧ (SD.v (.bool b)).at w' v ∧ Below w.heap.size w w' := ⟨_, h.1, rfl, h.2⟩
/-- A call on an expression. -/
theorem opTree {Fn : FuncId} {d : Tmp} {T : Array TypeId} {R : Ending → World → Prop} {t : RT} {s : SD} (hd : (SD.x t).at w (a.tmps.getD d undef)) (ho : o.op = .call { callee := .value (.func Fn), args := #[.tmp d], argTypes := T })
    (hc : ∀ y, RAt w (fun _ => True) y t → Calls Tryz.prog Fn #[y.val] w R)
    (hF : ∀ args w, (callFunc Fn args).run Tryz.prog w = .ok (.enter Fn args) w)
    (hR : ∀ e w', R e w' → ∃ v, e = .returned v ∧ s.at w' v ∧ Below w.heap.size w w') (hK : ∀ v w', s.at w' v → Below w.heap.size w w' → K (a.put o.dst v) w') : o.wp Tryz.prog a w K Q := by
  obtain ⟨y, he, hr⟩ := hd
  exact opCall1 (x := .tmp d) he ho (hc y hr) hF hR hK
/-- A call on an expression and a value. -/
theorem opTreeV {Fn : FuncId} {d : Tmp} {x' : Operand} {u' : Value} {T : Array TypeId} {R : Ending → World → Prop} {t : RT} {s : SD} (hd : (SD.x t).at w (a.tmps.getD d undef)) (hx' : a.eval x' = u') (ho : o.op = .call { callee := .value (.func Fn), args := #[.tmp d, x'], argTypes := T })
    (hc : ∀ y, RAt w (fun _ => True) y t → Calls Tryz.prog Fn #[y.val, u'] w R)
    (hF : ∀ args w, (callFunc Fn args).run Tryz.prog w = .ok (.enter Fn args) w)
    (hR : ∀ e w', R e w' → ∃ v, e = .returned v ∧ s.at w' v ∧ Below w.heap.size w w') (hK : ∀ v w', s.at w' v → Below w.heap.size w w' → K (a.put o.dst v) w') : o.wp Tryz.prog a w K Q := by
  obtain ⟨y, he, hr⟩ := hd
  exact opCall2 (x := .tmp d) he hx' ho (hc y hr) hF hR hK
/-- A call on two expressions. -/
theorem opTrees {Fn : FuncId} {d d' : Tmp} {T : Array TypeId} {R : Ending → World → Prop} {t t' : RT} {s : SD} (hd : (SD.x t).at w (a.tmps.getD d undef)) (hd' : (SD.x t').at w (a.tmps.getD d' undef)) (ho : o.op = .call { callee := .value (.func Fn), args := #[.tmp d, .tmp d'], argTypes := T })
    (hc : ∀ y y', RAt w (fun _ => True) y t → RAt w (fun _ => True) y' t' → Calls Tryz.prog Fn #[y.val, y'.val] w R)
    (hF : ∀ args w, (callFunc Fn args).run Tryz.prog w = .ok (.enter Fn args) w)
    (hR : ∀ e w', R e w' → ∃ v, e = .returned v ∧ s.at w' v ∧ Below w.heap.size w w') (hK : ∀ v w', s.at w' v → Below w.heap.size w w' → K (a.put o.dst v) w') : o.wp Tryz.prog a w K Q := by
  obtain ⟨y, he, hr⟩ := hd
  obtain ⟨y', he', hr'⟩ := hd'
  exact opCall2 (x := .tmp d) (x' := .tmp d') he he' ho (hc y y' hr hr') hF hR hK
theorem conv_u8 (k : Nat) (hk : k < 256) (w : World) : (convert 3 5 (.int .i64 (k : Int))).run Tryz.prog w = .ok (.int .u8 (k : Int)) w := by
  have h2 : Tryz.prog.intKind 5 = .u8 := by kernel_rfl
  have h1 := run_convert_int (P := Tryz.prog) w 3 5 .i64 (k : Int) (by rw [Tryz.underlying3]; rfl) (by rw [Tryz.underlying5, h2])
  rw [h2] at h1
  rw [h1]
  have : IntKind.u8.wrap (k : Int) = (k : Int) := by simp [IntKind.wrap, IntKind.min, IntKind.max, IntKind.bits, IntKind.signed]; omega
  rw [this]
theorem opConv {c : Tmp} {k : Nat} (hk8 : k < 256) (hc : a.tmps.getD c undef = .int .i64 (k : Int)) (ho : o.op = .convert 3 5 (.tmp c)) (hK : ∀ v w', (SD.v (.int .u8 (k : Int))).at w' v → Below w.heap.size w w' → K (a.put o.dst v) w') : o.wp Tryz.prog a w K Q := by
  have hx : a.eval (.tmp c) = .int .i64 (k : Int) := hc
  have hk := hK (.int .u8 (k : Int)) w rfl (Below.refl _ _)
  have hw := conv_u8 k hk8 w
  unfold Oper.wp
  generalize a.eval = ev at hx ⊢
  simp [execOp, ho, hx, hw]
  exact hk
theorem opAddS {c d : Tmp} {A B U : ByteArray} (hU : A ++ B = U) (hc : a.tmps.getD c undef = .string A) (hd : a.tmps.getD d undef = .string B) (hl : A.size + B.size ≤ 9223372036854775807) (ho : o.op = .binOp .add 9 (.tmp c) (.tmp d) 9) (hK : ∀ v w', (SD.v (.string U)).at w' v → Below w.heap.size w w' → K (a.put o.dst v) w') : o.wp Tryz.prog a w K Q := by
  subst hU
  have hx : a.eval (.tmp c) = .string A := hc
  have hy : a.eval (.tmp d) = .string B := hd
  have hk := hK (.string (A ++ B)) w rfl (Below.refl _ _)
  have hs := run_string_add_sum (P := Tryz.prog) w A B hl
  unfold Oper.wp
  generalize a.eval = ev at hx hy ⊢
  simp [execOp, ho, hx, hy, go_sem, hs]
  exact hk
theorem u8_partsD : ∃ i0, Tryz.prog.info? 5 = some i0 ∧ i0.zero = some (.int .u8 0) ∧ i0.size = 1 := by
  cases h : Tryz.prog.info? 5 with
  | none =>
    have h2 : (Tryz.prog.info? 5).isSome = true := by kernel_rfl
    rw [h] at h2
    cases h2
  | some i =>
    refine ⟨i, rfl, ?_, ?_⟩
    · have : (Tryz.prog.info? 5).bind (·.zero) = some (.int .u8 0) := by kernel_rfl
      rw [h] at this
      exact this
    · have : (Tryz.prog.info? 5).map (·.size) = some 1 := by kernel_rfl
      rw [h] at this
      exact Option.some.inj this
theorem fill_one (z : Int) : Instr.fill (fun i => some (i * 1, 1)) ((Array.range (1 * 1)).map ((Value.int .u8 0).cells[· % (Value.int .u8 0).cells.size]!)) [(0, .int .u8 z)] = some #[.int .u8 z] := by
  kernel_rfl
theorem opOne {c : Tmp} {z : Int} (hc : a.tmps.getD c undef = .int .u8 z) (ho : o.op = .buildSlice 22 1 #[(0, .tmp c)]) (hK : ∀ v w', (SD.b z).at w' v → Below w.heap.size w w' → K (a.put o.dst v) w') : o.wp Tryz.prog a w K Q := by
  obtain ⟨i0, hi0, hz0, hz1⟩ := u8_partsD
  refine wp_buildSlice 22 5 1 #[(0, .tmp c)] ho #[.int .u8 z] i0 _ Tryz.underlying22 hi0 hz0 (by rw [hz1]; decide) (by rw [hz1]; decide) ?_ (hK _ _ ⟨w.heap.size, rfl, by simp, by simp only [World.cell?, heap_alloc_new]; rfl⟩ ((Below.refl _ _).alloc (Nat.le_refl _) _))
  rw [hz1]
  simp only [List.map_toArray, List.map_cons, List.map_nil]
  rw [show a.eval (.tmp c) = .int .u8 z from hc]
  exact fill_one z
theorem opStr {c : Tmp} {k : Nat} {U : ByteArray} (hk8 : k < 256) (hU : ⟨#[UInt8.ofNat k]⟩ = U) (hc : (SD.b (k : Int)).at w (a.tmps.getD c undef)) (ho : o.op = .convert 22 9 (.tmp c)) (hK : ∀ v w', (SD.v (.string U)).at w' v → Below w.heap.size w w' → K (a.put o.dst v) w') : o.wp Tryz.prog a w K Q := by
  subst hU
  obtain ⟨g, he, hl, hcell⟩ := hc
  have hx : a.eval (.tmp c) = .slice (some ⟨g, 0, none⟩) 1 1 := he
  have hk := hK (.string ⟨#[UInt8.ofNat k]⟩) w rfl (Below.refl _ _)
  have hw := run_convert_bytes_back (P := Tryz.prog) w 22 9 5 ⟨g, 0, none⟩ 1 [UInt8.ofNat k] Tryz.underlying22 Tryz.underlying5 Tryz.underlying9 (fun j hj => by
    have hj0 : j = 0 := by simp at hj; exact hj
    subst hj0
    have e : ((UInt8.ofNat k).toNat : Int) = k := by simp; omega
    show World.cell? w ⟨g, 0, none⟩ = some (.int .u8 ((UInt8.ofNat k).toNat : Int))
    rw [e]
    exact hcell)
  have hw : (convert 22 9 (.slice (some ⟨g, 0, none⟩) 1 1)).run Tryz.prog w = .ok (.string ⟨#[UInt8.ofNat k]⟩) w := hw
  unfold Oper.wp
  generalize a.eval = ev at hx ⊢
  simp [execOp, ho, hx, hw]
  exact hk
/-- The region ends, and all slots hold what they should. -/
theorem region_all {id : Nat} {tmps : Array Value} {ops' : Array Oper} (hk : RegK ops n nt a0 b0 S F) (hops : ops = ops') (hsz : tmps.size = nt) (hf : ∀ x ∈ F, tmps.getD x.1 undef = x.2)
    (hstep : ∀ L a w i, L.size = n → JR n nt a0 b0 S F W L a w → i ∈ Region.ready .any ops L → i < n → wpOp Tryz.prog ops Q i (JR n nt a0 b0 S F W (L.setIfInBounds i true)) a w)
    (hQ : ∀ (tm : Array Value) (w : World), tm.size = nt → (∀ x ∈ F, tm.getD x.1 undef = x.2) → (∀ (i : Nat) (s : SD), S[i]? = some s → s.at w (tm.getD (dR n a0 b0 i) undef)) → Below W.heap.size W w → Q .normal ⟨tm, []⟩ w) : (Code.region id ops' true).wp Tryz.prog Q ⟨tmps, []⟩ W := by
  subst hops
  have hm : Tryz.prog.follows .mixedOrders = true := by kernel_rfl
  refine wp_region_inv (JR n nt a0 b0 S F W) hm ⟨hsz, rfl, ⟨rfl, rfl, rfl, Nat.le_refl _, fun k _ => rfl⟩, hf, fun i s hs hl => ?_⟩ (fun L a w i hL hJ hr => ?_) (fun L a w hL hJ hr => ?_)
  · exfalso
    rw [Array.getD_eq_getD_getElem?, Array.getElem?_replicate] at hl
    split at hl <;> simp at hl
  · have hi := (ready_iff.1 hr).1
    rw [hk.sz] at hi hL
    exact hstep L a w i hL hJ hr hi
  · have hl := all_listed hk.acy hL hr
    obtain ⟨tm, df⟩ := a
    obtain ⟨j1, j2, j3, j4, j6⟩ := hJ
    simp only at j2
    subst j2
    exact hQ _ _ j1 j4 (fun i s hs => j6 i s hs (hl i (by have := (List.getElem?_eq_some_iff.1 hs).1; have := hk.len; rw [hk.sz]; omega))) j3
end

end Go.Proofs.YtjeplmnjgdpgbaaGreatDoor

/-! The last region of the law's awake: whatever order its operations take, it says true. No condition. -/
namespace Go.Proofs.YtjeplmnjgdpgbaaGreatDoor
open Go.RowKit Go.Lib
set_option linter.unusedVariables false
set_option linter.unusedSimpArgs false

noncomputable def opsAw : Array Oper := ((Tryz.prog.funcs[5]?.bind (·.body)).map (opsAt 3)).getD #[]
theorem entD : ∀ args w, (callFunc 9 args).run Tryz.prog w = .ok (.enter 9 args) w := enters_of Tryz.func9 (by kernel_rfl) rfl
theorem entN : ∀ args w, (callFunc 10 args).run Tryz.prog w = .ok (.enter 10 args) w := enters_of Tryz.func10 (by kernel_rfl) rfl
theorem entM : ∀ args w, (callFunc 8 args).run Tryz.prog w = .ok (.enter 8 args) w := enters_of Tryz.func8 (by kernel_rfl) rfl
theorem entT : ∀ args w, (callFunc 14 args).run Tryz.prog w = .ok (.enter 14 args) w := enters_of Tryz.func14 (by kernel_rfl) rfl
theorem entS : ∀ args w, (callFunc 15 args).run Tryz.prog w = .ok (.enter 15 args) w := enters_of Tryz.func15 (by kernel_rfl) rfl
noncomputable def sAw (C A : Nat) (x y : ReV) : List SD := [.x awR, .x awR, .x awR, .v tt, .v tt, .x awR, .x emptyM, .v (.int .i64 1), .v tt, .v tt, .v tt, .x awR, .v (.bool false), .v tt, .v tt, .v tt, .x awR, .v tt, .v tt, .v tt, .x awR, .v (.bool false), .v tt, .v tt, .v tt, .x awA, .x (starM awA), .v tt, .v tt, .v tt]
noncomputable def fAw (C A : Nat) (x y : ReV) : List (Nat × Value) := [(3, .pointer (some ⟨C, 0, none⟩)), (1, .pointer (some ⟨A, 0, none⟩))]
theorem regKAw (C A : Nat) (x y : ReV) : RegK opsAw 30 42 0 13 (sAw C A x y) (fAw C A x y) :=
  ⟨by kernel_rfl, by kernel_rfl, rfl, by decide, by decide, (fun x hx => by simp [fAw] at hx; rcases hx with rfl | rfl <;> simp)⟩
/-- What is known. -/
structure HAw (C A : Nat) (x y : ReV) (W : World) : Prop where
  hC : W.heap[C]? = some (.cells x.cells.toArray 29 (0, 0))
  hx : RAt W (fun _ => True) x awR
  hA : W.heap[A]? = some (.cells y.cells.toArray 29 (0, 0))
  hy : RAt W (fun _ => True) y awA
  hD97 : ∀ w, Below W.heap.size W w → ∀ y, RAt w (fun _ => True) y awR → Calls Tryz.prog 9 #[y.val, .int .i64 97] w (GivesRe (fun _ => True) awR w)
  hD98 : ∀ w, Below W.heap.size W w → ∀ y, RAt w (fun _ => True) y awR → Calls Tryz.prog 9 #[y.val, .int .i64 98] w (GivesRe (fun _ => True) emptyM w)
  hS : ∀ w, Below W.heap.size W w → ∀ y y', RAt w (fun _ => True) y awR → RAt w (fun _ => True) y' awR → Calls Tryz.prog 15 #[y.val, y'.val] w (GivesBool true w)
  hN : ∀ w, Below W.heap.size W w → ∀ y, RAt w (fun _ => True) y awR → Calls Tryz.prog 10 #[y.val] w (GivesBool false w)
  hM1 : ∀ w, Below W.heap.size W w → ∀ y, RAt w (fun _ => True) y awR → Calls Tryz.prog 8 #[y.val, .string ⟨#[97, 97, 98]⟩] w (GivesBool true w)
  hM2 : ∀ w, Below W.heap.size W w → ∀ y, RAt w (fun _ => True) y awR → Calls Tryz.prog 8 #[y.val, .string ⟨#[97, 98, 97]⟩] w (GivesBool false w)
  hSt : ∀ w, Below W.heap.size W w → ∀ y, RAt w (fun _ => True) y awA → Calls Tryz.prog 14 #[y.val] w (GivesRe (fun _ => True) (starM awA) w)
  hN2 : ∀ w, Below W.heap.size W w → ∀ y, RAt w (fun _ => True) y (starM awA) → Calls Tryz.prog 10 #[y.val] w (GivesBool true w)
set_option maxRecDepth 100000 in
set_option maxHeartbeats 8000000 in
theorem stepAw (C A : Nat) (x y : ReV) {W w : World} {L : Array Bool} {a : Act} {i : Nat} {Q : Exit → Act → World → Prop} (hH : HAw C A x y W) (hL : L.size = 30) (hJ : JR 30 42 0 13 (sAw C A x y) (fAw C A x y) W L a w) (hr : i ∈ Region.ready .any opsAw L) (hi : i < 30) : wpOp Tryz.prog opsAw Q i (JR 30 42 0 13 (sAw C A x y) (fAw C A x y) W (L.setIfInBounds i true)) a w := by
  have hk := regKAw C A x y
  match i, hi with
  | 0, _ => exact atP (d := 13) (by kernel_rfl) fun o ho hd => opLoad (d := 3) (hJ.2.2.2.1 (3, .pointer (some ⟨C, 0, none⟩)) (by simp [fAw])) ((hJ.2.2.1.block _ (Array.getElem?_eq_some_iff.1 hH.hC).1).trans hH.hC) (hH.hx.under hJ.2.2.1) ho (fun v w' hs hb => by rw [hd]; exact hJ.step hk (i := 0) (s := .x awR) rfl hL hs hb)
  | 1, _ => exact atP (d := 14) (by kernel_rfl) fun o ho hd => opTreeV (T := #[29, 3]) (x' := .const (.int .i64 97)) (d := 13) (s := (SD.x awR)) (u' := .int .i64 97) (hJ.get (i := 1) (j := 0) hr (by kernel_rfl) rfl) rfl ho (fun y hy => hH.hD97 w hJ.2.2.1 y hy) entD (fun _ _ h => treeOf h) (fun v w' hs hb => by rw [hd]; exact hJ.step hk (i := 1) (s := .x awR) rfl hL hs hb)
  | 2, _ => exact atP (d := 15) (by kernel_rfl) fun o ho hd => opLoad (d := 3) (hJ.2.2.2.1 (3, .pointer (some ⟨C, 0, none⟩)) (by simp [fAw])) ((hJ.2.2.1.block _ (Array.getElem?_eq_some_iff.1 hH.hC).1).trans hH.hC) (hH.hx.under hJ.2.2.1) ho (fun v w' hs hb => by rw [hd]; exact hJ.step hk (i := 2) (s := .x awR) rfl hL hs hb)
  | 3, _ => exact atP (d := 16) (by kernel_rfl) fun o ho hd => opTrees (T := #[29, 29]) (d := 14) (d' := 15) (s := (SD.v tt)) (hJ.get (i := 3) (j := 1) hr (by kernel_rfl) rfl) (hJ.get (i := 3) (j := 2) hr (by kernel_rfl) rfl) ho (fun y y' hy hy' => hH.hS w hJ.2.2.1 y y' hy hy') entS (fun _ _ h => boolOf h) (fun v w' hs hb => by rw [hd]; exact hJ.step hk (i := 3) (s := .v tt) rfl hL hs hb)
  | 4, _ => exact atP (d := 17) (by kernel_rfl) fun o ho hd => opMove (d := 16) (s := (SD.v tt)) (hJ.get (i := 4) (j := 3) hr (by kernel_rfl) rfl) ho (fun v w' hs hb => by rw [hd]; exact hJ.step hk (i := 4) (s := .v tt) rfl hL hs hb)
  | 5, _ => exact atG (d := 18) (g := 4) (m := 17) (by kernel_rfl) (by kernel_rfl) (hJ.get (i := 5) (j := 4) hr (by kernel_rfl) rfl) fun o ho hd => opLoad (d := 3) (hJ.2.2.2.1 (3, .pointer (some ⟨C, 0, none⟩)) (by simp [fAw])) ((hJ.2.2.1.block _ (Array.getElem?_eq_some_iff.1 hH.hC).1).trans hH.hC) (hH.hx.under hJ.2.2.1) ho (fun v w' hs hb => by rw [hd]; exact hJ.step hk (i := 5) (s := .x awR) rfl hL hs hb)
  | 6, _ => exact atG (d := 19) (g := 4) (m := 17) (by kernel_rfl) (by kernel_rfl) (hJ.get (i := 6) (j := 4) hr (by kernel_rfl) rfl) fun o ho hd => opTreeV (T := #[29, 3]) (x' := .const (.int .i64 98)) (d := 18) (s := (SD.x emptyM)) (u' := .int .i64 98) (hJ.get (i := 6) (j := 5) hr (by kernel_rfl) rfl) rfl ho (fun y hy => hH.hD98 w hJ.2.2.1 y hy) entD (fun _ _ h => treeOf h) (fun v w' hs hb => by rw [hd]; exact hJ.step hk (i := 6) (s := .x emptyM) rfl hL hs hb)
  | 7, _ => exact atG (d := 20) (g := 4) (m := 17) (by kernel_rfl) (by kernel_rfl) (hJ.get (i := 7) (j := 4) hr (by kernel_rfl) rfl) fun o ho hd => opField (c := 19) (hJ.get (i := 7) (j := 6) hr (by kernel_rfl) rfl) ho (fun v w' hs hb => by rw [hd]; exact hJ.step hk (i := 7) (s := .v (.int .i64 1)) rfl hL hs hb)
  | 8, _ => exact atG (d := 21) (g := 4) (m := 17) (by kernel_rfl) (by kernel_rfl) (hJ.get (i := 8) (j := 4) hr (by kernel_rfl) rfl) fun o ho hd => opEqI (c := 20) (z := 1) (hJ.get (i := 8) (j := 7) hr (by kernel_rfl) rfl) ho (fun v w' hs hb => by rw [hd]; exact hJ.step hk (i := 8) (s := .v tt) rfl hL hs hb)
  | 9, _ => exact atP (d := 22) (by kernel_rfl) fun o ho hd => opPick (c := 17) (d := 21) (hJ.get (i := 9) (j := 4) hr (by kernel_rfl) rfl) (hJ.get (i := 9) (j := 8) hr (by kernel_rfl) rfl) ho (fun v w' hs hb => by rw [hd]; exact hJ.step hk (i := 9) (s := .v tt) rfl hL hs hb)
  | 10, _ => exact atP (d := 23) (by kernel_rfl) fun o ho hd => opMove (d := 22) (s := (SD.v tt)) (hJ.get (i := 10) (j := 9) hr (by kernel_rfl) rfl) ho (fun v w' hs hb => by rw [hd]; exact hJ.step hk (i := 10) (s := .v tt) rfl hL hs hb)
  | 11, _ => exact atG (d := 24) (g := 10) (m := 23) (by kernel_rfl) (by kernel_rfl) (hJ.get (i := 11) (j := 10) hr (by kernel_rfl) rfl) fun o ho hd => opLoad (d := 3) (hJ.2.2.2.1 (3, .pointer (some ⟨C, 0, none⟩)) (by simp [fAw])) ((hJ.2.2.1.block _ (Array.getElem?_eq_some_iff.1 hH.hC).1).trans hH.hC) (hH.hx.under hJ.2.2.1) ho (fun v w' hs hb => by rw [hd]; exact hJ.step hk (i := 11) (s := .x awR) rfl hL hs hb)
  | 12, _ => exact atG (d := 25) (g := 10) (m := 23) (by kernel_rfl) (by kernel_rfl) (hJ.get (i := 12) (j := 10) hr (by kernel_rfl) rfl) fun o ho hd => opTree (T := #[29]) (d := 24) (s := (SD.v (.bool false))) (hJ.get (i := 12) (j := 11) hr (by kernel_rfl) rfl) ho (fun y hy => hH.hN w hJ.2.2.1 y hy) entN (fun _ _ h => boolOf h) (fun v w' hs hb => by rw [hd]; exact hJ.step hk (i := 12) (s := .v (.bool false)) rfl hL hs hb)
  | 13, _ => exact atG (d := 26) (g := 10) (m := 23) (by kernel_rfl) (by kernel_rfl) (hJ.get (i := 13) (j := 10) hr (by kernel_rfl) rfl) fun o ho hd => opNot (c := 25) (b := false) (hJ.get (i := 13) (j := 12) hr (by kernel_rfl) rfl) ho (fun v w' hs hb => by rw [hd]; exact hJ.step hk (i := 13) (s := .v tt) rfl hL hs hb)
  | 14, _ => exact atP (d := 27) (by kernel_rfl) fun o ho hd => opPick (c := 23) (d := 26) (hJ.get (i := 14) (j := 10) hr (by kernel_rfl) rfl) (hJ.get (i := 14) (j := 13) hr (by kernel_rfl) rfl) ho (fun v w' hs hb => by rw [hd]; exact hJ.step hk (i := 14) (s := .v tt) rfl hL hs hb)
  | 15, _ => exact atP (d := 28) (by kernel_rfl) fun o ho hd => opMove (d := 27) (s := (SD.v tt)) (hJ.get (i := 15) (j := 14) hr (by kernel_rfl) rfl) ho (fun v w' hs hb => by rw [hd]; exact hJ.step hk (i := 15) (s := .v tt) rfl hL hs hb)
  | 16, _ => exact atG (d := 29) (g := 15) (m := 28) (by kernel_rfl) (by kernel_rfl) (hJ.get (i := 16) (j := 15) hr (by kernel_rfl) rfl) fun o ho hd => opLoad (d := 3) (hJ.2.2.2.1 (3, .pointer (some ⟨C, 0, none⟩)) (by simp [fAw])) ((hJ.2.2.1.block _ (Array.getElem?_eq_some_iff.1 hH.hC).1).trans hH.hC) (hH.hx.under hJ.2.2.1) ho (fun v w' hs hb => by rw [hd]; exact hJ.step hk (i := 16) (s := .x awR) rfl hL hs hb)
  | 17, _ => exact atG (d := 30) (g := 15) (m := 28) (by kernel_rfl) (by kernel_rfl) (hJ.get (i := 17) (j := 15) hr (by kernel_rfl) rfl) fun o ho hd => opTreeV (T := #[29, 9]) (x' := .const (.string ⟨#[97, 97, 98]⟩)) (d := 29) (s := (SD.v tt)) (u' := .string ⟨#[97, 97, 98]⟩) (hJ.get (i := 17) (j := 16) hr (by kernel_rfl) rfl) rfl ho (fun y hy => hH.hM1 w hJ.2.2.1 y hy) entM (fun _ _ h => boolOf h) (fun v w' hs hb => by rw [hd]; exact hJ.step hk (i := 17) (s := .v tt) rfl hL hs hb)
  | 18, _ => exact atP (d := 31) (by kernel_rfl) fun o ho hd => opPick (c := 28) (d := 30) (hJ.get (i := 18) (j := 15) hr (by kernel_rfl) rfl) (hJ.get (i := 18) (j := 17) hr (by kernel_rfl) rfl) ho (fun v w' hs hb => by rw [hd]; exact hJ.step hk (i := 18) (s := .v tt) rfl hL hs hb)
  | 19, _ => exact atP (d := 32) (by kernel_rfl) fun o ho hd => opMove (d := 31) (s := (SD.v tt)) (hJ.get (i := 19) (j := 18) hr (by kernel_rfl) rfl) ho (fun v w' hs hb => by rw [hd]; exact hJ.step hk (i := 19) (s := .v tt) rfl hL hs hb)
  | 20, _ => exact atG (d := 33) (g := 19) (m := 32) (by kernel_rfl) (by kernel_rfl) (hJ.get (i := 20) (j := 19) hr (by kernel_rfl) rfl) fun o ho hd => opLoad (d := 3) (hJ.2.2.2.1 (3, .pointer (some ⟨C, 0, none⟩)) (by simp [fAw])) ((hJ.2.2.1.block _ (Array.getElem?_eq_some_iff.1 hH.hC).1).trans hH.hC) (hH.hx.under hJ.2.2.1) ho (fun v w' hs hb => by rw [hd]; exact hJ.step hk (i := 20) (s := .x awR) rfl hL hs hb)
  | 21, _ => exact atG (d := 34) (g := 19) (m := 32) (by kernel_rfl) (by kernel_rfl) (hJ.get (i := 21) (j := 19) hr (by kernel_rfl) rfl) fun o ho hd => opTreeV (T := #[29, 9]) (x' := .const (.string ⟨#[97, 98, 97]⟩)) (d := 33) (s := (SD.v (.bool false))) (u' := .string ⟨#[97, 98, 97]⟩) (hJ.get (i := 21) (j := 20) hr (by kernel_rfl) rfl) rfl ho (fun y hy => hH.hM2 w hJ.2.2.1 y hy) entM (fun _ _ h => boolOf h) (fun v w' hs hb => by rw [hd]; exact hJ.step hk (i := 21) (s := .v (.bool false)) rfl hL hs hb)
  | 22, _ => exact atG (d := 35) (g := 19) (m := 32) (by kernel_rfl) (by kernel_rfl) (hJ.get (i := 22) (j := 19) hr (by kernel_rfl) rfl) fun o ho hd => opNot (c := 34) (b := false) (hJ.get (i := 22) (j := 21) hr (by kernel_rfl) rfl) ho (fun v w' hs hb => by rw [hd]; exact hJ.step hk (i := 22) (s := .v tt) rfl hL hs hb)
  | 23, _ => exact atP (d := 36) (by kernel_rfl) fun o ho hd => opPick (c := 32) (d := 35) (hJ.get (i := 23) (j := 19) hr (by kernel_rfl) rfl) (hJ.get (i := 23) (j := 22) hr (by kernel_rfl) rfl) ho (fun v w' hs hb => by rw [hd]; exact hJ.step hk (i := 23) (s := .v tt) rfl hL hs hb)
  | 24, _ => exact atP (d := 37) (by kernel_rfl) fun o ho hd => opMove (d := 36) (s := (SD.v tt)) (hJ.get (i := 24) (j := 23) hr (by kernel_rfl) rfl) ho (fun v w' hs hb => by rw [hd]; exact hJ.step hk (i := 24) (s := .v tt) rfl hL hs hb)
  | 25, _ => exact atG (d := 38) (g := 24) (m := 37) (by kernel_rfl) (by kernel_rfl) (hJ.get (i := 25) (j := 24) hr (by kernel_rfl) rfl) fun o ho hd => opLoad (d := 1) (hJ.2.2.2.1 (1, .pointer (some ⟨A, 0, none⟩)) (by simp [fAw])) ((hJ.2.2.1.block _ (Array.getElem?_eq_some_iff.1 hH.hA).1).trans hH.hA) (hH.hy.under hJ.2.2.1) ho (fun v w' hs hb => by rw [hd]; exact hJ.step hk (i := 25) (s := .x awA) rfl hL hs hb)
  | 26, _ => exact atG (d := 39) (g := 24) (m := 37) (by kernel_rfl) (by kernel_rfl) (hJ.get (i := 26) (j := 24) hr (by kernel_rfl) rfl) fun o ho hd => opTree (T := #[29]) (d := 38) (s := (SD.x (starM awA))) (hJ.get (i := 26) (j := 25) hr (by kernel_rfl) rfl) ho (fun y hy => hH.hSt w hJ.2.2.1 y hy) entT (fun _ _ h => treeOf h) (fun v w' hs hb => by rw [hd]; exact hJ.step hk (i := 26) (s := .x (starM awA)) rfl hL hs hb)
  | 27, _ => exact atG (d := 40) (g := 24) (m := 37) (by kernel_rfl) (by kernel_rfl) (hJ.get (i := 27) (j := 24) hr (by kernel_rfl) rfl) fun o ho hd => opTree (T := #[29]) (d := 39) (s := (SD.v tt)) (hJ.get (i := 27) (j := 26) hr (by kernel_rfl) rfl) ho (fun y hy => hH.hN2 w hJ.2.2.1 y hy) entN (fun _ _ h => boolOf h) (fun v w' hs hb => by rw [hd]; exact hJ.step hk (i := 27) (s := .v tt) rfl hL hs hb)
  | 28, _ => exact atP (d := 41) (by kernel_rfl) fun o ho hd => opPick (c := 37) (d := 40) (hJ.get (i := 28) (j := 24) hr (by kernel_rfl) rfl) (hJ.get (i := 28) (j := 27) hr (by kernel_rfl) rfl) ho (fun v w' hs hb => by rw [hd]; exact hJ.step hk (i := 28) (s := .v tt) rfl hL hs hb)
  | 29, _ => exact atP (d := 0) (by kernel_rfl) fun o ho hd => opAssign (d := 41) (s := (SD.v tt)) (hJ.get (i := 29) (j := 28) hr (by kernel_rfl) rfl) ho (fun v w' hs hb => by rw [hd]; exact hJ.step hk (i := 29) (s := .v tt) rfl hL hs hb)
  | n + 30, h => omega
set_option maxRecDepth 100000 in
/-- The region, whatever order its operations take. -/
theorem regAw (C A : Nat) (x y : ReV) {W : World} {tmps : Array Value} {ops : Array Oper} {Q : Exit → Act → World → Prop} (hH : HAw C A x y W) (hops : opsAw = ops) (hsz : tmps.size = 42) (hf : ∀ q0 ∈ fAw C A x y, tmps.getD q0.1 undef = q0.2)
    (hQ : ∀ (tm : Array Value) (w : World), tm.size = 42 → tm.getD 0 undef = .bool true → Below W.heap.size W w → Q .normal ⟨tm, []⟩ w) : (Code.region 3 ops true).wp Tryz.prog Q ⟨tmps, []⟩ W :=
  region_all (regKAw C A x y) hops hsz hf (fun L a w i hL hJ hr hi => stepAw C A x y hH hL hJ hr hi) (fun tm w h1 _ h3 h4 => hQ tm w h1 (h3 29 (.v tt) rfl) h4)

end Go.Proofs.YtjeplmnjgdpgbaaGreatDoor
