/- The document's Either. No condition but size. -/
import Derived.Test.YtchicecmoknkjabDoorRefP
namespace Go.Proofs.YtchicecmoknkjabDoor
open Go.RowKit Go.Lib
set_option linter.unusedVariables false
set_option linter.unusedSimpArgs false

theorem others_take (l : List RT) (i : Nat) (u : RT) (hu : l[i]? = some u) : othersM (l.take (i + 1)) = othersM (l.take i) ++ (if u.kind = 0 ∨ u.kind = 2 then [] else [u]) := by
  unfold othersM
  rw [List.take_add_one, hu, List.filter_append]
  congr 1
  by_cases h : u.kind = 0
  · simp [h]
  · by_cases h2 : u.kind = 2
    · simp [h2]
    · simp [h, h2]
theorem puts_snoc (L : List RT) (u : RT) : putsM (L ++ [u]) = putL txt u false (putsM L) := by
  unfold putsM
  rw [List.foldl_append]
  rfl
theorem puts_byte (F : List RT) : putsM (byteM F) = byteM F := by
  unfold byteM
  split <;> rfl
theorem cnt_pos {s : W4} (h : s.Ok) : (0 : Int) < (cnt s.mem 256 : Int) ↔ s ≠ W4.zero := by
  have := cnt_w4 h
  constructor
  · intro h1 e
    have := this.2 e
    omega
  · intro h1
    have : cnt s.mem 256 ≠ 0 := fun e => h1 (this.1 e)
    omega
theorem KidsR.weakP {W : World} {P P' : Nat → Prop} {p : Option Addr} {n cap : Nat} {vs : List ReV} {l : List RT} (h : KidsR W P p n cap vs l) (hk : ∀ b, P b → P' b) : KidsR W P' p n cap vs l := h.kept (Keeps.of (Nat.le_refl _) fun b hp _ => ⟨rfl, hk b hp⟩)

set_option maxRecDepth 100000 in
set_option maxHeartbeats 16000000 in
theorem refeither_any {P : Nat → Prop} (w : World) {p : Option Addr} {n cap : Nat} {vs : List ReV} {l : List RT} (h : KidsR w P p n cap vs l) (hsz : (l.map RT.sz).sum ≤ 1000000000) :
    Calls Tryd.prog 52 #[.slice p n cap] w (GivesRe (fun g => P g ∨ w.heap.size ≤ g) (eitherM l) w) := by
  obtain ⟨i0, hi0, hz0, hz1, hz2⟩ := re_parts
  obtain ⟨D, hD⟩ : ∃ D, D = w.heap.size := ⟨_, rfl⟩
  obtain ⟨w1, hw1⟩ : ∃ w1 : World, w1 = w.alloc (.cells #[.int .i64 0, .int .u64 0, .int .u64 0, .int .u64 0, .int .u64 0, .slice none 0 0] 30) := ⟨_, rfl⟩
  have hb1 : Below w.heap.size w w1 := by rw [hw1]; exact (Below.refl _ _).alloc (Nat.le_refl _) _
  have hnD : w1.heap[D]? = some (.cells #[.int .i64 0, .int .u64 0, .int .u64 0, .int .u64 0, .int .u64 0, .slice none 0 0] 30 (0, 0)) := by rw [hw1, hD]; exact heap_alloc_new _ _
  have h0 : KidsR w (fun g => P g ∧ g < w.heap.size) p n cap vs l := h.kept (Keeps.of (Nat.le_refl _) fun b hp hl => ⟨rfl, hp, hl⟩)
  have c1 := refflat_any w1 4 (h0.under hb1) hsz
  have hfl := flat_len 4 l
  have hfs : ∀ t ∈ flatM 4 l, t.sz ≤ 1000000000 := flat_all (fun t ht => by have := sum_mem ht; omega) fun y hy x hx => by have := kids_sz hx; have := sum_mem hy; omega
  obtain ⟨F, hF⟩ : ∃ F, F = flatM 4 l := ⟨_, rfl⟩
  obtain ⟨R, hR⟩ : ∃ R, R = eitherM l := ⟨_, rfl⟩
  rw [← hR]
  rw [← hF] at c1 hfl hfs
  have HR : Hid (R = someM 4 0 (putsM (byteM F ++ othersM F))) := by unfold Hid; rw [hR, hF]; rfl
  have HB1 := Lib.hid hb1
  have HND := Lib.hid hnD
  have HW1 := Lib.hid hw1
  have HDD := Lib.hid hD
  have HFS := Lib.hid hfs
  have hDl : D < w1.heap.size := (Array.getElem?_eq_some_iff.1 hnD).1
  have HDL := Lib.hid hDl
  clear h h0 hF hR hb1 hnD hw1 hD hDl hfs
  go_enter Tryd.func52, Tryd.ntmps52
  go_wp2_with fail
  rw [← HW1.out, ← HDD.out]
  ((with_reducible refine c1.mono ?_))
  rintro _ w2 ⟨v, us, rfl, hO, hb2⟩
  obtain ⟨q2, cp2, rfl, hk⟩ := hO.slice hb2
  obtain ⟨n2, hn2⟩ : ∃ n2, n2 = F.length := ⟨_, rfl⟩
  rw [← hn2] at hk ⊢ hfl
  obtain ⟨SB, hSB⟩ : ∃ SB, SB = w2.heap.size := ⟨_, rfl⟩
  obtain ⟨w3, hw3⟩ : ∃ w3 : World, w3 = w2.alloc (.cells #[.int .u64 0, .int .u64 0, .int .u64 0, .int .u64 0] 28) := ⟨_, rfl⟩
  have HB3 : Hid (Below w2.heap.size w2 w3) := by unfold Hid; rw [hw3]; exact (Below.refl _ _).alloc (Nat.le_refl _) _
  have HNS : Hid (w3.heap[SB]? = some (.cells #[.int .u64 0, .int .u64 0, .int .u64 0, .int .u64 0] 28 (0, 0))) := by unfold Hid; rw [hw3, hSB]; exact heap_alloc_new _ _
  have HK2 := Lib.hid hk
  have HN2 := Lib.hid hn2
  have HB2 := Lib.hid hb2
  have H2D : Hid (w2.heap[D]? = some (.cells #[.int .i64 0, .int .u64 0, .int .u64 0, .int .u64 0, .int .u64 0, .slice none 0 0] 30 (0, 0))) := (hb2.block D HDL.out).trans HND.out
  have h12 : w1.heap.size ≤ w2.heap.size := hb2.size
  have hn2b : n2 ≤ 1000000000 := by omega
  have HW3 := Lib.hid hw3
  have HSB := Lib.hid hSB
  have hS2 : w2.heap.size ≤ SB := by omega
  have mixed : Tryd.prog.follows .mixedOrders = true := by kernel_rfl
  clear hO hk hn2 hb2 c1 hw3 hSB
  go_wp2_with fail
  rw [← HW3.out, ← HSB.out]
  go_loopg [6] n2 (fun gk vi wr => ∃ (i : Nat) (a0 a1 a2 a3 : Int), vi = .int .i64 (i : Int) ∧ i ≤ n2 ∧ n2 - i ≤ gk ∧ Hid (Below w2.heap.size w2 wr) ∧ Hid (wr.heap[SB]? = some (.cells #[.int .u64 a0, .int .u64 a1, .int .u64 a2, .int .u64 a3] 28 (0, 0))) ∧ Hid (IsSet a0 a1 a2 a3 (unF (F.take i))))
  case atStart => exact ⟨0, 0, 0, 0, 0, rfl, by omega, by omega, HB3.out, HNS.out, zero_isSet⟩
  case round =>
    obtain ⟨i, a0, a1, a2, a3, rfl, hi, hgk, HB, HS, HI⟩ := hrel
    have hsb := HS.out
    by_cases hlt : i < n2
    · have hltz : (i : Int) < (n2 : Int) := by omega
      obtain ⟨g, off, rfl⟩ := HK2.out.rowv.some_of hlt
      have hil : i < F.length := by rw [← HN2.out]; exact hlt
      obtain ⟨y, hy⟩ : ∃ y, us[i]? = some y := ⟨_, List.getElem?_eq_getElem (by rw [HK2.out.len]; exact hil)⟩
      obtain ⟨u, hu⟩ : ∃ u, F[i]? = some u := ⟨_, List.getElem?_eq_getElem hil⟩
      have hpl := HK2.out.place hy
      have hra := HK2.out.each i y u hy hu
      obtain ⟨ws, et, hyok, _⟩ := hra.kids
      have hukd : u.kind = y.kind := by rw [et]; rfl
      have huset : u.set = y.w4 := by rw [et]; rfl
      clear et
      have htk := unF_take F i u hu
      obtain ⟨k, a, b, c, d, q, m, cp⟩ := y
      simp only at hukd
      obtain ⟨p0, p1, p2, p3, p4, p5⟩ := (hpl.under HB.out).six
      simp only at p0 p1 p2 p3 p4 p5
      have HTK := Lib.hid htk
      have HUK := Lib.hid hukd
      have HUS := Lib.hid huset
      have HYO := Lib.hid hyok
      clear hpl hra hukd huset hyok htk hy hu hil
      by_cases hk : k = 2
      · subst hk
        have s0 : wr.cell? ⟨SB, 0, none⟩ = some (.int .u64 a0) := by simp [World.cell?, hsb]
        have s1 : wr.cell? ⟨SB, 1, none⟩ = some (.int .u64 a1) := by simp [World.cell?, hsb]
        have s2 : wr.cell? ⟨SB, 2, none⟩ = some (.int .u64 a2) := by simp [World.cell?, hsb]
        have s3 : wr.cell? ⟨SB, 3, none⟩ = some (.int .u64 a3) := by simp [World.cell?, hsb]
        have HC : Hid (∀ W, Calls Tryd.prog 63 #[.agg #[.int .u64 a0, .int .u64 a1, .int .u64 a2, .int .u64 a3], .agg #[.int .u64 a, .int .u64 b, .int .u64 c, .int .u64 d]] W (RetSet _ W)) := fun W => refjoin_any a0 a1 a2 a3 a b c d _ _ W HI.out (W4.isSet HYO.out)
        have HQ : Hid (∀ w4, Below wr.drew.heap.size wr.drew w4 → (w4.cell? ⟨SB, 0, none⟩ = some (.int .u64 a0) ∧ w4.cell? ⟨SB, 1, none⟩ = some (.int .u64 a1) ∧ w4.cell? ⟨SB, 2, none⟩ = some (.int .u64 a2) ∧ w4.cell? ⟨SB, 3, none⟩ = some (.int .u64 a3)) ∧ (w4.frozen? ⟨SB, 0, none⟩ = false ∧ w4.frozen? ⟨SB, 1, none⟩ = false ∧ w4.frozen? ⟨SB, 2, none⟩ = false ∧ w4.frozen? ⟨SB, 3, none⟩ = false) ∧ Hid (Below w2.heap.size w2 w4) ∧ Hid (w4.heap[SB]? = some (.cells #[.int .u64 a0, .int .u64 a1, .int .u64 a2, .int .u64 a3] 28 (0, 0)))) := by
          intro w4 hb
          have e4 : w4.heap[SB]? = some (.cells #[.int .u64 a0, .int .u64 a1, .int .u64 a2, .int .u64 a3] 28 (0, 0)) := (hb.block SB (Array.getElem?_eq_some_iff.1 HS.out).1).trans HS.out
          refine ⟨⟨?_, ?_, ?_, ?_⟩, ⟨frozen_no e4 _, frozen_no e4 _, frozen_no e4 _, frozen_no e4 _⟩, (below_drawn HB.out 1).trans (hb.mono HB.out.size), e4⟩
          · simp [World.cell?, e4]
          · simp [World.cell?, e4]
          · simp [World.cell?, e4]
          · simp [World.cell?, e4]
        clear hsb
        go_wp2_with fail
        go_region_law (first
          | (go_simp; go_at_call 63; (with_reducible (refine (HC.out _).mono ?_)); rintro _ w4 ⟨b0, b1, b2, b3, hr, rfl, hb4⟩; obtain ⟨⟨t0, t1, t2, t3⟩, ⟨f0, f1, f2, f3⟩, HB4, H4⟩ := HQ.out w4 hb4; have HRR := Lib.hid hr; clear hb4 hr)
          | fail)
        all_goals go_wp2
        all_goals
          go_roundg (n2 - (i + 1))
          case measure => omega
          case rel =>
            refine ⟨i + 1, b0, b1, b2, b3, by go_num, by omega, Nat.le_refl _, four_below HB4.out hS2 _ _ _ _, set4_heap H4.out _ _ _ _, ?_⟩
            exact HRR.out.congr fun b hb => by rw [HTK.out, HUK.out, HUS.out]; rfl
      · have hkz : (k == 2) = false := by simpa using hk
        have HKZ := Lib.hid hkz
        clear hk hsb
        go_wp2
        go_roundg (n2 - (i + 1))
        case measure => omega
        case rel =>
          refine ⟨i + 1, a0, a1, a2, a3, by go_num, by omega, Nat.le_refl _, HB, HS, ?_⟩
          exact HI.out.congr fun b hb => by rw [HTK.out, HUK.out, HKZ.out, Bool.false_and, Bool.or_false]
    · have hltz : ¬ (i : Int) < (n2 : Int) := by omega
      have eF : F.take i = F := List.take_of_length_le (by rw [← HN2.out]; omega)
      have hs := HI.out
      rw [eF] at hs
      have hU : (⟨a0, a1, a2, a3⟩ : W4) = unionM F := by rw [isSet_of hs]; rfl
      have hok : (⟨a0, a1, a2, a3⟩ : W4).Ok := by rw [hU]; exact of_ok _
      have s0 : wr.cell? ⟨SB, 0, none⟩ = some (.int .u64 a0) := by simp [World.cell?, hsb]
      have s1 : wr.cell? ⟨SB, 1, none⟩ = some (.int .u64 a1) := by simp [World.cell?, hsb]
      have s2 : wr.cell? ⟨SB, 2, none⟩ = some (.int .u64 a2) := by simp [World.cell?, hsb]
      have s3 : wr.cell? ⟨SB, 3, none⟩ = some (.int .u64 a3) := by simp [World.cell?, hsb]
      have c5 := fun W => refcount_any a0 a1 a2 a3 _ W (W4.isSet hok)
      have hpos := cnt_pos hok
      obtain ⟨CN, hCN⟩ : ∃ CN : Int, CN = (cnt (W4.mem ⟨a0, a1, a2, a3⟩) 256 : Int) := ⟨_, rfl⟩
      rw [← hCN] at c5 hpos
      have HU := Lib.hid hU
      have HOK := Lib.hid hok
      have HPOS := Lib.hid hpos
      have HSI := Lib.hid HS.out
      have c6 := c5 wr
      clear eF hs hU hok hpos hCN hsb HI c5
      go_wp2_with fail
      ((with_reducible refine c6.mono ?_))
      rintro _ w5 ⟨rfl, hb5⟩
      have hB25 : Below w2.heap.size w2 w5 := HB.out.trans (hb5.mono HB.out.size)
      have HB5 := Lib.hid hB25
      have h5S := (hb5.block SB (Array.getElem?_eq_some_iff.1 HSI.out).1).trans HSI.out
      have H5S := Lib.hid h5S
      clear hb5 hB25 c6 s0 s1 s2 s3 hlt hltz
      have cont : ∀ (W : World) (q0 : Option Addr) (N cp0 : Nat) (us0 : List ReV), True := fun _ _ _ _ _ => trivial
      by_cases hz : (⟨a0, a1, a2, a3⟩ : W4) = W4.zero
      · have hcz : ¬ CN > 0 := fun h => (HPOS.out.1 h) hz
        have HBY : Hid (byteM F = []) := by unfold Hid; unfold byteM; rw [← HU.out, if_pos hz]
        have HB7 : Hid (Below w2.heap.size w2 w5) := HB5
        have HK7 : Hid (KidsR w5 (fun g => (P g ∧ g < w.heap.size) ∨ w1.heap.size ≤ g) none 0 0 [] (putsM (byteM F ++ othersM (F.take 0)))) := by unfold Hid; rw [HBY.out]; exact kids_empty
        clear hz h5S cont
        go_wp2_with fail
        go_loopg [4, 7] n2 (fun gk v vi wr => ∃ (j : Nat) (q : Option Addr) (N cp : Nat) (us3 : List ReV), v = .slice q N cp ∧ vi = .int .i64 (j : Int) ∧ j ≤ n2 ∧ n2 - j ≤ gk ∧ N ≤ j + 1 ∧ Hid (Below w2.heap.size w2 wr) ∧ Hid (KidsR wr (fun g => (P g ∧ g < w.heap.size) ∨ w1.heap.size ≤ g) q N cp us3 (putsM (byteM F ++ othersM (F.take j)))) ∧ Hid (∀ t ∈ putsM (byteM F ++ othersM (F.take j)), t.sz ≤ 1000000000))
        case atStart =>
          refine ⟨0, none, 0, 0, [], rfl, rfl, by omega, by omega, by omega, HB7.out, HK7.out, ?_⟩
          intro t ht
          rcases List.mem_append.1 ((puts_asc _).2 t ht) with h | h
          · unfold byteM at h
            split at h
            · simp at h
            · simp at h; subst h; rw [sz_mk]; decide
          · simp [othersM] at h
        case round =>
          obtain ⟨j, q0, N, cp0, us3, rfl, rfl, hj, hgk, hNj, HBj, HKj, HZj⟩ := hrel
          by_cases hlt : j < n2
          · have hltz : (j : Int) < (n2 : Int) := by omega
            obtain ⟨g, off, rfl⟩ := HK2.out.rowv.some_of hlt
            have hil : j < F.length := by rw [← HN2.out]; exact hlt
            obtain ⟨y, hy⟩ : ∃ y, us[j]? = some y := ⟨_, List.getElem?_eq_getElem (by rw [HK2.out.len]; exact hil)⟩
            obtain ⟨u, hu⟩ : ∃ u, F[j]? = some u := ⟨_, List.getElem?_eq_getElem hil⟩
            have hpl := HK2.out.place hy
            have hra := (HK2.out.each j y u hy hu).under HBj.out
            have hukd : u.kind = y.kind := by obtain ⟨_, et, _⟩ := hra.kids; rw [et]; rfl
            have htk := others_take F j u hu
            have husz := HFS.out u (List.mem_of_getElem? hu)
            have c8 := refput_any wr HKj.out y u hra (by omega) HZj.out husz
            obtain ⟨k, a, b, c, d, q, m, cp⟩ := y
            simp only at hukd
            unfold ReV.val at c8
            simp only at c8
            obtain ⟨p0, p1, p2, p3, p4, p5⟩ := (hpl.under HBj.out).six
            simp only at p0 p1 p2 p3 p4 p5
            have HTK := Lib.hid htk
            have HUK := Lib.hid hukd
            have HUZ := Lib.hid husz
            clear hpl hra hukd htk hy hu hil husz
            by_cases hk0 : k = 0
            · have HT : Hid (othersM (F.take (j + 1)) = othersM (F.take j)) := by unfold Hid; rw [HTK.out, if_pos (.inl (by rw [HUK.out]; exact hk0)), List.append_nil]
              clear c8
              subst hk0
              go_wp2
              go_roundg (n2 - (j + 1))
              case measure => omega
              case rel => exact ⟨j + 1, q0, N, cp0, us3, rfl, by go_num, by omega, Nat.le_refl _, by omega, HBj.out, by rw [HT.out]; exact HKj.out, by rw [HT.out]; exact HZj.out⟩
            · have z0 : (k == 0) = false := by simpa using hk0
              by_cases hk2 : k = 2
              · have HT : Hid (othersM (F.take (j + 1)) = othersM (F.take j)) := by unfold Hid; rw [HTK.out, if_pos (.inr (by rw [HUK.out]; exact hk2)), List.append_nil]
                clear c8 z0 hk0
                subst hk2
                go_wp2
                go_roundg (n2 - (j + 1))
                case measure => omega
                case rel => exact ⟨j + 1, q0, N, cp0, us3, rfl, by go_num, by omega, Nat.le_refl _, by omega, HBj.out, by rw [HT.out]; exact HKj.out, by rw [HT.out]; exact HZj.out⟩
              · have z2 : (k == 2) = false := by simpa using hk2
                have HT : Hid (putsM (byteM F ++ othersM (F.take (j + 1))) = putL txt u false (putsM (byteM F ++ othersM (F.take j)))) := by
                  unfold Hid
                  rw [HTK.out, if_neg (by rw [HUK.out]; omega), ← List.append_assoc, puts_snoc]
                have y0 : (k != 0) = true := by simpa using hk0
                have y2 : (k != 2) = true := by simpa using hk2
                go_wp2_with fail
                ((with_reducible refine c8.mono ?_))
                rintro _ w9 ⟨v9, us9, rfl, hO9, hb9⟩
                obtain ⟨q9, cp9, rfl, hk9⟩ := hO9.slice hb9
                have hlen9 : (putL txt u false (putsM (byteM F ++ othersM (F.take j)))).length ≤ N + 1 := by
                  have h1 : ∀ (pb : Bool) (L : List RT), (putL txt u pb L).length ≤ L.length + (if pb then 0 else 1) := by
                    intro pb L
                    induction L generalizing pb with
                    | nil => cases pb <;> simp [putL]
                    | cons x L ih =>
                      rw [putL]
                      have i1 := ih true
                      have i2 := ih pb
                      simp only [if_true] at i1
                      split
                      · simp only [List.length_cons]; omega
                      · split
                        · rename_i hc
                          rw [hc.2]
                          simp only [List.length_cons, Bool.false_eq_true, if_false]
                          omega
                        · simp only [List.length_cons]; omega
                  have := h1 false (putsM (byteM F ++ othersM (F.take j)))
                  have := HKj.out.num
                  simp at *
                  omega
                have HZ9 : Hid (∀ t ∈ putL txt u false (putsM (byteM F ++ othersM (F.take j))), t.sz ≤ 1000000000) := by
                  intro t ht
                  rcases putL_sub u false _ t ht with rfl | h
                  · exact HUZ.out
                  · exact HZj.out t h
                have HB9 : Hid (Below w2.heap.size w2 w9) := HBj.out.trans (hb9.mono HBj.out.size)
                have hwj : w1.heap.size ≤ wr.heap.size := Nat.le_trans h12 HBj.out.size
                have HK9 : Hid (KidsR w9 (fun g => (P g ∧ g < w.heap.size) ∨ w1.heap.size ≤ g) q9 (putL txt u false (putsM (byteM F ++ othersM (F.take j)))).length cp9 us9 (putL txt u false (putsM (byteM F ++ othersM (F.take j))))) := hk9.weakP fun b hb => by
                  rcases hb with h | h
                  · exact h
                  · exact .inr (by omega)
                obtain ⟨N9, hN9⟩ : ∃ N9, N9 = (putL txt u false (putsM (byteM F ++ othersM (F.take j)))).length := ⟨_, rfl⟩
                rw [← hN9] at HK9 hlen9 ⊢
                clear hO9 hb9 hk9 c8 hN9
                go_wp2
                go_roundg (n2 - (j + 1))
                case measure => omega
                case rel => exact ⟨j + 1, q9, N9, cp9, us9, rfl, by go_num, by omega, Nat.le_refl _, by omega, HB9.out, by rw [HT.out]; exact HK9.out, by rw [HT.out]; exact HZ9.out⟩
          · have hltz : ¬ (j : Int) < (n2 : Int) := by omega
            have eF : F.take j = F := List.take_of_length_le (by rw [← HN2.out]; omega)
            have hkj := HKj.out
            rw [eF] at hkj
            have hall : Below w.heap.size w wr := HB1.out.trans ((HB2.out.trans (HBj.out.mono HB2.out.size)).mono HB1.out.size)
            have hrD := (HBj.out.block D (Nat.lt_of_lt_of_le HDL.out h12)).trans H2D.out
            have HRD := Lib.hid hrD
            have HALL := Lib.hid hall
            have HKJ := Lib.hid hkj
            clear eF hkj hall
            by_cases hN0 : N = 0
            · have hNz : ((N : Int) == 0) = true := by simp [hN0]
              have HL0 : Hid (putsM (byteM F ++ othersM F) = []) := List.length_eq_zero_iff.1 (by rw [← HKJ.out.num]; exact hN0)
              have d0 : wr.cell? ⟨D, 0, none⟩ = some (.int .i64 0) := by simp [World.cell?, hrD]
              have d1 : wr.cell? ⟨D, 1, none⟩ = some (.int .u64 0) := by simp [World.cell?, hrD]
              have d2 : wr.cell? ⟨D, 2, none⟩ = some (.int .u64 0) := by simp [World.cell?, hrD]
              have d3 : wr.cell? ⟨D, 3, none⟩ = some (.int .u64 0) := by simp [World.cell?, hrD]
              have d4 : wr.cell? ⟨D, 4, none⟩ = some (.int .u64 0) := by simp [World.cell?, hrD]
              have d5 : wr.cell? ⟨D, 5, none⟩ = some (.slice none 0 0) := by simp [World.cell?, hrD]
              have f0 := frozen_no hrD 0
              have f1 := frozen_no hrD 1
              have f2 := frozen_no hrD 2
              have f3 := frozen_no hrD 3
              have f4 := frozen_no hrD 4
              have f5 := frozen_no hrD 5
              clear hN0 hrD
              go_wp2
              refine bodyPost_ret_by (results_cell_row rfl _ _ D 30 #[.int .i64 0, .int .u64 0, .int .u64 0, .int .u64 0, .int .u64 0, .slice none 0 0] (0, 0) _ rfl (set6_heap HRD.out _ _ _ _ _ _) Tryd.underlying30 rfl (by kernel_rfl)) rfl ?_
              refine ⟨⟨0, 0, 0, 0, 0, none, 0, 0⟩, rfl, ?_, six_set HALL.out (by have := HDD.out; omega) _ _ _ _ _ _⟩
              rw [HR.out, HL0.out]
              exact kids_empty.tree 0 W4.zero zero_ok
            · have hNz : ((N : Int) == 0) = false := by simp; omega
              have c5 := refsome_any wr 4 0 HKJ.out (by omega)
              clear hN0 hrD
              go_wp2_with fail
              ((with_reducible refine c5.mono ?_))
              rintro _ w6 ⟨x, rfl, hx, hb6⟩
              obtain ⟨k, a, b, c, d, q6, m, cp6⟩ := x
              have h6D := (hb6.block D (Nat.lt_of_lt_of_le HDL.out (Nat.le_trans h12 HBj.out.size))).trans HRD.out
              have H6D := Lib.hid h6D
              have d0 : w6.cell? ⟨D, 0, none⟩ = some (.int .i64 0) := by simp [World.cell?, h6D]
              have d1 : w6.cell? ⟨D, 1, none⟩ = some (.int .u64 0) := by simp [World.cell?, h6D]
              have d2 : w6.cell? ⟨D, 2, none⟩ = some (.int .u64 0) := by simp [World.cell?, h6D]
              have d3 : w6.cell? ⟨D, 3, none⟩ = some (.int .u64 0) := by simp [World.cell?, h6D]
              have d4 : w6.cell? ⟨D, 4, none⟩ = some (.int .u64 0) := by simp [World.cell?, h6D]
              have d5 : w6.cell? ⟨D, 5, none⟩ = some (.slice none 0 0) := by simp [World.cell?, h6D]
              have f0 := frozen_no h6D 0
              have f1 := frozen_no h6D 1
              have f2 := frozen_no h6D 2
              have f3 := frozen_no h6D 3
              have f4 := frozen_no h6D 4
              have f5 := frozen_no h6D 5
              have HX := Lib.hid hx
              have HB6 := Lib.hid hb6
              clear hx hb6 h6D c5
              unfold ReV.val
              go_wp2
              refine bodyPost_ret_by (results_cell_row rfl _ _ D 30 #[.int .i64 k, .int .u64 a, .int .u64 b, .int .u64 c, .int .u64 d, .slice q6 m cp6] (0, 0) _ rfl (set6_heap H6D.out _ _ _ _ _ _) Tryd.underlying30 rfl (by kernel_rfl)) rfl ?_
              have hall : Below w.heap.size w w6 := HALL.out.trans (HB6.out.mono HALL.out.size)
              refine ⟨⟨k, a, b, c, d, q6, m, cp6⟩, rfl, ?_, six_set hall (by have := HDD.out; omega) _ _ _ _ _ _⟩
              rw [HR.out]
              refine HX.out.kept (Keeps.of (by simp [World.setCell]) fun b hp hl => ?_)
              have hbD : b ≠ D := by
                have h1 := HDD.out
                have h2 : w1.heap.size = D + 1 := by rw [HW1.out, h1]; simp
                rcases hp with ⟨_, hp⟩ | hp
                · omega
                · omega
              refine ⟨six_ne hbD _ _ _ _ _ _, ?_⟩
              rcases hp with ⟨hp, _⟩ | hp
              · exact .inl hp
              · exact .inr (Nat.le_trans HB1.out.size hp)
      · have hcz : CN > 0 := HPOS.out.2 hz
        have HBY : Hid (byteM F = [ofM ⟨a0, a1, a2, a3⟩]) := by unfold Hid; unfold byteM ofM; rw [← HU.out, if_neg hz, if_neg hz]
        have s0 : w5.cell? ⟨SB, 0, none⟩ = some (.int .u64 a0) := by simp [World.cell?, h5S]
        have s1 : w5.cell? ⟨SB, 1, none⟩ = some (.int .u64 a1) := by simp [World.cell?, h5S]
        have s2 : w5.cell? ⟨SB, 2, none⟩ = some (.int .u64 a2) := by simp [World.cell?, h5S]
        have s3 : w5.cell? ⟨SB, 3, none⟩ = some (.int .u64 a3) := by simp [World.cell?, h5S]
        have c7 := refofr_any (P := fun g => (P g ∧ g < w.heap.size) ∨ w1.heap.size ≤ g) w5 a0 a1 a2 a3 HOK.out
        clear hz h5S cont
        go_wp2_with fail
        ((with_reducible refine c7.mono ?_))
        rintro _ w6 ⟨x, rfl, hx, hb6⟩
        obtain ⟨k1, a1', b1, c1, d1, q1, m1, cp1⟩ := x
        have HX := Lib.hid hx
        have hB26 : Below w2.heap.size w2 w6 := HB5.out.trans (hb6.mono HB5.out.size)
        have HB6 := Lib.hid hB26
        have hw6 : w2.heap.size ≤ w6.heap.size := hB26.size
        have HOB : Hid ((w6.alloc (.cells #[.int .i64 k1, .int .u64 a1', .int .u64 b1, .int .u64 c1, .int .u64 d1, .slice q1 m1 cp1] 30)).ownsRow w2.heap.size 30 6 (.slice none 0 0) 0 []) := World.ownsRow_nil _ _ _ _
        clear hx hb6 hB26 c7 s0 s1 s2 s3
        unfold ReV.val
        go_wp2_with (at_builtin; go_loud (refine wpList_append_own_at _ rfl _ _ 24 rfl w2.heap.size 30 i0 _ 6 64 Tryd.underlying24 hi0 hz0 hz1 hz2 rfl (by decide) _ _ _ rfl HOB.out ⟨w6.heap.size, 0, none⟩ 1 1 [.int .i64 k1, .int .u64 a1', .int .u64 b1, .int .u64 c1, .int .u64 d1, .slice q1 m1 cp1] rfl rfl (new3 w6 #[.int .i64 k1, .int .u64 a1', .int .u64 b1, .int .u64 c1, .int .u64 d1, .slice q1 m1 cp1] 30 [.int .i64 k1, .int .u64 a1', .int .u64 b1, .int .u64 c1, .int .u64 d1, .slice q1 m1 cp1] rfl) ?c2 ?c3 ?c4 ?c5 ?_))
        case c2 => first | exact ⟨rfl, rfl, rfl, rfl, rfl, rfl⟩ | (intro x hx; simp at hx; rcases hx with rfl | rfl | rfl | rfl | rfl | rfl <;> rfl)
        case c3 => first | (unfold maxLen; omega) | decide
        case c4 => first | omega | decide
        case c5 => first | omega | (simp; omega)
        intro v' w7 hown hgrow _ hat
        obtain ⟨g4, cap4, rfl⟩ := (row_forms hown).resolve_left (fun h => by cases h.2)
        have hB67 : Below w6.heap.size w6 w7 := ((Below.refl _ _).alloc (Nat.le_refl _) _).grown hgrow (by simp) (fun r hr => by cases hr)
        have HB7 : Hid (Below w2.heap.size w2 w7) := HB6.out.trans (hB67.mono hw6)
        have HK7 : Hid (KidsR w7 (fun g => (P g ∧ g < w.heap.size) ∨ w1.heap.size ≤ g) (some ⟨g4, 0, none⟩) 1 cap4 [⟨k1, a1', b1, c1, d1, q1, m1, cp1⟩] (putsM (byteM F ++ othersM (F.take 0)))) := by
          unfold Hid
          rw [HBY.out]
          show KidsR w7 _ (some ⟨g4, 0, none⟩) 1 cap4 _ [ofM ⟨a0, a1, a2, a3⟩]
          have h1 : OwnRe w2 w7 (fun g => (P g ∧ g < w.heap.size) ∨ w1.heap.size ≤ g) (.slice (some ⟨g4, 0, none⟩) 1 cap4) [⟨k1, a1', b1, c1, d1, q1, m1, cp1⟩] [ofM ⟨a0, a1, a2, a3⟩] :=
            ⟨hown, rfl, fun i y t hy ht => by
              cases i with
              | zero => simp at hy ht; subst hy ht; exact HX.out.leaf (ofM_kids _)
              | succ i => simp at hy⟩
          obtain ⟨q', cp', e, h2⟩ := h1.slice HB7.out
          cases e
          exact h2.weakP fun b hb => by
            rcases hb with h | h
            · exact h
            · exact .inr (by omega)
        clear hown hgrow hat hB67
        go_wp2_with fail
        go_loopg [4, 7] n2 (fun gk v vi wr => ∃ (j : Nat) (q : Option Addr) (N cp : Nat) (us3 : List ReV), v = .slice q N cp ∧ vi = .int .i64 (j : Int) ∧ j ≤ n2 ∧ n2 - j ≤ gk ∧ N ≤ j + 1 ∧ Hid (Below w2.heap.size w2 wr) ∧ Hid (KidsR wr (fun g => (P g ∧ g < w.heap.size) ∨ w1.heap.size ≤ g) q N cp us3 (putsM (byteM F ++ othersM (F.take j)))) ∧ Hid (∀ t ∈ putsM (byteM F ++ othersM (F.take j)), t.sz ≤ 1000000000))
        case atStart =>
          refine ⟨0, some ⟨g4, 0, none⟩, 1, cap4, [⟨k1, a1', b1, c1, d1, q1, m1, cp1⟩], rfl, rfl, by omega, by omega, by omega, HB7.out, HK7.out, ?_⟩
          intro t ht
          rcases List.mem_append.1 ((puts_asc _).2 t ht) with h | h
          · unfold byteM at h
            split at h
            · simp at h
            · simp at h; subst h; rw [sz_mk]; decide
          · simp [othersM] at h
        case round =>
          obtain ⟨j, q0, N, cp0, us3, rfl, rfl, hj, hgk, hNj, HBj, HKj, HZj⟩ := hrel
          by_cases hlt : j < n2
          · have hltz : (j : Int) < (n2 : Int) := by omega
            obtain ⟨g, off, rfl⟩ := HK2.out.rowv.some_of hlt
            have hil : j < F.length := by rw [← HN2.out]; exact hlt
            obtain ⟨y, hy⟩ : ∃ y, us[j]? = some y := ⟨_, List.getElem?_eq_getElem (by rw [HK2.out.len]; exact hil)⟩
            obtain ⟨u, hu⟩ : ∃ u, F[j]? = some u := ⟨_, List.getElem?_eq_getElem hil⟩
            have hpl := HK2.out.place hy
            have hra := (HK2.out.each j y u hy hu).under HBj.out
            have hukd : u.kind = y.kind := by obtain ⟨_, et, _⟩ := hra.kids; rw [et]; rfl
            have htk := others_take F j u hu
            have husz := HFS.out u (List.mem_of_getElem? hu)
            have c8 := refput_any wr HKj.out y u hra (by omega) HZj.out husz
            obtain ⟨k, a, b, c, d, q, m, cp⟩ := y
            simp only at hukd
            unfold ReV.val at c8
            simp only at c8
            obtain ⟨p0, p1, p2, p3, p4, p5⟩ := (hpl.under HBj.out).six
            simp only at p0 p1 p2 p3 p4 p5
            have HTK := Lib.hid htk
            have HUK := Lib.hid hukd
            have HUZ := Lib.hid husz
            clear hpl hra hukd htk hy hu hil husz
            by_cases hk0 : k = 0
            · have HT : Hid (othersM (F.take (j + 1)) = othersM (F.take j)) := by unfold Hid; rw [HTK.out, if_pos (.inl (by rw [HUK.out]; exact hk0)), List.append_nil]
              clear c8
              subst hk0
              go_wp2
              go_roundg (n2 - (j + 1))
              case measure => omega
              case rel => exact ⟨j + 1, q0, N, cp0, us3, rfl, by go_num, by omega, Nat.le_refl _, by omega, HBj.out, by rw [HT.out]; exact HKj.out, by rw [HT.out]; exact HZj.out⟩
            · have z0 : (k == 0) = false := by simpa using hk0
              by_cases hk2 : k = 2
              · have HT : Hid (othersM (F.take (j + 1)) = othersM (F.take j)) := by unfold Hid; rw [HTK.out, if_pos (.inr (by rw [HUK.out]; exact hk2)), List.append_nil]
                clear c8 z0 hk0
                subst hk2
                go_wp2
                go_roundg (n2 - (j + 1))
                case measure => omega
                case rel => exact ⟨j + 1, q0, N, cp0, us3, rfl, by go_num, by omega, Nat.le_refl _, by omega, HBj.out, by rw [HT.out]; exact HKj.out, by rw [HT.out]; exact HZj.out⟩
              · have z2 : (k == 2) = false := by simpa using hk2
                have HT : Hid (putsM (byteM F ++ othersM (F.take (j + 1))) = putL txt u false (putsM (byteM F ++ othersM (F.take j)))) := by
                  unfold Hid
                  rw [HTK.out, if_neg (by rw [HUK.out]; omega), ← List.append_assoc, puts_snoc]
                have y0 : (k != 0) = true := by simpa using hk0
                have y2 : (k != 2) = true := by simpa using hk2
                go_wp2_with fail
                ((with_reducible refine c8.mono ?_))
                rintro _ w9 ⟨v9, us9, rfl, hO9, hb9⟩
                obtain ⟨q9, cp9, rfl, hk9⟩ := hO9.slice hb9
                have hlen9 : (putL txt u false (putsM (byteM F ++ othersM (F.take j)))).length ≤ N + 1 := by
                  have h1 : ∀ (pb : Bool) (L : List RT), (putL txt u pb L).length ≤ L.length + (if pb then 0 else 1) := by
                    intro pb L
                    induction L generalizing pb with
                    | nil => cases pb <;> simp [putL]
                    | cons x L ih =>
                      rw [putL]
                      have i1 := ih true
                      have i2 := ih pb
                      simp only [if_true] at i1
                      split
                      · simp only [List.length_cons]; omega
                      · split
                        · rename_i hc
                          rw [hc.2]
                          simp only [List.length_cons, Bool.false_eq_true, if_false]
                          omega
                        · simp only [List.length_cons]; omega
                  have := h1 false (putsM (byteM F ++ othersM (F.take j)))
                  have := HKj.out.num
                  simp at *
                  omega
                have HZ9 : Hid (∀ t ∈ putL txt u false (putsM (byteM F ++ othersM (F.take j))), t.sz ≤ 1000000000) := by
                  intro t ht
                  rcases putL_sub u false _ t ht with rfl | h
                  · exact HUZ.out
                  · exact HZj.out t h
                have HB9 : Hid (Below w2.heap.size w2 w9) := HBj.out.trans (hb9.mono HBj.out.size)
                have hwj : w1.heap.size ≤ wr.heap.size := Nat.le_trans h12 HBj.out.size
                have HK9 : Hid (KidsR w9 (fun g => (P g ∧ g < w.heap.size) ∨ w1.heap.size ≤ g) q9 (putL txt u false (putsM (byteM F ++ othersM (F.take j)))).length cp9 us9 (putL txt u false (putsM (byteM F ++ othersM (F.take j))))) := hk9.weakP fun b hb => by
                  rcases hb with h | h
                  · exact h
                  · exact .inr (by omega)
                obtain ⟨N9, hN9⟩ : ∃ N9, N9 = (putL txt u false (putsM (byteM F ++ othersM (F.take j)))).length := ⟨_, rfl⟩
                rw [← hN9] at HK9 hlen9 ⊢
                clear hO9 hb9 hk9 c8 hN9
                go_wp2
                go_roundg (n2 - (j + 1))
                case measure => omega
                case rel => exact ⟨j + 1, q9, N9, cp9, us9, rfl, by go_num, by omega, Nat.le_refl _, by omega, HB9.out, by rw [HT.out]; exact HK9.out, by rw [HT.out]; exact HZ9.out⟩
          · have hltz : ¬ (j : Int) < (n2 : Int) := by omega
            have eF : F.take j = F := List.take_of_length_le (by rw [← HN2.out]; omega)
            have hkj := HKj.out
            rw [eF] at hkj
            have hall : Below w.heap.size w wr := HB1.out.trans ((HB2.out.trans (HBj.out.mono HB2.out.size)).mono HB1.out.size)
            have hrD := (HBj.out.block D (Nat.lt_of_lt_of_le HDL.out h12)).trans H2D.out
            have HRD := Lib.hid hrD
            have HALL := Lib.hid hall
            have HKJ := Lib.hid hkj
            clear eF hkj hall
            by_cases hN0 : N = 0
            · have hNz : ((N : Int) == 0) = true := by simp [hN0]
              have HL0 : Hid (putsM (byteM F ++ othersM F) = []) := List.length_eq_zero_iff.1 (by rw [← HKJ.out.num]; exact hN0)
              have d0 : wr.cell? ⟨D, 0, none⟩ = some (.int .i64 0) := by simp [World.cell?, hrD]
              have d1 : wr.cell? ⟨D, 1, none⟩ = some (.int .u64 0) := by simp [World.cell?, hrD]
              have d2 : wr.cell? ⟨D, 2, none⟩ = some (.int .u64 0) := by simp [World.cell?, hrD]
              have d3 : wr.cell? ⟨D, 3, none⟩ = some (.int .u64 0) := by simp [World.cell?, hrD]
              have d4 : wr.cell? ⟨D, 4, none⟩ = some (.int .u64 0) := by simp [World.cell?, hrD]
              have d5 : wr.cell? ⟨D, 5, none⟩ = some (.slice none 0 0) := by simp [World.cell?, hrD]
              have f0 := frozen_no hrD 0
              have f1 := frozen_no hrD 1
              have f2 := frozen_no hrD 2
              have f3 := frozen_no hrD 3
              have f4 := frozen_no hrD 4
              have f5 := frozen_no hrD 5
              clear hN0 hrD
              go_wp2
              refine bodyPost_ret_by (results_cell_row rfl _ _ D 30 #[.int .i64 0, .int .u64 0, .int .u64 0, .int .u64 0, .int .u64 0, .slice none 0 0] (0, 0) _ rfl (set6_heap HRD.out _ _ _ _ _ _) Tryd.underlying30 rfl (by kernel_rfl)) rfl ?_
              refine ⟨⟨0, 0, 0, 0, 0, none, 0, 0⟩, rfl, ?_, six_set HALL.out (by have := HDD.out; omega) _ _ _ _ _ _⟩
              rw [HR.out, HL0.out]
              exact kids_empty.tree 0 W4.zero zero_ok
            · have hNz : ((N : Int) == 0) = false := by simp; omega
              have c5 := refsome_any wr 4 0 HKJ.out (by omega)
              clear hN0 hrD
              go_wp2_with fail
              ((with_reducible refine c5.mono ?_))
              rintro _ w6 ⟨x, rfl, hx, hb6⟩
              obtain ⟨k, a, b, c, d, q6, m, cp6⟩ := x
              have h6D := (hb6.block D (Nat.lt_of_lt_of_le HDL.out (Nat.le_trans h12 HBj.out.size))).trans HRD.out
              have H6D := Lib.hid h6D
              have d0 : w6.cell? ⟨D, 0, none⟩ = some (.int .i64 0) := by simp [World.cell?, h6D]
              have d1 : w6.cell? ⟨D, 1, none⟩ = some (.int .u64 0) := by simp [World.cell?, h6D]
              have d2 : w6.cell? ⟨D, 2, none⟩ = some (.int .u64 0) := by simp [World.cell?, h6D]
              have d3 : w6.cell? ⟨D, 3, none⟩ = some (.int .u64 0) := by simp [World.cell?, h6D]
              have d4 : w6.cell? ⟨D, 4, none⟩ = some (.int .u64 0) := by simp [World.cell?, h6D]
              have d5 : w6.cell? ⟨D, 5, none⟩ = some (.slice none 0 0) := by simp [World.cell?, h6D]
              have f0 := frozen_no h6D 0
              have f1 := frozen_no h6D 1
              have f2 := frozen_no h6D 2
              have f3 := frozen_no h6D 3
              have f4 := frozen_no h6D 4
              have f5 := frozen_no h6D 5
              have HX := Lib.hid hx
              have HB6 := Lib.hid hb6
              clear hx hb6 h6D c5
              unfold ReV.val
              go_wp2
              refine bodyPost_ret_by (results_cell_row rfl _ _ D 30 #[.int .i64 k, .int .u64 a, .int .u64 b, .int .u64 c, .int .u64 d, .slice q6 m cp6] (0, 0) _ rfl (set6_heap H6D.out _ _ _ _ _ _) Tryd.underlying30 rfl (by kernel_rfl)) rfl ?_
              have hall : Below w.heap.size w w6 := HALL.out.trans (HB6.out.mono HALL.out.size)
              refine ⟨⟨k, a, b, c, d, q6, m, cp6⟩, rfl, ?_, six_set hall (by have := HDD.out; omega) _ _ _ _ _ _⟩
              rw [HR.out]
              refine HX.out.kept (Keeps.of (by simp [World.setCell]) fun b hp hl => ?_)
              have hbD : b ≠ D := by
                have h1 := HDD.out
                have h2 : w1.heap.size = D + 1 := by rw [HW1.out, h1]; simp
                rcases hp with ⟨_, hp⟩ | hp
                · omega
                · omega
              refine ⟨six_ne hbD _ _ _ _ _ _, ?_⟩
              rcases hp with ⟨hp, _⟩ | hp
              · exact .inl hp
              · exact .inr (Nat.le_trans HB1.out.size hp)

end Go.Proofs.YtchicecmoknkjabDoor
