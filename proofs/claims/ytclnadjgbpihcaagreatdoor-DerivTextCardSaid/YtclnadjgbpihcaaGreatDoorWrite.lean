/- The text of the kids, one behind the other, and what stands behind them. No condition but the library's table and size. -/
import Derived.Test.YtclnadjgbpihcaaGreatDoorBegin
namespace Go.Proofs.YtclnadjgbpihcaaGreatDoor
open Go.RowKit Go.Lib
set_option linter.unusedVariables false
set_option linter.unusedSimpArgs false

theorem sepTake_len (bt : Tx) (hb : bt.length ≤ 1) (l : List RT) (i : Nat) (hi : i < l.length) : (sepB bt ((l.take i).map txt)).length + (if i = 0 then 0 else bt.length) + (txt l[i]).length ≤ (sepB bt (l.map txt)).length := by
  have h1 : ∀ (l m : List Tx), m ≠ [] → (sepB bt (l ++ m)).length = (sepB bt l).length + (if l = [] then 0 else bt.length) + (sepB bt m).length := by
    intro l
    induction l with
    | nil => intro m _; simp [sepB]
    | cons x l ih =>
      intro m hm
      cases l with
      | nil =>
        cases m with
        | nil => exact absurd rfl hm
        | cons y m => simp [sepB, Nat.add_assoc]
      | cons y l =>
        have := ih m hm
        simp only [List.cons_append] at this ⊢
        simp only [sepB, List.length_append]
        rw [this]
        simp
        omega
  have h2 : l.map txt = (l.take i).map txt ++ (txt l[i] :: (l.drop (i + 1)).map txt) := by
    have h0 : l = l.take i ++ l[i] :: l.drop (i + 1) := by
      rw [← List.drop_eq_getElem_cons hi]
      exact (List.take_append_drop i l).symm
    have h2 := congrArg (List.map txt) h0
    rw [List.map_append, List.map_cons] at h2
    exact h2
  have h3 : ∀ (x : Tx) (m : List Tx), x.length ≤ (sepB bt (x :: m)).length := fun x m => by
    cases m with
    | nil => simp [sepB]
    | cons y m => simp only [sepB, List.length_append]; omega
  rw [h2, h1 _ _ (by simp)]
  have := h3 (txt l[i]) ((l.drop (i + 1)).map txt)
  have h5 : ((l.take i).map txt = []) ↔ i = 0 := by
    constructor
    · intro h
      have h6 := congrArg List.length h
      rw [List.length_map, List.length_take, List.length_nil] at h6
      omega
    · intro h
      rw [h]
      rfl
  by_cases h0 : i = 0
  · rw [if_pos h0, if_pos (h5.2 h0)]
    omega
  · rw [if_neg h0, if_neg (fun h => h0 (h5.1 h))]
    omega
theorem txt_pos (t : RT) : 1 ≤ (txt t).length := by
  rw [txt_parts t, List.length_append, List.length_append]
  unfold headT endT
  by_cases h0 : t.kind = 0
  · simp [h0]
  · by_cases h1 : t.kind = 1
    · simp [h1]
    · by_cases h2 : t.kind = 2
      · simp [h2]
        try omega
      · by_cases h5 : t.kind = 5
        · simp [h5]
        · by_cases h3 : t.kind = 3
          · simp [h3]
            try omega
          · simp [h0, h1, h2, h3, h5]
            try omega
theorem sepB_count (c : Tx) : ∀ l : List RT, l.length ≤ (sepB c (l.map txt)).length
  | [] => Nat.zero_le _
  | [t] => txt_pos t
  | t :: u :: l => by
    have h1 := sepB_count c (u :: l)
    have h2 := txt_pos t
    simp only [List.map_cons, sepB, List.length_append, List.length_cons] at h1 ⊢
    omega
theorem btw_len (t : RT) : (btwT t).length ≤ 1 := by unfold btwT; split <;> simp
theorem end_len (t : RT) : (endT t).length ≤ 1 := by
  unfold endT
  split
  · simp
  · split
    · simp
    · split <;> simp
theorem Kpt.keepsD {B b : Nat} {w w' : World} (h : Kpt B b w w') : Keeps w w' (fun g => g ≠ b) (fun g => g ≠ b ∧ g ≠ w.heap.size) :=
  ⟨h.bel.size, fun g c t hp ht hg => ⟨h.block hg hp ht, hp, by have := (Array.getElem?_eq_some_iff.1 hg).1; omega⟩⟩
theorem keeps_set {w : World} {b D o : Nat} (ob : Obj) (v : Value) : Keeps w ((w.alloc ob).setCell ⟨D, o, none⟩ v) (fun g => g ≠ b ∧ g ≠ D) (fun g => g ≠ b) :=
  Keeps.of (by simp) fun g hp hg => ⟨(heap_set_ne _ _ _ (fun e => hp.2 e)).trans (heap_alloc_old _ _ _ hg), hp.1⟩

set_option maxRecDepth 100000 in
set_option maxHeartbeats 8000000 in
theorem write_any {wB : World} {B b : Nat} (hBB : wB.heap.size ≤ B) (hTB : Tab1 wB) : ∀ (N : Nat) (l : List RT) (room : Nat) (T bt en : Tx) (w : World) (pv : Option Addr) (nv cv : Nat) (vs : List ReV), (∀ t ∈ l, t.dep ≤ N) → N < room → room ≤ 10000 → Wr wB B b T w →
    KidsR w (fun g => g ≠ b) pv nv cv vs l → bt.length ≤ 1 → en.length ≤ 1 → T.length + (sepB bt (l.map txt)).length ≤ 30000000000000 →
    Calls Tryz.prog 80 #[.pointer (some ⟨b, 0, none⟩), .agg (partV pv nv cv 0 bt en), .int .i64 (room : Int)] w fun e w' => e = .returned (.slice none 0 0) ∧ Wr wB B b (T ++ (sepB bt (l.map txt) ++ en)) w' ∧ Kpt B b w w' := by
  intro N
  induction N with
  | zero =>
    intro l room T bt en w pv nv cv vs hdep hroom hr2 hw hk hbt hen hlen
    have e : l = [] := by
      cases l with
      | nil => rfl
      | cons a l => have := hdep a (by simp); have := dep_pos a; omega
    have HL0 := Lib.hid e
    clear e
    have hnv : nv ≤ 30000000000000 := by have := sepB_count bt l; have := hk.num; omega
    have hbl := hw.b_lt
    have HBT : Hid (∀ x : Tx, (⟨x.toArray⟩ : ByteArray) = ⟨x.toArray⟩) := fun _ => rfl
    obtain ⟨D, hD⟩ : ∃ D, D = w.heap.size := ⟨_, rfl⟩
    have hDb : D ≠ b := by omega
    have hBD : B ≤ D := by omega
    have hn0 := heap_alloc_new w (.cells (partV pv nv cv 0 bt en) 121)
    rw [← hD] at hn0
    have HN0 := Lib.hid hn0
    have HW0 := Lib.hid (hw.under ((Below.refl _ _).alloc (Nat.le_refl _) (.cells (partV pv nv cv 0 bt en) 121)))
    have HK0 : Hid (Kpt B b w (w.alloc (.cells (partV pv nv cv 0 bt en) 121))) := Kpt.of ((Below.refl _ _).alloc (Nat.le_refl _) _) hw.bsize
    have HDD := Lib.hid hD
    have HKIDS := Lib.hid hk
    have HNV := Lib.hid hk.num
    have HDEP := Lib.hid hdep
    have HTB := Lib.hid hTB
    obtain ⟨BT, hBT⟩ : ∃ BT : ByteArray, BT = ⟨bt.toArray⟩ := ⟨_, rfl⟩
    obtain ⟨EN, hEN⟩ : ∃ EN : ByteArray, EN = ⟨en.toArray⟩ := ⟨_, rfl⟩
    have HBTE := Lib.hid (And.intro hBT hEN)
    have hpV : ∀ i, partV pv nv cv i bt en = #[.slice pv nv cv, .int .i64 (i : Int), .string BT, .string EN] := fun i => by unfold partV; rw [hBT, hEN]
    have HPV := Lib.hid hpV
    have hr0 : ((room : Int) == 0) = false := by simp; omega
    obtain ⟨r, rfl⟩ : ∃ r, room = r + 1 := ⟨room - 1, by omega⟩
    rw [hpV 0] at HN0 HW0 HK0 ⊢
    clear hw hk hn0 hD hdep hTB hBT hEN hpV HBT
    go_enter Tryz.func80, Tryz.ntmps80
    go_wp2_with fail
    rw [← HDD.out]
    go_loopg [7] nv (fun gk v wr => ∃ i : Nat, i ≤ nv ∧ nv - i ≤ gk ∧ Hid (wr.heap[D]? = some (.cells #[.slice pv nv cv, .int .i64 (i : Int), .string BT, .string EN] 121 (0, 0))) ∧ Hid (Wr wB B b (T ++ sepB bt ((l.take i).map txt)) wr) ∧ Hid (Kpt B b w wr))
    case atStart => exact ⟨0, by omega, by omega, HN0, by simpa [sepB] using HW0, HK0⟩
    case round =>
      obtain ⟨i, hi, hgk, HD, HWR, HKR⟩ := hrel
      have k0 : wr.cell? ⟨D, 0, none⟩ = some (.slice pv nv cv) := by simp [World.cell?, HD.out]
      have k1 : wr.cell? ⟨D, 1, none⟩ = some (.int .i64 (i : Int)) := by simp [World.cell?, HD.out]
      have k2 : wr.cell? ⟨D, 2, none⟩ = some (.string BT) := by simp [World.cell?, HD.out]
      have k3 : wr.cell? ⟨D, 3, none⟩ = some (.string EN) := by simp [World.cell?, HD.out]
      by_cases hlt : i < nv
      · exfalso
        have := HNV.out
        rw [HL0.out] at this
        simp at this
        omega
      · have e : i = nv := by omega
        have hltz : ¬ (i : Int) < (nv : Int) := by omega
        have E := Lib.hid e
        have htk : l.take i = l := List.take_of_length_le (by rw [e, HNV.out]; exact Nat.le_refl _)
        rw [htk] at HWR
        have c2 := wstr_any HWR.out (X := en) (S := EN) HBTE.out.2 (by rw [List.length_append]; omega)
        clear e htk
        go_wp2_with fail
        ((with_reducible refine c2.mono ?_))
        rintro _ w2 ⟨rfl, hw2, hk2⟩
        have HW2 := Lib.hid hw2
        have HK2 := Lib.hid hk2
        clear hw2 hk2 c2
        go_wp2
        go_ret
        refine ⟨rfl, ?_, HKR.out.trans HK2.out⟩
        rw [← List.append_assoc]
        exact HW2.out
  | succ N IH =>
    intro l room T bt en w pv nv cv vs hdep hroom hr2 hw hk hbt hen hlen
    have hnv : nv ≤ 30000000000000 := by have := sepB_count bt l; have := hk.num; omega
    have hbl := hw.b_lt
    have HBT : Hid (∀ x : Tx, (⟨x.toArray⟩ : ByteArray) = ⟨x.toArray⟩) := fun _ => rfl
    obtain ⟨D, hD⟩ : ∃ D, D = w.heap.size := ⟨_, rfl⟩
    have hDb : D ≠ b := by omega
    have hBD : B ≤ D := by omega
    have hn0 := heap_alloc_new w (.cells (partV pv nv cv 0 bt en) 121)
    rw [← hD] at hn0
    have HN0 := Lib.hid hn0
    have HW0 := Lib.hid (hw.under ((Below.refl _ _).alloc (Nat.le_refl _) (.cells (partV pv nv cv 0 bt en) 121)))
    have HK0 : Hid (Kpt B b w (w.alloc (.cells (partV pv nv cv 0 bt en) 121))) := Kpt.of ((Below.refl _ _).alloc (Nat.le_refl _) _) hw.bsize
    have HDD := Lib.hid hD
    have HKIDS := Lib.hid hk
    have HNV := Lib.hid hk.num
    have HDEP := Lib.hid hdep
    have HTB := Lib.hid hTB
    obtain ⟨BT, hBT⟩ : ∃ BT : ByteArray, BT = ⟨bt.toArray⟩ := ⟨_, rfl⟩
    obtain ⟨EN, hEN⟩ : ∃ EN : ByteArray, EN = ⟨en.toArray⟩ := ⟨_, rfl⟩
    have HBTE := Lib.hid (And.intro hBT hEN)
    have hpV : ∀ i, partV pv nv cv i bt en = #[.slice pv nv cv, .int .i64 (i : Int), .string BT, .string EN] := fun i => by unfold partV; rw [hBT, hEN]
    have HPV := Lib.hid hpV
    have hr0 : ((room : Int) == 0) = false := by simp; omega
    obtain ⟨r, rfl⟩ : ∃ r, room = r + 1 := ⟨room - 1, by omega⟩
    rw [hpV 0] at HN0 HW0 HK0 ⊢
    clear hw hk hn0 hD hdep hTB hBT hEN hpV HBT
    have HIH := Lib.hid IH
    clear IH
    go_enter Tryz.func80, Tryz.ntmps80
    go_wp2_with fail
    rw [← HDD.out]
    go_loopg [7] nv (fun gk v wr => ∃ i : Nat, i ≤ nv ∧ nv - i ≤ gk ∧ Hid (wr.heap[D]? = some (.cells #[.slice pv nv cv, .int .i64 (i : Int), .string BT, .string EN] 121 (0, 0))) ∧ Hid (Wr wB B b (T ++ sepB bt ((l.take i).map txt)) wr) ∧ Hid (Kpt B b w wr))
    case atStart => exact ⟨0, by omega, by omega, HN0, by simpa [sepB] using HW0, HK0⟩
    case round =>
      obtain ⟨i, hi, hgk, HD, HWR, HKR⟩ := hrel
      have k0 : wr.cell? ⟨D, 0, none⟩ = some (.slice pv nv cv) := by simp [World.cell?, HD.out]
      have k1 : wr.cell? ⟨D, 1, none⟩ = some (.int .i64 (i : Int)) := by simp [World.cell?, HD.out]
      have k2 : wr.cell? ⟨D, 2, none⟩ = some (.string BT) := by simp [World.cell?, HD.out]
      have k3 : wr.cell? ⟨D, 3, none⟩ = some (.string EN) := by simp [World.cell?, HD.out]
      by_cases hlt : i < nv
      · have hltz : (i : Int) < (nv : Int) := by omega
        obtain ⟨g, off, hpv⟩ : ∃ g off, pv = some ⟨g, off, none⟩ := by
          rcases HKIDS.out.row with ⟨h0, _⟩ | ⟨g', off', h0, _⟩
          · omega
          · exact ⟨g', off', h0⟩
        subst hpv
        have hgb : g ≠ b := by
          rcases HKIDS.out.row with ⟨h0, _⟩ | ⟨g', off', h0, _, _, h1, _⟩
          · omega
          · simp at h0
            rw [h0.1]
            exact h1
        have hil : i < l.length := by rw [← HNV.out]; exact hlt
        obtain ⟨y, hy⟩ : ∃ y, vs[i]? = some y := ⟨_, List.getElem?_eq_getElem (by rw [HKIDS.out.len]; exact hil)⟩
        obtain ⟨u, hu⟩ : ∃ u, l[i]? = some u := ⟨_, List.getElem?_eq_getElem hil⟩
        have hue : l[i] = u := (List.getElem?_eq_some_iff.1 hu).2
        have hst := sepTake_len bt hbt l i hil
        rw [hue] at hst
        have HTK := Lib.hid (show (l.take (i + 1)).map txt = (l.take i).map txt ++ [txt u] by rw [List.take_add_one, hu]; simp)
        have hdu := HDEP.out u (List.mem_of_getElem? hu)
        have hul : (headT u).length + (sepB (btwT u) ((partK u).map txt)).length ≤ (txt u).length := by rw [txt_parts u]; simp only [List.length_append]; omega
        have HPW := Lib.hid (HKIDS.out.place hy)
        have HEW := Lib.hid (HKIDS.out.each i y u hy hu)
        have HDU := Lib.hid (fun t (ht : t ∈ partK u) => partK_dep (n := N) ht (by omega))
        clear hy hu hue hil hdu
        by_cases hi0 : i = 0
        · have hi0z : ¬ (0 : Int) < (i : Int) := by omega
          have hi0b : decide ((i : Int) > 0) = false := by simp; omega
          have HI0 := Lib.hid hi0
          clear hi0
          have HEK := (HEW.out.kept HKR.out.keepsD).weak (P' := fun g => g ≠ b ∧ g ≠ D) (fun g hp _ => ⟨hp.1, by rw [HDD.out]; exact hp.2⟩)
          have c5 := begin_any hBB HTB.out (T ++ (sepB bt ((l.take i).map txt) ++ [])) (by rw [List.length_append, List.length_append]; have h := hst; rw [if_pos HI0.out] at h; simp only [List.length_nil]; omega) wr (by simpa using HWR.out) g (off + i * 6) y u (HPW.out.kept HKR.out.keeps hgb) HEK hgb
          obtain ⟨BU, hBU⟩ : ∃ BU : ByteArray, BU = ⟨(btwT u).toArray⟩ := ⟨_, rfl⟩
          obtain ⟨EU, hEU⟩ : ∃ EU : ByteArray, EU = ⟨(endT u).toArray⟩ := ⟨_, rfl⟩
          have hpu : ∀ p n c, partV p n c 0 (btwT u) (endT u) = #[.slice p n c, .int .i64 0, .string BU, .string EU] := fun p n c => by unfold partV; rw [hBU, hEU]; rfl
          clear hBU hEU HEK
          go_wp2_with fail
          ((with_reducible refine c5.mono ?_))
          rintro _ w5 ⟨pu, nu, cu, vu, rfl, hku, hw5, hk5⟩
          clear c5
          have hD5 := hk5.block HD.out hDb (by decide)
          have hDl := (Array.getElem?_eq_some_iff.1 hD5).1
          obtain ⟨E, hE⟩ : ∃ E, E = w5.heap.size := ⟨_, rfl⟩
          obtain ⟨W5, hW5⟩ : ∃ W5 : World, W5 = w5.alloc (.cells #[.slice pu nu cu, .int .i64 0, .string BU, .string EU] 121) := ⟨_, rfl⟩
          obtain ⟨W6, hW6⟩ : ∃ W6 : World, W6 = W5.setCell ⟨D, 1, none⟩ (.int .i64 ((i : Int) + 1)) := ⟨_, rfl⟩
          have hED : E ≠ D := by omega
          have hnE : W5.heap[E]? = some (.cells #[.slice pu nu cu, .int .i64 0, .string BU, .string EU] 121 (0, 0)) := by rw [hW5, hE]; exact heap_alloc_new _ _
          have hnD : W5.heap[D]? = some (.cells #[.slice (some ⟨g, off, none⟩) nv cv, .int .i64 (i : Int), .string BT, .string EN] 121 (0, 0)) := by rw [hW5]; exact (heap_alloc_old _ _ _ hDl).trans hD5
          have hb56 : Below w5.heap.size w5 W5 := by rw [hW5]; exact (Below.refl _ _).alloc (Nat.le_refl _) _
          have HW6 := Lib.hid (show Wr wB B b ((T ++ (sepB bt ((l.take i).map txt) ++ [])) ++ headT u) W6 by rw [hW6]; exact (hw5.under hb56).other hnD (by decide) hDb hBD)
          have HK6 := Lib.hid (show Kpt B b w W6 by rw [hW6]; exact ((HKR.out.trans hk5).under hb56 hw5.bsize).setNew (by rw [HDD.out]; exact Nat.le_refl _) hBD _)
          have HKU := Lib.hid (show KidsR W6 (fun g => g ≠ b) pu nu cu vu (partK u) by rw [hW6, hW5]; exact (hku.kept ⟨hk5.bel.size, fun g c t hp ht hg => ⟨hk5.block hg hp.1 ht, hp⟩⟩).kept (keeps_set _ _))
          have HD6 := Lib.hid (show W6.heap[D]? = some (.cells #[.slice (some ⟨g, off, none⟩) nv cv, .int .i64 ((i + 1 : Nat) : Int), .string BT, .string EN] 121 (0, 0)) by rw [hW6]; exact heap_setCell_same W5 D 1 _ _ _ hnD)
          have m1 : W5.cell? ⟨D, 1, none⟩ = some (.int .i64 (i : Int)) := by simp [World.cell?, hnD]
          have mf : W5.frozen? ⟨D, 1, none⟩ = false := by simp [World.frozen?, hnD]
          have hE6 : W6.heap[E]? = W5.heap[E]? := by rw [hW6]; exact heap_set_ne _ _ _ (by exact hED)
          have e0 : W6.cell? ⟨E, 0, none⟩ = some (.slice pu nu cu) := by simp [World.cell?, hE6, hnE]
          have e1 : W6.cell? ⟨E, 1, none⟩ = some (.int .i64 0) := by simp [World.cell?, hE6, hnE]
          have e2 : W6.cell? ⟨E, 2, none⟩ = some (.string BU) := by simp [World.cell?, hE6, hnE]
          have e3 : W6.cell? ⟨E, 3, none⟩ = some (.string EU) := by simp [World.cell?, hE6, hnE]
          clear hku hw5 hk5 hb56
          rw [hpu]
          have HPU := Lib.hid hpu
          clear hpu hnE hnD hE6 hDl hED hD5
          subst hW6
          subst hW5
          subst hE
          go_wp2_with fail
          have hT6 : ((T ++ (sepB bt ((l.take i).map txt) ++ [])) ++ headT u).length + (sepB (btwT u) ((partK u).map txt)).length ≤ 30000000000000 := by
            rw [List.length_append, List.length_append, List.length_append]
            have h := hst
            rw [if_pos HI0.out] at h
            simp only [List.length_nil]
            omega
          have c6 := HIH.out (partK u) r ((T ++ (sepB bt ((l.take i).map txt) ++ [])) ++ headT u) (btwT u) (endT u) _ pu nu cu vu HDU.out (by omega) (by omega) HW6.out HKU.out (btw_len u) (end_len u) hT6
          rw [HPU.out] at c6
          ((with_reducible refine c6.mono ?_))
          rintro _ w7 ⟨rfl, hw7, hk7⟩
          clear c6
          have HD7 := Lib.hid (hk7.block HD6.out hDb (by decide))
          have HK7 := Lib.hid (HK6.out.trans hk7)
          have hTx : T ++ sepB bt ((l.take (i + 1)).map txt) = (T ++ (sepB bt ((l.take i).map txt) ++ [])) ++ headT u ++ (sepB (btwT u) ((partK u).map txt) ++ endT u) := by
            have e0 : (l.take i).map txt = [] := by rw [HI0.out]; rfl
            rw [HTK.out, e0, txt_parts u]
            simp only [sepB, List.nil_append, List.append_nil, List.append_assoc]
          rw [← hTx] at hw7
          have HW7 := Lib.hid hw7
          clear hw7 hk7 hT6 hTx hst hul
          go_wp2_with fail
          go_roundg (nv - (i + 1))
          · exact ⟨i + 1, by omega, by omega, HD7, HW7, HK7⟩
          · omega
        · have hi0z : (0 : Int) < (i : Int) := by omega
          have c3 := wstr_any HWR.out (X := bt) (S := BT) HBTE.out.1 (by rw [List.length_append]; omega)
          have HI0 := Lib.hid hi0
          clear hi0
          go_wp2_with fail
          ((with_reducible refine c3.mono ?_))
          rintro _ w4 ⟨rfl, hw4, hk4⟩
          have hD4 := hk4.block HD.out hDb (by decide)
          have HD4 := Lib.hid hD4
          have m0 : w4.cell? ⟨D, 0, none⟩ = some (.slice (some ⟨g, off, none⟩) nv cv) := by simp [World.cell?, hD4]
          have m1 : w4.cell? ⟨D, 1, none⟩ = some (.int .i64 (i : Int)) := by simp [World.cell?, hD4]
          have HW4 := Lib.hid hw4
          have HK4 := Lib.hid (HKR.out.trans hk4)
          clear hw4 hk4 c3 hD4
          have HEK := (HEW.out.kept HK4.out.keepsD).weak (P' := fun g => g ≠ b ∧ g ≠ D) (fun g hp _ => ⟨hp.1, by rw [HDD.out]; exact hp.2⟩)
          have c5 := begin_any hBB HTB.out (T ++ (sepB bt ((l.take i).map txt) ++ bt)) (by rw [List.length_append, List.length_append]; have h := hst; rw [if_neg HI0.out] at h; omega) w4 (by simpa using HW4.out) g (off + i * 6) y u (HPW.out.kept HK4.out.keeps hgb) HEK hgb
          obtain ⟨BU, hBU⟩ : ∃ BU : ByteArray, BU = ⟨(btwT u).toArray⟩ := ⟨_, rfl⟩
          obtain ⟨EU, hEU⟩ : ∃ EU : ByteArray, EU = ⟨(endT u).toArray⟩ := ⟨_, rfl⟩
          have hpu : ∀ p n c, partV p n c 0 (btwT u) (endT u) = #[.slice p n c, .int .i64 0, .string BU, .string EU] := fun p n c => by unfold partV; rw [hBU, hEU]; rfl
          clear hBU hEU HEK
          go_wp2_with fail
          ((with_reducible refine c5.mono ?_))
          rintro _ w5 ⟨pu, nu, cu, vu, rfl, hku, hw5, hk5⟩
          clear c5
          have hD5 := hk5.block HD4.out hDb (by decide)
          have hDl := (Array.getElem?_eq_some_iff.1 hD5).1
          obtain ⟨E, hE⟩ : ∃ E, E = w5.heap.size := ⟨_, rfl⟩
          obtain ⟨W5, hW5⟩ : ∃ W5 : World, W5 = w5.alloc (.cells #[.slice pu nu cu, .int .i64 0, .string BU, .string EU] 121) := ⟨_, rfl⟩
          obtain ⟨W6, hW6⟩ : ∃ W6 : World, W6 = W5.setCell ⟨D, 1, none⟩ (.int .i64 ((i : Int) + 1)) := ⟨_, rfl⟩
          have hED : E ≠ D := by omega
          have hnE : W5.heap[E]? = some (.cells #[.slice pu nu cu, .int .i64 0, .string BU, .string EU] 121 (0, 0)) := by rw [hW5, hE]; exact heap_alloc_new _ _
          have hnD : W5.heap[D]? = some (.cells #[.slice (some ⟨g, off, none⟩) nv cv, .int .i64 (i : Int), .string BT, .string EN] 121 (0, 0)) := by rw [hW5]; exact (heap_alloc_old _ _ _ hDl).trans hD5
          have hb56 : Below w5.heap.size w5 W5 := by rw [hW5]; exact (Below.refl _ _).alloc (Nat.le_refl _) _
          have HW6 := Lib.hid (show Wr wB B b ((T ++ (sepB bt ((l.take i).map txt) ++ bt)) ++ headT u) W6 by rw [hW6]; exact (hw5.under hb56).other hnD (by decide) hDb hBD)
          have HK6 := Lib.hid (show Kpt B b w W6 by rw [hW6]; exact ((HK4.out.trans hk5).under hb56 hw5.bsize).setNew (by rw [HDD.out]; exact Nat.le_refl _) hBD _)
          have HKU := Lib.hid (show KidsR W6 (fun g => g ≠ b) pu nu cu vu (partK u) by rw [hW6, hW5]; exact (hku.kept ⟨hk5.bel.size, fun g c t hp ht hg => ⟨hk5.block hg hp.1 ht, hp⟩⟩).kept (keeps_set _ _))
          have HD6 := Lib.hid (show W6.heap[D]? = some (.cells #[.slice (some ⟨g, off, none⟩) nv cv, .int .i64 ((i + 1 : Nat) : Int), .string BT, .string EN] 121 (0, 0)) by rw [hW6]; exact heap_setCell_same W5 D 1 _ _ _ hnD)
          have m1 : W5.cell? ⟨D, 1, none⟩ = some (.int .i64 (i : Int)) := by simp [World.cell?, hnD]
          have mf : W5.frozen? ⟨D, 1, none⟩ = false := by simp [World.frozen?, hnD]
          have hE6 : W6.heap[E]? = W5.heap[E]? := by rw [hW6]; exact heap_set_ne _ _ _ (by exact hED)
          have e0 : W6.cell? ⟨E, 0, none⟩ = some (.slice pu nu cu) := by simp [World.cell?, hE6, hnE]
          have e1 : W6.cell? ⟨E, 1, none⟩ = some (.int .i64 0) := by simp [World.cell?, hE6, hnE]
          have e2 : W6.cell? ⟨E, 2, none⟩ = some (.string BU) := by simp [World.cell?, hE6, hnE]
          have e3 : W6.cell? ⟨E, 3, none⟩ = some (.string EU) := by simp [World.cell?, hE6, hnE]
          clear hku hw5 hk5 hb56
          rw [hpu]
          have HPU := Lib.hid hpu
          clear hpu hnE hnD hE6 hDl hED hD5
          subst hW6
          subst hW5
          subst hE
          go_wp2_with fail
          have hT6 : ((T ++ (sepB bt ((l.take i).map txt) ++ bt)) ++ headT u).length + (sepB (btwT u) ((partK u).map txt)).length ≤ 30000000000000 := by
            rw [List.length_append, List.length_append, List.length_append]
            have h := hst
            rw [if_neg HI0.out] at h
            omega
          have c6 := HIH.out (partK u) r ((T ++ (sepB bt ((l.take i).map txt) ++ bt)) ++ headT u) (btwT u) (endT u) _ pu nu cu vu HDU.out (by omega) (by omega) HW6.out HKU.out (btw_len u) (end_len u) hT6
          rw [HPU.out] at c6
          ((with_reducible refine c6.mono ?_))
          rintro _ w7 ⟨rfl, hw7, hk7⟩
          clear c6
          have HD7 := Lib.hid (hk7.block HD6.out hDb (by decide))
          have HK7 := Lib.hid (HK6.out.trans hk7)
          have hTx : T ++ sepB bt ((l.take (i + 1)).map txt) = (T ++ (sepB bt ((l.take i).map txt) ++ bt)) ++ headT u ++ (sepB (btwT u) ((partK u).map txt) ++ endT u) := by
            have e0 : (l.take i).map txt ≠ [] := fun h0 => HI0.out (by have h6 := congrArg List.length h0; rw [List.length_map, List.length_take, List.length_nil, ← HNV.out] at h6; omega)
            rw [HTK.out, sepB_snoc, if_neg e0, txt_parts u]
            simp only [List.append_assoc]
          rw [← hTx] at hw7
          have HW7 := Lib.hid hw7
          clear hw7 hk7 hT6 hTx hst hul
          go_wp2_with fail
          go_roundg (nv - (i + 1))
          · exact ⟨i + 1, by omega, by omega, HD7, HW7, HK7⟩
          · omega
      · have e : i = nv := by omega
        have hltz : ¬ (i : Int) < (nv : Int) := by omega
        have E := Lib.hid e
        have htk : l.take i = l := List.take_of_length_le (by rw [e, HNV.out]; exact Nat.le_refl _)
        rw [htk] at HWR
        have c2 := wstr_any HWR.out (X := en) (S := EN) HBTE.out.2 (by rw [List.length_append]; omega)
        clear e htk
        go_wp2_with fail
        ((with_reducible refine c2.mono ?_))
        rintro _ w2 ⟨rfl, hw2, hk2⟩
        have HW2 := Lib.hid hw2
        have HK2 := Lib.hid hk2
        clear hw2 hk2 c2
        go_wp2
        go_ret
        refine ⟨rfl, ?_, HKR.out.trans HK2.out⟩
        rw [← List.append_assoc]
        exact HW2.out

end Go.Proofs.YtclnadjgbpihcaaGreatDoor

