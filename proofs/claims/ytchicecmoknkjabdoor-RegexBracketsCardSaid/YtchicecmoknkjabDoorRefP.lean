/- The document's put: one more, at its place by texts, unless it is there. No condition but size. -/
import Derived.Test.YtchicecmoknkjabDoorRefC
namespace Go.Proofs.YtchicecmoknkjabDoor
open Go.RowKit Go.Lib
set_option linter.unusedVariables false
set_option linter.unusedSimpArgs false

theorem bs_toList (x : Tx) : (bs x).toList = x := by rw [ByteArray.toList_eq]; simp [bs]
theorem putL_step (r : RT) (pb : Bool) (x : RT) (l : List RT) : putL txt r pb (x :: l) = if txt x = txt r then x :: putL txt r true l else if tlt (txt r) (txt x) ∧ pb = false then r :: x :: putL txt r true l else x :: putL txt r pb l := by rw [putL]
theorem drop_one {α : Type} {l : List α} {i : Nat} {x : α} (h : l[i]? = some x) : l.drop i = x :: l.drop (i + 1) := by
  obtain ⟨h1, h2⟩ := List.getElem?_eq_some_iff.1 h
  rw [List.drop_eq_getElem_cons h1, h2]
/-- What of the list is put so far: a row of its own, its kids of the first world. -/
structure PutAt (w : World) (b : Nat) (P : Nat → Prop) (W : World) (q : Option Addr) (N cp : Nat) (us : List ReV) (o : List RT) : Prop where
  row : W.ownsRow b 30 6 (.slice q N cp) N (us.flatMap ReV.cells)
  num : N = o.length
  len : us.length = o.length
  each : ∀ (i : Nat) (y : ReV) (t : RT), us[i]? = some y → o[i]? = some t → RAt w P y t
theorem PutAt.push {w W W' : World} {b : Nat} {P : Nat → Prop} {q q' : Option Addr} {N cp cp' : Nat} {us : List ReV} {o : List RT} {y : ReV} {u : RT} (h : PutAt w b P W q N cp us o) (hr : RAt w P y u)
    (ho : W'.ownsRow b 30 6 (.slice q' (N + 1) cp') (N + 1) (us.flatMap ReV.cells ++ y.cells)) : PutAt w b P W' q' (N + 1) cp' (us ++ [y]) (o ++ [u]) := by
  refine ⟨?_, by rw [List.length_append, h.num]; rfl, by rw [List.length_append, List.length_append, h.len]; rfl, fun i z t hz ht => ?_⟩
  · rw [List.flatMap_append]
    simpa using ho
  · by_cases hi : i < us.length
    · rw [List.getElem?_append_left hi] at hz
      rw [List.getElem?_append_left (by rw [← h.len]; exact hi)] at ht
      exact h.each i z t hz ht
    · rw [List.getElem?_append_right (by omega)] at hz
      rw [List.getElem?_append_right (by rw [← h.len]; omega), ← h.len] at ht
      cases e : i - us.length with
      | zero => rw [e] at hz ht; simp at hz ht; subst hz ht; exact hr
      | succ j => rw [e] at hz; simp at hz

set_option maxRecDepth 100000 in
set_option maxHeartbeats 8000000 in
theorem refput_any {P : Nat → Prop} (w : World) {p : Option Addr} {n cap : Nat} {vs : List ReV} {l : List RT} (h : KidsR w P p n cap vs l) (x : ReV) (r : RT) (hr : RAt w P x r) (hn : n ≤ 1000000000) (hsz : ∀ t ∈ l, t.sz ≤ 1000000000) (hrs : r.sz ≤ 1000000000) :
    Calls Tryd.prog 66 #[.slice p n cap, x.val] w (GivesRow6 P (putL txt r false l) w) := by
  obtain ⟨i0, hi0, hz0, hz1, hz2⟩ := re_parts
  obtain ⟨rk, ra, rb, rc, rd, rq, rm, rcp⟩ := x
  obtain ⟨D, hD⟩ : ∃ D, D = w.heap.size := ⟨_, rfl⟩
  obtain ⟨w1, hw1⟩ : ∃ w1 : World, w1 = w.alloc (.cells #[.int .i64 rk, .int .u64 ra, .int .u64 rb, .int .u64 rc, .int .u64 rd, .slice rq rm rcp] 30) := ⟨_, rfl⟩
  have hb1 : Below w.heap.size w w1 := by rw [hw1]; exact (Below.refl _ _).alloc (Nat.le_refl _) _
  have hnD : w1.heap[D]? = some (.cells #[.int .i64 rk, .int .u64 ra, .int .u64 rb, .int .u64 rc, .int .u64 rd, .slice rq rm rcp] 30 (0, 0)) := by rw [hw1, hD]; exact heap_alloc_new _ _
  have hDl : D < w1.heap.size := (Array.getElem?_eq_some_iff.1 hnD).1
  have c1 := reftext_any r.dep r _ w1 (Nat.le_refl _) (hr.under hb1) hrs
  obtain ⟨T, hT⟩ : ∃ T, T = bs (txt r) := ⟨_, rfl⟩
  unfold GivesTx at c1
  rw [← hT] at c1
  unfold ReV.val at c1 ⊢
  simp only at c1 ⊢
  have HT := Lib.hid hT
  have HK := Lib.hid (h.under hb1)
  have HEA := Lib.hid h.each
  have HLE := Lib.hid h.len
  have HNU := Lib.hid h.num
  have HRA := Lib.hid hr
  have HSZ := Lib.hid hsz
  have HB1 := Lib.hid hb1
  have HND := Lib.hid hnD
  have HW1 := Lib.hid hw1
  have HDD := Lib.hid hD
  have HDL := Lib.hid hDl
  have h01 : w.heap.size ≤ w1.heap.size := hb1.size
  have r0 : w1.cell? ⟨D, 0, none⟩ = some (.int .i64 rk) := by simp [World.cell?, hnD]
  have r1 : w1.cell? ⟨D, 1, none⟩ = some (.int .u64 ra) := by simp [World.cell?, hnD]
  have r2 : w1.cell? ⟨D, 2, none⟩ = some (.int .u64 rb) := by simp [World.cell?, hnD]
  have r3 : w1.cell? ⟨D, 3, none⟩ = some (.int .u64 rc) := by simp [World.cell?, hnD]
  have r4 : w1.cell? ⟨D, 4, none⟩ = some (.int .u64 rd) := by simp [World.cell?, hnD]
  have r5 : w1.cell? ⟨D, 5, none⟩ = some (.slice rq rm rcp) := by simp [World.cell?, hnD]
  clear h hr hsz hrs hb1 hw1 hD hDl hT hnD
  go_enter Tryd.func66, Tryd.ntmps66
  go_wp2_with fail
  rw [← HW1.out, ← HDD.out]
  ((with_reducible refine c1.mono ?_))
  rintro _ w2 ⟨rfl, hb2⟩
  have HB2 := Lib.hid hb2
  clear hb2 c1 r0 r1 r2 r3 r4 r5
  go_wp2_with fail
  go_loopg [5, 7, 8] n (fun gk v vf vi wr => ∃ (i : Nat) (pb : Bool) (q : Option Addr) (N cp : Nat) (us : List ReV) (oo : List RT), v = .slice q N cp ∧ vf = .bool pb ∧ vi = .int .i64 (i : Int) ∧ i ≤ n ∧ n - i ≤ gk ∧ N ≤ 2 * i ∧ Hid (Below w1.heap.size w1 wr) ∧ Hid (PutAt w w1.heap.size P wr q N cp us oo) ∧ Hid (putL txt r false l = oo ++ putL txt r pb (l.drop i)))
  case atStart => exact ⟨0, false, none, 0, 0, [], [], rfl, rfl, rfl, by omega, by omega, by omega, HB2.out, ⟨World.ownsRow_nil _ _ _ _, rfl, rfl, fun i y t hy => by simp at hy⟩, rfl⟩
  case round =>
    obtain ⟨i, pb, q0, N, cp0, us, oo, rfl, rfl, rfl, hi, hgk, hNi, HB, HP, HE⟩ := hrel
    have hrD := (HB.out.block D HDL.out).trans HND.out
    have hwr : w1.heap.size ≤ wr.heap.size := HB.out.size
    have HAB := Lib.hid (own_above HP.out.row)
    by_cases hlt : i < n
    · have hltz : (i : Int) < (n : Int) := by omega
      obtain ⟨g, off, rfl⟩ := HK.out.rowv.some_of hlt
      have hil : i < l.length := by rw [← HNU.out]; exact hlt
      obtain ⟨y, hy⟩ : ∃ y, vs[i]? = some y := ⟨_, List.getElem?_eq_getElem (by rw [HLE.out]; exact hil)⟩
      obtain ⟨u, hu⟩ : ∃ u, l[i]? = some u := ⟨_, List.getElem?_eq_getElem hil⟩
      have hpl := HK.out.place hy
      have hra := HEA.out i y u hy hu
      have c5 := reftext_any u.dep u y wr (Nat.le_refl _) ((hra.under HB1.out).under HB.out) (HSZ.out u (List.mem_of_getElem? hu))
      obtain ⟨S, hS⟩ : ∃ S, S = bs (txt u) := ⟨_, rfl⟩
      unfold GivesTx at c5
      rw [← hS] at c5
      obtain ⟨k, a, b, c, d, q, m, cp⟩ := y
      unfold ReV.val at c5
      simp only at c5
      obtain ⟨p0, p1, p2, p3, p4, p5⟩ := (hpl.under HB.out).six
      simp only at p0 p1 p2 p3 p4 p5
      have HU := Lib.hid hra
      have HS := Lib.hid hS
      have HPL : Hid (∀ w' : World, Below wr.heap.size wr w' → (w'.cell? ⟨g, off + i * 6, none⟩ = some (.int .i64 k) ∧ w'.cell? ⟨g, off + i * 6 + 1, none⟩ = some (.int .u64 a) ∧ w'.cell? ⟨g, off + i * 6 + 2, none⟩ = some (.int .u64 b) ∧ w'.cell? ⟨g, off + i * 6 + 3, none⟩ = some (.int .u64 c) ∧ w'.cell? ⟨g, off + i * 6 + 4, none⟩ = some (.int .u64 d) ∧ w'.cell? ⟨g, off + i * 6 + 5, none⟩ = some (.slice q m cp))) := fun w' hb => ((hpl.under HB.out).under hb).six
      have HPG : Hid (∀ (w4 : World) (row : Nat), w1.heap.size ≤ wr.heap.size → (w4.heap[g]? = wr.heap[g]?) → (w4.cell? ⟨g, off + i * 6, none⟩ = some (.int .i64 k) ∧ w4.cell? ⟨g, off + i * 6 + 1, none⟩ = some (.int .u64 a) ∧ w4.cell? ⟨g, off + i * 6 + 2, none⟩ = some (.int .u64 b) ∧ w4.cell? ⟨g, off + i * 6 + 3, none⟩ = some (.int .u64 c) ∧ w4.cell? ⟨g, off + i * 6 + 4, none⟩ = some (.int .u64 d) ∧ w4.cell? ⟨g, off + i * 6 + 5, none⟩ = some (.slice q m cp))) := fun w4 (_ : Nat) _ e => by
        obtain ⟨s0, s1, s2, s3, s4, s5⟩ := (hpl.under HB.out).six
        exact ⟨(World.cell?_of_block (a := ⟨g, _, none⟩) e).trans s0, (World.cell?_of_block (a := ⟨g, _, none⟩) e).trans s1, (World.cell?_of_block (a := ⟨g, _, none⟩) e).trans s2, (World.cell?_of_block (a := ⟨g, _, none⟩) e).trans s3, (World.cell?_of_block (a := ⟨g, _, none⟩) e).trans s4, (World.cell?_of_block (a := ⟨g, _, none⟩) e).trans s5⟩
      have HGL : Hid (g < w1.heap.size) := hpl.blk.lt
      have hdrop := drop_one hu
      have hstep := HE.out
      rw [hdrop, putL_step] at hstep
      have HST := Lib.hid hstep
      have hrD0 := hrD
      clear hpl hra hy hu hil hS hdrop hstep
      go_wp2_with fail
      ((with_reducible refine c5.mono ?_))
      rintro _ w5 ⟨rfl, hb5⟩
      obtain ⟨s0, s1, s2, s3, s4, s5⟩ := HPL.out w5 hb5
      have hBw5 : Below w1.heap.size w1 w5 := HB.out.trans (hb5.mono hwr)
      have HB5 := Lib.hid hBw5
      have HP5 : Hid (PutAt w w1.heap.size P w5 q0 N cp0 us oo) := by
        refine ⟨?_, HP.out.num, HP.out.len, HP.out.each⟩
        have h1 := HP.out.row
        rcases row_forms h1 with ⟨e, h0⟩ | ⟨g', cp', e⟩
        · rw [e] at h1 ⊢; exact ⟨h1.1, .inl ⟨rfl, h0⟩⟩
        · rw [e] at h1 ⊢; exact own_at h1 (hb5.block g' (row_base h1).2.2.2)
      have h5D := (hBw5.block D HDL.out).trans HND.out
      have hw5 : w1.heap.size ≤ w5.heap.size := hBw5.size
      have hg5 := (hb5.block g (Nat.lt_of_lt_of_le HGL.out hwr))
      have HG5 := Lib.hid hg5
      have HROW := Lib.hid HP5.out.row
      clear hb5 c5 p0 p1 p2 p3 p4 p5 hBw5 hrD hrD0 hg5
      by_cases heq : txt u = txt r
      · have f1 : (S.toList == T.toList) = true := by rw [HS.out, HT.out, bs_toList, bs_toList]; simp [heq]
        have f2 : Op.bytesLess S.toList T.toList = false := by rw [HS.out, HT.out, bs_toList, bs_toList, cb_less, heq, cb_refl]; rfl
        have HQ : Hid (putL txt r false l = (oo ++ [u]) ++ putL txt r true (l.drop (i + 1))) := by unfold Hid; rw [HST.out, if_pos heq]; simp
        clear heq h5D
        have HOBHOWN : Hid ((w5.alloc (.cells #[.int .i64 k, .int .u64 a, .int .u64 b, .int .u64 c, .int .u64 d, .slice q m cp] 30)).ownsRow w1.heap.size 30 6 (.slice q0 N cp0) (N) (us.flatMap ReV.cells)) := HROW.out.alloc _
        go_wp2_with (at_builtin; go_loud (refine wpList_append_own_at _ rfl _ _ 24 rfl w1.heap.size 30 i0 _ 6 64 Tryd.underlying24 hi0 hz0 hz1 hz2 rfl (by decide) _ _ _ rfl HOBHOWN.out ⟨w5.heap.size, 0, none⟩ 1 1 [.int .i64 k, .int .u64 a, .int .u64 b, .int .u64 c, .int .u64 d, .slice q m cp] rfl rfl (new3 w5 #[.int .i64 k, .int .u64 a, .int .u64 b, .int .u64 c, .int .u64 d, .slice q m cp] 30 [.int .i64 k, .int .u64 a, .int .u64 b, .int .u64 c, .int .u64 d, .slice q m cp] rfl) ?h2 ?h3 ?h4 ?h5 ?_))
        case h2 => first | exact ⟨rfl, rfl, rfl, rfl, rfl, rfl⟩ | (intro x hx; simp at hx; rcases hx with rfl | rfl | rfl | rfl | rfl | rfl <;> rfl)
        case h3 => unfold maxLen; omega
        case h4 => omega
        case h5 => first | omega | (simp; omega)
        intro v' w4 hown hgrow _ hat
        obtain ⟨g4, cap4, rfl⟩ := (row_forms hown).resolve_left (fun h => by cases h.2)
        have HOWN := Lib.hid hown
        have HOWNG := Lib.hid hgrow
        clear hown hgrow hat
        go_wp2
        go_roundg (n - (i + 1))
        case measure => omega
        case rel => exact ⟨i + 1, true, _, N + 1, _, us ++ [(⟨k, a, b, c, d, q, m, cp⟩ : ReV)], oo ++ [u], rfl, rfl, by go_num, by omega, Nat.le_refl _, by omega, (HB5.out.alloc hw5 _).grown HOWNG.out (by simp; omega) (own_above HROW.out), HP5.out.push (y := ⟨k, a, b, c, d, q, m, cp⟩) HU.out HOWN.out, HQ.out⟩
      · have f1 : (S.toList == T.toList) = false := by rw [HS.out, HT.out, bs_toList, bs_toList]; simp [heq]
        by_cases hgt : tlt (txt r) (txt u)
        · have f2 : Op.bytesLess S.toList T.toList = false := by rw [HS.out, HT.out, bs_toList, bs_toList, cb_less]; exact decide_eq_false fun h => tlt_irrefl _ (tlt_trans _ _ _ hgt h)
          cases pb with
          | true =>
            have HQ : Hid (putL txt r false l = (oo ++ [u]) ++ putL txt r true (l.drop (i + 1))) := by unfold Hid; rw [HST.out, if_neg heq, if_neg (by simp)]; simp
            clear heq hgt h5D
            have HOBHOWN : Hid ((w5.alloc (.cells #[.int .i64 k, .int .u64 a, .int .u64 b, .int .u64 c, .int .u64 d, .slice q m cp] 30)).ownsRow w1.heap.size 30 6 (.slice q0 N cp0) (N) (us.flatMap ReV.cells)) := HROW.out.alloc _
            go_wp2_with (at_builtin; go_loud (refine wpList_append_own_at _ rfl _ _ 24 rfl w1.heap.size 30 i0 _ 6 64 Tryd.underlying24 hi0 hz0 hz1 hz2 rfl (by decide) _ _ _ rfl HOBHOWN.out ⟨w5.heap.size, 0, none⟩ 1 1 [.int .i64 k, .int .u64 a, .int .u64 b, .int .u64 c, .int .u64 d, .slice q m cp] rfl rfl (new3 w5 #[.int .i64 k, .int .u64 a, .int .u64 b, .int .u64 c, .int .u64 d, .slice q m cp] 30 [.int .i64 k, .int .u64 a, .int .u64 b, .int .u64 c, .int .u64 d, .slice q m cp] rfl) ?m2 ?m3 ?m4 ?m5 ?_))
            case m2 => first | exact ⟨rfl, rfl, rfl, rfl, rfl, rfl⟩ | (intro x hx; simp at hx; rcases hx with rfl | rfl | rfl | rfl | rfl | rfl <;> rfl)
            case m3 => unfold maxLen; omega
            case m4 => omega
            case m5 => first | omega | (simp; omega)
            intro v' w4 hown hgrow _ hat
            obtain ⟨g4, cap4, rfl⟩ := (row_forms hown).resolve_left (fun h => by cases h.2)
            have HOWN := Lib.hid hown
            have HOWNG := Lib.hid hgrow
            clear hown hgrow hat
            go_wp2
            go_roundg (n - (i + 1))
            case measure => omega
            case rel => exact ⟨i + 1, true, _, N + 1, _, us ++ [(⟨k, a, b, c, d, q, m, cp⟩ : ReV)], oo ++ [u], rfl, rfl, by go_num, by omega, Nat.le_refl _, by omega, (HB5.out.alloc hw5 _).grown HOWNG.out (by simp; omega) (own_above HROW.out), HP5.out.push (y := ⟨k, a, b, c, d, q, m, cp⟩) HU.out HOWN.out, HQ.out⟩
          | false =>
            have HQ : Hid (putL txt r false l = ((oo ++ [r]) ++ [u]) ++ putL txt r true (l.drop (i + 1))) := by unfold Hid; rw [HST.out, if_neg heq, if_pos ⟨hgt, rfl⟩]; simp
            clear heq hgt
            have r0 : w5.cell? ⟨D, 0, none⟩ = some (.int .i64 rk) := by simp [World.cell?, h5D]
            have r1 : w5.cell? ⟨D, 1, none⟩ = some (.int .u64 ra) := by simp [World.cell?, h5D]
            have r2 : w5.cell? ⟨D, 2, none⟩ = some (.int .u64 rb) := by simp [World.cell?, h5D]
            have r3 : w5.cell? ⟨D, 3, none⟩ = some (.int .u64 rc) := by simp [World.cell?, h5D]
            have r4 : w5.cell? ⟨D, 4, none⟩ = some (.int .u64 rd) := by simp [World.cell?, h5D]
            have r5 : w5.cell? ⟨D, 5, none⟩ = some (.slice rq rm rcp) := by simp [World.cell?, h5D]
            clear h5D
            have HOBHOWN6 : Hid ((w5.alloc (.cells #[.int .i64 rk, .int .u64 ra, .int .u64 rb, .int .u64 rc, .int .u64 rd, .slice rq rm rcp] 30)).ownsRow w1.heap.size 30 6 (.slice q0 N cp0) (N) (us.flatMap ReV.cells)) := HROW.out.alloc _
            go_wp2_with (at_builtin; go_loud (refine wpList_append_own_at _ rfl _ _ 24 rfl w1.heap.size 30 i0 _ 6 64 Tryd.underlying24 hi0 hz0 hz1 hz2 rfl (by decide) _ _ _ rfl HOBHOWN6.out ⟨w5.heap.size, 0, none⟩ 1 1 [.int .i64 rk, .int .u64 ra, .int .u64 rb, .int .u64 rc, .int .u64 rd, .slice rq rm rcp] rfl rfl (new3 w5 #[.int .i64 rk, .int .u64 ra, .int .u64 rb, .int .u64 rc, .int .u64 rd, .slice rq rm rcp] 30 [.int .i64 rk, .int .u64 ra, .int .u64 rb, .int .u64 rc, .int .u64 rd, .slice rq rm rcp] rfl) ?c2 ?c3 ?c4 ?c5 ?_))
            case c2 => first | exact ⟨rfl, rfl, rfl, rfl, rfl, rfl⟩ | (intro x hx; simp at hx; rcases hx with rfl | rfl | rfl | rfl | rfl | rfl <;> rfl)
            case c3 => unfold maxLen; omega
            case c4 => omega
            case c5 => first | omega | (simp; omega)
            intro v' w6 hown hgrow _ hat
            obtain ⟨g6, cap6, rfl⟩ := (row_forms hown).resolve_left (fun h => by cases h.2)
            have HOWN6 := Lib.hid hown
            have HOWN6G := Lib.hid hgrow
            clear hown hgrow hat
            have HP6 : Hid (PutAt w w1.heap.size P w6 (some ⟨g6, 0, none⟩) (N + 1) cap6 (us ++ [⟨rk, ra, rb, rc, rd, rq, rm, rcp⟩]) (oo ++ [r])) := HP5.out.push (y := ⟨rk, ra, rb, rc, rd, rq, rm, rcp⟩) HRA.out HOWN6.out
            obtain ⟨us2, hus2⟩ : ∃ u2, u2 = us ++ [(⟨rk, ra, rb, rc, rd, rq, rm, rcp⟩ : ReV)] := ⟨_, rfl⟩
            rw [← hus2] at HP6
            clear hus2
            have HB6 : Hid (Below w1.heap.size w1 w6) := (HB5.out.alloc hw5 _).grown HOWN6G.out (by simp; omega) (own_above HROW.out)
            have hw6 : w1.heap.size ≤ w6.heap.size := HB6.out.size
            have HROW6 := Lib.hid HP6.out.row
            have hg6 : w6.heap[g]? = wr.heap[g]? := ((HB6.out.block g HGL.out).trans (HB.out.block g HGL.out).symm)
            obtain ⟨t0, t1, t2, t3, t4, t5⟩ := HPG.out w6 0 hwr hg6
            clear hg6 s0 s1 s2 s3 s4 s5 r0 r1 r2 r3 r4 r5
            have HOBHOWN : Hid ((w6.alloc (.cells #[.int .i64 k, .int .u64 a, .int .u64 b, .int .u64 c, .int .u64 d, .slice q m cp] 30)).ownsRow w1.heap.size 30 6 (.slice (some ⟨g6, 0, none⟩) (N + 1) cap6) (N + 1) (us2.flatMap ReV.cells)) := HROW6.out.alloc _
            go_wp2_with (at_builtin; go_loud (refine wpList_append_own_at _ rfl _ _ 24 rfl w1.heap.size 30 i0 _ 6 64 Tryd.underlying24 hi0 hz0 hz1 hz2 rfl (by decide) _ _ _ rfl HOBHOWN.out ⟨w6.heap.size, 0, none⟩ 1 1 [.int .i64 k, .int .u64 a, .int .u64 b, .int .u64 c, .int .u64 d, .slice q m cp] rfl rfl (new3 w6 #[.int .i64 k, .int .u64 a, .int .u64 b, .int .u64 c, .int .u64 d, .slice q m cp] 30 [.int .i64 k, .int .u64 a, .int .u64 b, .int .u64 c, .int .u64 d, .slice q m cp] rfl) ?e2 ?e3 ?e4 ?e5 ?_))
            case e2 => first | exact ⟨rfl, rfl, rfl, rfl, rfl, rfl⟩ | (intro x hx; simp at hx; rcases hx with rfl | rfl | rfl | rfl | rfl | rfl <;> rfl)
            case e3 => unfold maxLen; omega
            case e4 => omega
            case e5 => first | omega | (simp; omega)
            intro v' w4 hown hgrow _ hat
            obtain ⟨g4, cap4, rfl⟩ := (row_forms hown).resolve_left (fun h => by cases h.2)
            have HOWN := Lib.hid hown
            have HOWNG := Lib.hid hgrow
            clear hown hgrow hat
            go_wp2
            go_roundg (n - (i + 1))
            case measure => omega
            case rel => exact ⟨i + 1, true, _, N + 1 + 1, _, us2 ++ [(⟨k, a, b, c, d, q, m, cp⟩ : ReV)], (oo ++ [r]) ++ [u], rfl, rfl, by go_num, by omega, Nat.le_refl _, by omega, (HB6.out.alloc hw6 _).grown HOWNG.out (by simp; omega) (own_above HROW6.out), HP6.out.push (y := ⟨k, a, b, c, d, q, m, cp⟩) HU.out HOWN.out, HQ.out⟩
        · have f2 : Op.bytesLess S.toList T.toList = true := by rw [HS.out, HT.out, bs_toList, bs_toList, cb_less]; exact decide_eq_true (Classical.byContradiction fun h => heq (cb_eq _ _ h hgt))
          have HQ : Hid (putL txt r false l = (oo ++ [u]) ++ putL txt r pb (l.drop (i + 1))) := by unfold Hid; rw [HST.out, if_neg heq, if_neg (fun h => hgt h.1)]; simp
          clear heq hgt h5D
          have HOBHOWN : Hid ((w5.alloc (.cells #[.int .i64 k, .int .u64 a, .int .u64 b, .int .u64 c, .int .u64 d, .slice q m cp] 30)).ownsRow w1.heap.size 30 6 (.slice q0 N cp0) (N) (us.flatMap ReV.cells)) := HROW.out.alloc _
          go_wp2_with (at_builtin; go_loud (refine wpList_append_own_at _ rfl _ _ 24 rfl w1.heap.size 30 i0 _ 6 64 Tryd.underlying24 hi0 hz0 hz1 hz2 rfl (by decide) _ _ _ rfl HOBHOWN.out ⟨w5.heap.size, 0, none⟩ 1 1 [.int .i64 k, .int .u64 a, .int .u64 b, .int .u64 c, .int .u64 d, .slice q m cp] rfl rfl (new3 w5 #[.int .i64 k, .int .u64 a, .int .u64 b, .int .u64 c, .int .u64 d, .slice q m cp] 30 [.int .i64 k, .int .u64 a, .int .u64 b, .int .u64 c, .int .u64 d, .slice q m cp] rfl) ?n2 ?n3 ?n4 ?n5 ?_))
          case n2 => first | exact ⟨rfl, rfl, rfl, rfl, rfl, rfl⟩ | (intro x hx; simp at hx; rcases hx with rfl | rfl | rfl | rfl | rfl | rfl <;> rfl)
          case n3 => unfold maxLen; omega
          case n4 => omega
          case n5 => first | omega | (simp; omega)
          intro v' w4 hown hgrow _ hat
          obtain ⟨g4, cap4, rfl⟩ := (row_forms hown).resolve_left (fun h => by cases h.2)
          have HOWN := Lib.hid hown
          have HOWNG := Lib.hid hgrow
          clear hown hgrow hat
          go_wp2
          go_roundg (n - (i + 1))
          case measure => omega
          case rel => exact ⟨i + 1, pb, _, N + 1, _, us ++ [(⟨k, a, b, c, d, q, m, cp⟩ : ReV)], oo ++ [u], rfl, rfl, by go_num, by omega, Nat.le_refl _, by omega, (HB5.out.alloc hw5 _).grown HOWNG.out (by simp; omega) (own_above HROW.out), HP5.out.push (y := ⟨k, a, b, c, d, q, m, cp⟩) HU.out HOWN.out, HQ.out⟩
    · have hltz : ¬ (i : Int) < (n : Int) := by omega
      have hdr : l.drop i = [] := List.drop_eq_nil_of_le (by rw [← HNU.out]; omega)
      have hfin := HE.out
      rw [hdr, putL.eq_def] at hfin
      cases pb with
      | true =>
        have HQ : Hid (putL txt r false l = oo) := by
          unfold Hid
          rw [HE.out, hdr]
          simp [putL]
        clear hfin hdr hrD
        go_wp2
        go_ret
        refine ⟨_, us, rfl, ?_, HB1.out.trans (HB.out.mono h01)⟩
        rw [HQ.out]
        exact ⟨by rw [← HP.out.num]; exact own_mono HP.out.row h01, HP.out.len, HP.out.each⟩
      | false =>
        have HQ : Hid (putL txt r false l = oo ++ [r]) := by
          unfold Hid
          rw [HE.out, hdr]
          simp [putL]
        have r0 : wr.cell? ⟨D, 0, none⟩ = some (.int .i64 rk) := by simp [World.cell?, hrD]
        have r1 : wr.cell? ⟨D, 1, none⟩ = some (.int .u64 ra) := by simp [World.cell?, hrD]
        have r2 : wr.cell? ⟨D, 2, none⟩ = some (.int .u64 rb) := by simp [World.cell?, hrD]
        have r3 : wr.cell? ⟨D, 3, none⟩ = some (.int .u64 rc) := by simp [World.cell?, hrD]
        have r4 : wr.cell? ⟨D, 4, none⟩ = some (.int .u64 rd) := by simp [World.cell?, hrD]
        have r5 : wr.cell? ⟨D, 5, none⟩ = some (.slice rq rm rcp) := by simp [World.cell?, hrD]
        clear hfin hdr hrD
        have HROW := Lib.hid HP.out.row
        have HOBHOWN : Hid ((wr.alloc (.cells #[.int .i64 rk, .int .u64 ra, .int .u64 rb, .int .u64 rc, .int .u64 rd, .slice rq rm rcp] 30)).ownsRow w1.heap.size 30 6 (.slice q0 N cp0) (N) (us.flatMap ReV.cells)) := HROW.out.alloc _
        go_wp2_with (at_builtin; go_loud (refine wpList_append_own_at _ rfl _ _ 24 rfl w1.heap.size 30 i0 _ 6 64 Tryd.underlying24 hi0 hz0 hz1 hz2 rfl (by decide) _ _ _ rfl HOBHOWN.out ⟨wr.heap.size, 0, none⟩ 1 1 [.int .i64 rk, .int .u64 ra, .int .u64 rb, .int .u64 rc, .int .u64 rd, .slice rq rm rcp] rfl rfl (new3 wr #[.int .i64 rk, .int .u64 ra, .int .u64 rb, .int .u64 rc, .int .u64 rd, .slice rq rm rcp] 30 [.int .i64 rk, .int .u64 ra, .int .u64 rb, .int .u64 rc, .int .u64 rd, .slice rq rm rcp] rfl) ?w2 ?w3 ?w4 ?w5 ?_))
        case w2 => first | exact ⟨rfl, rfl, rfl, rfl, rfl, rfl⟩ | (intro x hx; simp at hx; rcases hx with rfl | rfl | rfl | rfl | rfl | rfl <;> rfl)
        case w3 => unfold maxLen; omega
        case w4 => omega
        case w5 => first | omega | (simp; omega)
        intro v' w4 hown hgrow _ hat
        obtain ⟨g4, cap4, rfl⟩ := (row_forms hown).resolve_left (fun h => by cases h.2)
        have HOWN := Lib.hid hown
        have HOWNG := Lib.hid hgrow
        clear hown hgrow hat
        go_wp2
        go_ret
        have hp := HP.out.push (y := ⟨rk, ra, rb, rc, rd, rq, rm, rcp⟩) HRA.out HOWN.out
        refine ⟨_, us ++ [(⟨rk, ra, rb, rc, rd, rq, rm, rcp⟩ : ReV)], rfl, ?_, HB1.out.trans (((HB.out.alloc hwr _).grown HOWNG.out (by simp; omega) (own_above HROW.out)).mono h01)⟩
        rw [HQ.out]
        exact ⟨by rw [← hp.num]; exact own_mono hp.row h01, hp.len, hp.each⟩

end Go.Proofs.YtchicecmoknkjabDoor
