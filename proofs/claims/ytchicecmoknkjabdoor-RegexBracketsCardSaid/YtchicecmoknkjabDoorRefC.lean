/- The document's flat and Cat. No condition but size. -/
import Derived.Test.YtchicecmoknkjabDoorRefM
namespace Go.Proofs.YtchicecmoknkjabDoor
open Go.RowKit Go.Lib
set_option linter.unusedVariables false
set_option linter.unusedSimpArgs false

theorem flat_take_len (kk : Int) (l : List RT) (i : Nat) : (flatM kk (l.take i)).length ≤ (l.map RT.sz).sum := by
  have h2 : ∀ (l : List RT) (i : Nat), ((l.take i).map RT.sz).sum ≤ (l.map RT.sz).sum := by
    intro l
    induction l with
    | nil => intro i; simp
    | cons a l ih =>
      intro i
      cases i with
      | zero => simp
      | succ i => have := ih i; simp only [List.take_succ_cons, List.map_cons, List.sum_cons]; omega
  exact Nat.le_trans (flat_len _ _) (h2 l i)
theorem len_sum (l : List RT) : l.length ≤ (l.map RT.sz).sum := by
  induction l with
  | nil => simp
  | cons a l ih => have := sz_pos a; simp only [List.length_cons, List.map_cons, List.sum_cons]; omega
/-- One more expression behind. -/
theorem OwnRe.push {w W W' : World} {P : Nat → Prop} {v v' : Value} {us : List ReV} {l : List RT} {y : ReV} {u : RT} (h : OwnRe w W P v us l) (hr : RAt w P y u) (ho : W'.ownsRow w.heap.size 30 6 v' (l.length + 1) (us.flatMap ReV.cells ++ y.cells)) : OwnRe w W' P v' (us ++ [y]) (l ++ [u]) :=
  h.app (us := [y]) (m := [u]) rfl (fun j z t hz ht => by
    cases j with
    | zero => simp at hz ht; subst hz ht; exact hr
    | succ j => simp at hz) (by simpa using ho)

set_option maxRecDepth 100000 in
set_option maxHeartbeats 8000000 in
theorem refflat_any {P : Nat → Prop} (w : World) (kk : Int) {p : Option Addr} {n cap : Nat} {vs : List ReV} {l : List RT} (h : KidsR w P p n cap vs l) (hsz : (l.map RT.sz).sum ≤ 1000000000) :
    Calls Tryd.prog 61 #[.slice p n cap, .int .i64 kk] w (GivesRow6 P (flatM kk l) w) := by
  obtain ⟨i0, hi0, hz0, hz1, hz2⟩ := re_parts
  have HK := Lib.hid h
  have HNU := Lib.hid h.num
  have hnl : n ≤ 1000000000 := by have := len_sum l; have := h.num; omega
  have HFL := Lib.hid (fun i => Nat.le_trans (flat_take_len kk l i) hsz)
  clear h
  go_enter Tryd.func61, Tryd.ntmps61
  go_wp2
  go_loopg [5, 6] n (fun gk v vi wr => ∃ (i : Nat) (q : Option Addr) (N cp : Nat) (us : List ReV), v = .slice q N cp ∧ vi = .int .i64 (i : Int) ∧ i ≤ n ∧ n - i ≤ gk ∧ Hid (Below w.heap.size w wr) ∧ Hid (OwnRe w wr P (.slice q N cp) us (flatM kk (l.take i))) ∧ N = (flatM kk (l.take i)).length)
  case atStart => exact ⟨0, none, 0, 0, [], rfl, rfl, by omega, by omega, Below.refl _ _, ⟨World.ownsRow_nil _ _ _ _, rfl, fun i y t hy => by simp at hy⟩, rfl⟩
  case round =>
    obtain ⟨i, q0, N, cp0, us, rfl, rfl, hi, hgk, HB, HO, hN⟩ := hrel
    by_cases hlt : i < n
    · have hltz : (i : Int) < (n : Int) := by omega
      obtain ⟨g, off, rfl⟩ := HK.out.rowv.some_of hlt
      have hil : i < l.length := by rw [← HNU.out]; exact hlt
      obtain ⟨y, hy⟩ : ∃ y, vs[i]? = some y := ⟨_, List.getElem?_eq_getElem (by rw [HK.out.len]; exact hil)⟩
      obtain ⟨u, hu⟩ : ∃ u, l[i]? = some u := ⟨_, List.getElem?_eq_getElem hil⟩
      have hpl := HK.out.place hy
      have hra := HK.out.each i y u hy hu
      obtain ⟨ws, et, _, hkids⟩ := hra.kids
      have hukd : u.kind = y.kind := by rw [et]; rfl
      clear et
      have htk := flatM_take kk l i u hu
      have hf1 := HFL.out (i + 1)
      rw [htk] at hf1
      obtain ⟨k, a, b, c, d, q, m, cp⟩ := y
      simp only at hukd hkids
      obtain ⟨p0, p1, p2, p3, p4, p5⟩ := (hpl.under HB.out).six
      simp only at p0 p1 p2 p3 p4 p5
      have HOA : Hid (wr.ownsRow w.heap.size 30 6 (.slice q0 N cp0) N (us.flatMap ReV.cells)) := by
        have := HO.out.own
        rw [← hN] at this
        exact this
      have HAB := Lib.hid (own_above HOA.out)
      have hwle : w.heap.size ≤ wr.heap.size := HB.out.size
      have HRA := Lib.hid hra
      have HKI := Lib.hid hkids
      have HTK := Lib.hid htk
      have HUK := Lib.hid hukd
      have HNN := Lib.hid hN
      rw [List.length_append, ← hN] at hf1
      have hNb : N ≤ 1000000000 := by omega
      have HF1 := Lib.hid hf1
      clear hpl hra hkids htk hukd hy hu hf1 hN hil
      by_cases hk : k = kk
      · have hkz : (k == kk) = true := by simp [hk]
        have HKK := Lib.hid hk
        clear hk
        have hfin : flatM kk (l.take (i + 1)) = flatM kk (l.take i) ++ u.kids := by
          rw [HTK.out, if_pos (by rw [HUK.out]; exact HKK.out)]
        have HFIN := Lib.hid hfin
        have hml : m = u.kids.length := HKI.out.num
        have hwl : ws.length = u.kids.length := HKI.out.len
        have hfb := HF1.out
        rw [if_pos (by rw [HUK.out]; exact HKK.out), ← hml] at hfb
        have HML := Lib.hid hml
        have HWL := Lib.hid hwl
        have hmb : N + m ≤ 1000000000 := by omega
        clear hfin hml hwl hfb
        cases q with
        | none =>
          have hc : m = 0 ∧ cp = 0 := by
            rcases HKI.out.row with ⟨h1, h2⟩ | ⟨_, _, h1, _⟩
            · exact ⟨h1, h2 rfl⟩
            · cases h1
          obtain ⟨rfl, rfl⟩ := hc
          go_wp2_with (at_builtin; go_loud (refine wpList_append_own_none rfl _ _ 24 rfl w.heap.size 30 i0 6 Tryd.underlying24 hi0 _ _ _ rfl HOA.out rfl ?_))
          go_wp2
          go_roundg (n - (i + 1))
          case measure => omega
          case rel =>
            have hk0 : u.kids = [] := List.length_eq_zero_iff.1 HML.out.symm
            refine ⟨i + 1, q0, N, cp0, us, rfl, by go_num, by omega, Nat.le_refl _, HB.out, ?_, by rw [HFIN.out, hk0, List.append_nil]; exact HNN.out⟩
            unfold Hid
            rw [HFIN.out, hk0, List.append_nil]
            exact HO.out
        | some ad =>
          have hcells : ∀ (j : Nat) (x : Value), (ws.flatMap ReV.cells)[j]? = some x → wr.cell? (ad.add j) = some x := by
            intro j x hx
            rcases (HKI.out.under HB.out).row with ⟨h1, _⟩ | ⟨g', off', h1, _, _, _, _, h6⟩
            · have : ws = [] := List.length_eq_zero_iff.1 (by rw [HWL.out, ← HML.out]; exact h1)
              rw [this] at hx
              simp at hx
            · obtain rfl : ad = ⟨g', off', none⟩ := Option.some.inj h1
              rw [addr_add]
              exact h6 j x hx
          have hone := flat6_one ws
          have hlenc : (ws.flatMap ReV.cells).length = m * 6 := by rw [flat6_len, HWL.out, ← HML.out]
          go_wp2_with (at_builtin; go_loud (refine wpList_append_own_at _ rfl _ _ 24 rfl w.heap.size 30 i0 _ 6 64 Tryd.underlying24 hi0 hz0 hz1 hz2 rfl (by decide) _ _ _ rfl HOA.out ad m cp (ws.flatMap ReV.cells) rfl hlenc hcells hone ?c3 ?c4 ?c5 ?_))
          case c3 => unfold maxLen; omega
          case c4 => omega
          case c5 => first | exact hwle | (simp; omega)
          intro v' w4 hown hgrow hnil hat
          have HOWN := Lib.hid hown
          have HGROW := Lib.hid hgrow
          obtain ⟨q4, n4, cp4, rfl⟩ : ∃ q4 n4 cp4, v' = .slice q4 n4 cp4 := by
            rcases row_forms hown with ⟨h, _⟩ | ⟨g, cap', h⟩
            · exact ⟨_, _, _, h⟩
            · exact ⟨_, _, _, h⟩
          have hn4 : n4 = N + m := by
            rcases row_forms hown with ⟨h, h0⟩ | ⟨g, cap', h⟩
            · cases h; omega
            · cases h; rfl
          subst hn4
          clear hown hgrow hat hnil hcells hone hlenc
          go_wp2
          go_roundg (n - (i + 1))
          case measure => omega
          case rel =>
            refine ⟨i + 1, _, N + m, _, us ++ ws, rfl, by go_num, by omega, Nat.le_refl _, HB.out.grown HGROW.out HB.out.size HAB.out, ?_, by rw [HFIN.out, List.length_append, ← HNN.out, HML.out]⟩
            unfold Hid
            rw [HFIN.out]
            refine HO.out.app HWL.out HKI.out.each ?_
            rw [← HNN.out, ← HML.out]
            exact HOWN.out
      · have hkz : (k == kk) = false := by simpa using hk
        have HKK := Lib.hid hk
        clear hk
        have HOB : Hid ((wr.alloc (.cells #[.int .i64 k, .int .u64 a, .int .u64 b, .int .u64 c, .int .u64 d, .slice q m cp] 30)).ownsRow w.heap.size 30 6 (.slice q0 N cp0) N (us.flatMap ReV.cells)) := HOA.out.alloc _
        go_wp2_with (at_builtin; go_loud (refine wpList_append_own_at _ rfl _ _ 24 rfl w.heap.size 30 i0 _ 6 64 Tryd.underlying24 hi0 hz0 hz1 hz2 rfl (by decide) _ _ _ rfl HOB.out ⟨wr.heap.size, 0, none⟩ 1 1 [.int .i64 k, .int .u64 a, .int .u64 b, .int .u64 c, .int .u64 d, .slice q m cp] rfl rfl ?c1 ?c2 ?c3 ?c4 ?c5 ?_))
        case c1 => exact new3 wr #[.int .i64 k, .int .u64 a, .int .u64 b, .int .u64 c, .int .u64 d, .slice q m cp] 30 [.int .i64 k, .int .u64 a, .int .u64 b, .int .u64 c, .int .u64 d, .slice q m cp] rfl
        case c2 => intro x hx; simp at hx; rcases hx with rfl | rfl | rfl | rfl | rfl | rfl <;> rfl
        case c3 => unfold maxLen; omega
        case c4 => omega
        case c5 => simp; omega
        intro v' w4 hown hgrow _ hat
        obtain ⟨g4, cap4, rfl⟩ := (row_forms hown).resolve_left (fun h => by cases h.2)
        have HOWN := Lib.hid hown
        have HGROW := Lib.hid hgrow
        clear hown hgrow hat
        have hfin : flatM kk (l.take (i + 1)) = flatM kk (l.take i) ++ [u] := by
          rw [HTK.out, if_neg (by rw [HUK.out]; exact HKK.out)]
        have HFIN := Lib.hid hfin
        clear hfin
        go_wp2
        go_roundg (n - (i + 1))
        case measure => omega
        case rel =>
          refine ⟨i + 1, _, N + 1, _, us ++ [⟨k, a, b, c, d, q, m, cp⟩], rfl, by go_num, by omega, Nat.le_refl _, (HB.out.alloc HB.out.size _).grown HGROW.out (by simp; omega) HAB.out, ?_, by rw [HFIN.out, List.length_append, ← HNN.out]; rfl⟩
          unfold Hid
          rw [HFIN.out]
          refine HO.out.push HRA.out ?_
          rw [← HNN.out]
          exact HOWN.out
    · have hltz : ¬ (i : Int) < (n : Int) := by omega
      have HN0 := Lib.hid hN
      clear hN
      go_wp2
      go_ret
      refine ⟨_, us, rfl, ?_, HB.out⟩
      have e : l.take i = l := List.take_of_length_le (by rw [← HNU.out]; omega)
      have h := HO.out
      rw [e] at h
      exact h

/-- What is no Empty of the first so many. -/
theorem noKind_take (kk : Int) (l : List RT) (i : Nat) (u : RT) (hu : l[i]? = some u) : noKind kk (l.take (i + 1)) = noKind kk (l.take i) ++ (if u.kind = kk then [] else [u]) := by
  unfold noKind
  rw [List.take_add_one, hu, List.filter_append]
  congr 1
  by_cases h : u.kind = kk <;> simp [h]

set_option maxRecDepth 100000 in
set_option maxHeartbeats 8000000 in
theorem refcat_any {P : Nat → Prop} (w : World) {p : Option Addr} {n cap : Nat} {vs : List ReV} {l : List RT} (h : KidsR w P p n cap vs l) (hsz : (l.map RT.sz).sum ≤ 1000000000) :
    Calls Tryd.prog 51 #[.slice p n cap] w (GivesRe (fun g => P g ∨ w.heap.size ≤ g) (catM l) w) := by
  obtain ⟨i0, hi0, hz0, hz1, hz2⟩ := re_parts
  obtain ⟨D, hD⟩ : ∃ D, D = w.heap.size := ⟨_, rfl⟩
  obtain ⟨w1, hw1⟩ : ∃ w1 : World, w1 = w.alloc (.cells #[.int .i64 0, .int .u64 0, .int .u64 0, .int .u64 0, .int .u64 0, .slice none 0 0] 30) := ⟨_, rfl⟩
  have hb1 : Below w.heap.size w w1 := by rw [hw1]; exact (Below.refl _ _).alloc (Nat.le_refl _) _
  have hnD : w1.heap[D]? = some (.cells #[.int .i64 0, .int .u64 0, .int .u64 0, .int .u64 0, .int .u64 0, .slice none 0 0] 30 (0, 0)) := by rw [hw1, hD]; exact heap_alloc_new _ _
  have h0 : KidsR w (fun g => P g ∧ g < w.heap.size) p n cap vs l := h.kept (Keeps.of (Nat.le_refl _) fun b hp hl => ⟨rfl, hp, hl⟩)
  have c1 := refflat_any w1 3 (h0.under hb1) hsz
  have hfl := flat_len 3 l
  obtain ⟨F, hF⟩ : ∃ F, F = flatM 3 l := ⟨_, rfl⟩
  obtain ⟨R, hR⟩ : ∃ R, R = catM l := ⟨_, rfl⟩
  rw [← hR]
  rw [← hF] at c1 hfl
  have HF := Lib.hid hF
  have HR := Lib.hid hR
  have HB1 := Lib.hid hb1
  have HND := Lib.hid hnD
  have HW1 := Lib.hid hw1
  have HDD := Lib.hid hD
  have hDl : D < w1.heap.size := (Array.getElem?_eq_some_iff.1 hnD).1
  have HDL := Lib.hid hDl
  clear h h0 hF hR hb1 hnD hw1 hD hDl
  go_enter Tryd.func51, Tryd.ntmps51
  go_wp2_with fail
  rw [← HW1.out, ← HDD.out]
  ((with_reducible refine c1.mono ?_))
  rintro _ w2 ⟨v, us, rfl, hO, hb2⟩
  obtain ⟨q2, cp2, rfl, hk⟩ := hO.slice hb2
  obtain ⟨n2, hn2⟩ : ∃ n2, n2 = F.length := ⟨_, rfl⟩
  rw [← hn2] at hk ⊢ hfl
  have hrow2 := hk.rowv
  have HK2 := Lib.hid hk
  have HE2 := Lib.hid hO.each
  have HUL := Lib.hid hO.len
  have HN2 := Lib.hid hn2
  have HB2 := Lib.hid hb2
  have h2D := (hb2.block D HDL.out).trans HND.out
  have H2D := Lib.hid h2D
  have h12 : w1.heap.size ≤ w2.heap.size := hb2.size
  have hn2b : n2 ≤ 1000000000 := by omega
  clear hO hk hn2 hb2 hrow2 h2D c1
  go_wp2_with fail
  go_loopg [4, 5] n2 (fun gk v vi wr => ∃ (i : Nat) (q : Option Addr) (N cp : Nat) (us3 : List ReV), v = .slice q N cp ∧ vi = .int .i64 (i : Int) ∧ i ≤ n2 ∧ n2 - i ≤ gk ∧ N ≤ i ∧ Hid (Below w2.heap.size w2 wr) ∧ Hid (wr.ownsRow w2.heap.size 30 6 (.slice q N cp) N (us3.flatMap ReV.cells)) ∧ Hid (N = (noKind 1 (F.take i)).length) ∧ Hid (us3.length = (noKind 1 (F.take i)).length ∧ (∀ (j : Nat) (y : ReV) (t : RT), us3[j]? = some y → (noKind 1 (F.take i))[j]? = some t → RAt w1 (fun g => P g ∧ g < w.heap.size) y t) ∧ ∀ t ∈ F.take i, t.kind ≠ 0))
  case atStart => exact ⟨0, none, 0, 0, [], rfl, rfl, by omega, by omega, Nat.le_refl _, Below.refl _ _, World.ownsRow_nil _ _ _ _, rfl, rfl, fun j y t hy => by simp at hy, fun t ht => by simp at ht⟩
  case round =>
    obtain ⟨i, q0, N, cp0, us3, rfl, rfl, hi, hgk, hNi, HB, HO, HN, HI⟩ := hrel
    have hrD := (HB.out.block D (Nat.lt_of_lt_of_le HDL.out h12)).trans H2D.out
    have HRD := Lib.hid hrD
    by_cases hlt : i < n2
    · have hltz : (i : Int) < (n2 : Int) := by omega
      obtain ⟨g, off, rfl⟩ := HK2.out.rowv.some_of hlt
      have hil : i < F.length := by rw [← HN2.out]; exact hlt
      obtain ⟨y, hy⟩ : ∃ y, us[i]? = some y := ⟨_, List.getElem?_eq_getElem (by rw [HUL.out]; exact hil)⟩
      obtain ⟨u, hu⟩ : ∃ u, F[i]? = some u := ⟨_, List.getElem?_eq_getElem hil⟩
      have hpl := HK2.out.place hy
      have hra := HE2.out i y u hy hu
      have hukd : u.kind = y.kind := by obtain ⟨_, et, _⟩ := hra.kids; rw [et]; rfl
      have htk := noKind_take 1 F i u hu
      obtain ⟨k, a, b, c, d, q, m, cp⟩ := y
      simp only at hukd
      obtain ⟨p0, p1, p2, p3, p4, p5⟩ := (hpl.under HB.out).six
      simp only at p0 p1 p2 p3 p4 p5
      have HRA := Lib.hid hra
      have HTK := Lib.hid htk
      have HUK := Lib.hid hukd
      have HU := Lib.hid hu
      have HMU : Hid (u ∈ F) := List.mem_of_getElem? hu
      clear hpl hra hukd htk hy hu hil
      by_cases hk0 : k = 0
      · have hkz : (k == 0) = true := by simp [hk0]
        have HK0 := Lib.hid hk0
        have d0 : wr.cell? ⟨D, 0, none⟩ = some (.int .i64 0) := by simp [World.cell?, hrD]
        have d1 : wr.cell? ⟨D, 1, none⟩ = some (.int .u64 0) := by simp [World.cell?, hrD]
        have d2 : wr.cell? ⟨D, 2, none⟩ = some (.int .u64 0) := by simp [World.cell?, hrD]
        have d3 : wr.cell? ⟨D, 3, none⟩ = some (.int .u64 0) := by simp [World.cell?, hrD]
        have d4 : wr.cell? ⟨D, 4, none⟩ = some (.int .u64 0) := by simp [World.cell?, hrD]
        have d5 : wr.cell? ⟨D, 5, none⟩ = some (.slice none 0 0) := by simp [World.cell?, hrD]
        have f0 := frozen_no hrD 0
        have f1 := frozen_no hrD 1
        have f2 := frozen_no hrD 2
        have f3 := frozen_no hrD 3
        have f4 := frozen_no hrD 4
        have f5 := frozen_no hrD 5
        clear hk0 hrD
        go_wp2
        refine bodyPost_ret_by (results_cell_row rfl _ _ D 30 #[.int .i64 0, .int .u64 0, .int .u64 0, .int .u64 0, .int .u64 0, .slice none 0 0] (0, 0) _ rfl (set6_heap HRD.out _ _ _ _ _ _) Tryd.underlying30 rfl (by kernel_rfl)) rfl ?_
        refine ⟨⟨0, 0, 0, 0, 0, none, 0, 0⟩, rfl, ?_, six_set (HB1.out.trans ((HB2.out.trans (HB.out.mono HB2.out.size)).mono HB1.out.size)) (by have := HDD.out; omega) _ _ _ _ _ _⟩
        have e : R = noneM := by
          rw [HR.out]
          unfold catM
          rw [if_pos]
          rw [← HF.out, List.any_eq_true]
          exact ⟨u, HMU.out, by rw [HUK.out, HK0.out]; rfl⟩
        rw [e]
        exact kids_empty.tree 0 W4.zero zero_ok
      · have hkz : (k == 0) = false := by simpa using hk0
        have HK0 := Lib.hid hk0
        have HNZ : Hid (∀ t ∈ F.take (i + 1), t.kind ≠ 0) := by
          intro t ht
          rw [List.take_add_one, HU.out] at ht
          rcases List.mem_append.1 ht with h | h
          · exact HI.out.2.2 t h
          · simp at h; subst h; rw [HUK.out]; exact HK0.out
        clear hk0 hrD
        by_cases hk1 : k = 1
        · have hkz1 : (k == 1) = true := by simp [hk1]
          have HT : Hid (noKind 1 (F.take (i + 1)) = noKind 1 (F.take i)) := by unfold Hid; rw [HTK.out, if_pos (by rw [HUK.out]; exact hk1), List.append_nil]
          clear hk1
          go_wp2
          go_roundg (n2 - (i + 1))
          case measure => omega
          case rel => exact ⟨i + 1, q0, N, cp0, us3, rfl, by go_num, by omega, Nat.le_refl _, by omega, HB.out, HO.out, by rw [HT.out]; exact HN.out, by rw [HT.out]; exact HI.out.1, by rw [HT.out]; exact HI.out.2.1, HNZ.out⟩
        · have hkz1 : (k == 1) = false := by simpa using hk1
          have HT : Hid (noKind 1 (F.take (i + 1)) = noKind 1 (F.take i) ++ [u]) := by unfold Hid; rw [HTK.out, if_neg (by rw [HUK.out]; exact hk1)]
          clear hk1
          have HOB : Hid ((wr.alloc (.cells #[.int .i64 k, .int .u64 a, .int .u64 b, .int .u64 c, .int .u64 d, .slice q m cp] 30)).ownsRow w2.heap.size 30 6 (.slice q0 N cp0) N (us3.flatMap ReV.cells)) := HO.out.alloc _
          have HAB := Lib.hid (own_above HO.out)
          have hwle : w2.heap.size ≤ wr.heap.size := HB.out.size
          go_wp2_with (at_builtin; go_loud (refine wpList_append_own_at _ rfl _ _ 24 rfl w2.heap.size 30 i0 _ 6 64 Tryd.underlying24 hi0 hz0 hz1 hz2 rfl (by decide) _ _ _ rfl HOB.out ⟨wr.heap.size, 0, none⟩ 1 1 [.int .i64 k, .int .u64 a, .int .u64 b, .int .u64 c, .int .u64 d, .slice q m cp] rfl rfl ?c1 ?c2 ?c3 ?c4 ?c5 ?_))
          case c1 => exact new3 wr #[.int .i64 k, .int .u64 a, .int .u64 b, .int .u64 c, .int .u64 d, .slice q m cp] 30 [.int .i64 k, .int .u64 a, .int .u64 b, .int .u64 c, .int .u64 d, .slice q m cp] rfl
          case c2 => intro x hx; simp at hx; rcases hx with rfl | rfl | rfl | rfl | rfl | rfl <;> rfl
          case c3 => unfold maxLen; omega
          case c4 => omega
          case c5 => simp; omega
          intro v' w4 hown hgrow _ hat
          obtain ⟨g4, cap4, rfl⟩ := (row_forms hown).resolve_left (fun h => by cases h.2)
          have HOWN := Lib.hid hown
          have HGROW := Lib.hid hgrow
          clear hown hgrow hat
          go_wp2
          go_roundg (n2 - (i + 1))
          case measure => omega
          case rel =>
            refine ⟨i + 1, _, N + 1, _, us3 ++ [⟨k, a, b, c, d, q, m, cp⟩], rfl, by go_num, by omega, Nat.le_refl _, by omega, (HB.out.alloc HB.out.size _).grown HGROW.out (by simp; omega) HAB.out, ?_, ?_, ?_, ?_, HNZ.out⟩
            · unfold Hid
              rw [List.flatMap_append]
              exact HOWN.out
            · unfold Hid
              rw [HT.out, List.length_append, ← HN.out]
              rfl
            · rw [HT.out, List.length_append, List.length_append, HI.out.1]
              rfl
            · intro j z t hz ht
              rw [HT.out] at ht
              by_cases hj : j < us3.length
              · rw [List.getElem?_append_left hj] at hz
                rw [List.getElem?_append_left (by rw [← HI.out.1]; exact hj)] at ht
                exact HI.out.2.1 j z t hz ht
              · rw [List.getElem?_append_right (by omega)] at hz
                rw [List.getElem?_append_right (by rw [← HI.out.1]; omega), ← HI.out.1] at ht
                cases e : j - us3.length with
                | zero => rw [e] at hz ht; simp at hz ht; subst hz ht; exact HRA.out
                | succ j2 => rw [e] at hz; simp at hz
    · have hltz : ¬ (i : Int) < (n2 : Int) := by omega
      have e9 : F.take i = F := List.take_of_length_le (by rw [← HN2.out]; omega)
      have hI := HI.out
      have hN9 := HN.out
      rw [e9] at hI hN9
      have hcat : R = someM 3 1 (noKind 1 F) := by
        rw [HR.out]
        unfold catM noKind
        rw [if_neg, HF.out]
        rw [← HF.out]
        intro h
        obtain ⟨t, ht, hk⟩ := List.any_eq_true.1 h
        exact hI.2.2 t ht (by simpa using hk)
      have hall : Below w.heap.size w wr := HB1.out.trans ((HB2.out.trans (HB.out.mono HB2.out.size)).mono HB1.out.size)
      have HALL := Lib.hid hall
      have HCAT := Lib.hid hcat
      have HI9 := Lib.hid hI
      have HN9 := Lib.hid hN9
      clear hI hN9 hcat hall e9
      by_cases hN0 : N = 0
      · have hNz : ((N : Int) == 0) = true := by simp [hN0]
        have HL0 : Hid (noKind 1 F = []) := List.length_eq_zero_iff.1 (by rw [← HN9.out]; exact hN0)
        have d0 : wr.cell? ⟨D, 0, none⟩ = some (.int .i64 0) := by simp [World.cell?, hrD]
        have d1 : wr.cell? ⟨D, 1, none⟩ = some (.int .u64 0) := by simp [World.cell?, hrD]
        have d2 : wr.cell? ⟨D, 2, none⟩ = some (.int .u64 0) := by simp [World.cell?, hrD]
        have d3 : wr.cell? ⟨D, 3, none⟩ = some (.int .u64 0) := by simp [World.cell?, hrD]
        have d4 : wr.cell? ⟨D, 4, none⟩ = some (.int .u64 0) := by simp [World.cell?, hrD]
        have d5 : wr.cell? ⟨D, 5, none⟩ = some (.slice none 0 0) := by simp [World.cell?, hrD]
        have f0 := frozen_no hrD 0
        have f1 := frozen_no hrD 1
        have f2 := frozen_no hrD 2
        have f3 := frozen_no hrD 3
        have f4 := frozen_no hrD 4
        have f5 := frozen_no hrD 5
        clear hN0 hrD
        go_wp2
        refine bodyPost_ret_by (results_cell_row rfl _ _ D 30 #[.int .i64 1, .int .u64 0, .int .u64 0, .int .u64 0, .int .u64 0, .slice none 0 0] (0, 0) _ rfl (set6_heap HRD.out _ _ _ _ _ _) Tryd.underlying30 rfl (by kernel_rfl)) rfl ?_
        refine ⟨⟨1, 0, 0, 0, 0, none, 0, 0⟩, rfl, ?_, six_set HALL.out (by have := HDD.out; omega) _ _ _ _ _ _⟩
        rw [HCAT.out, HL0.out]
        exact kids_empty.tree 1 W4.zero zero_ok
      · have hNz : ((N : Int) == 0) = false := by simp; omega
        have hkr : KidsR wr (fun g => (P g ∧ g < w.heap.size) ∨ w1.heap.size ≤ g) q0 N cp0 us3 (noKind 1 F) := by
          have h1 : OwnRe w1 wr (fun g => P g ∧ g < w.heap.size) (.slice q0 N cp0) us3 (noKind 1 F) := ⟨by rw [← HN9.out]; exact own_mono HO.out h12, HI9.out.1, HI9.out.2.1⟩
          obtain ⟨q', cp', e, h2⟩ := h1.slice (HB2.out.trans (HB.out.mono HB2.out.size))
          cases e
          rw [← HN9.out] at h2
          exact h2
        have c5 := refsome_any wr 3 1 hkr (by omega)
        clear hN0 hrD hkr
        go_wp2_with fail
        ((with_reducible refine c5.mono ?_))
        rintro _ w6 ⟨x, rfl, hx, hb6⟩
        obtain ⟨k, a, b, c, d, q6, m, cp6⟩ := x
        have h6D := (hb6.block D (Nat.lt_of_lt_of_le HDL.out (Nat.le_trans h12 HB.out.size))).trans HRD.out
        have H6D := Lib.hid h6D
        have d0 : w6.cell? ⟨D, 0, none⟩ = some (.int .i64 0) := by simp [World.cell?, h6D]
        have d1 : w6.cell? ⟨D, 1, none⟩ = some (.int .u64 0) := by simp [World.cell?, h6D]
        have d2 : w6.cell? ⟨D, 2, none⟩ = some (.int .u64 0) := by simp [World.cell?, h6D]
        have d3 : w6.cell? ⟨D, 3, none⟩ = some (.int .u64 0) := by simp [World.cell?, h6D]
        have d4 : w6.cell? ⟨D, 4, none⟩ = some (.int .u64 0) := by simp [World.cell?, h6D]
        have d5 : w6.cell? ⟨D, 5, none⟩ = some (.slice none 0 0) := by simp [World.cell?, h6D]
        have f0 := frozen_no h6D 0
        have f1 := frozen_no h6D 1
        have f2 := frozen_no h6D 2
        have f3 := frozen_no h6D 3
        have f4 := frozen_no h6D 4
        have f5 := frozen_no h6D 5
        have HX := Lib.hid hx
        have HB6 := Lib.hid hb6
        clear hx hb6 h6D c5
        unfold ReV.val
        go_wp2
        refine bodyPost_ret_by (results_cell_row rfl _ _ D 30 #[.int .i64 k, .int .u64 a, .int .u64 b, .int .u64 c, .int .u64 d, .slice q6 m cp6] (0, 0) _ rfl (set6_heap H6D.out _ _ _ _ _ _) Tryd.underlying30 rfl (by kernel_rfl)) rfl ?_
        have hall : Below w.heap.size w w6 := HALL.out.trans (HB6.out.mono HALL.out.size)
        refine ⟨⟨k, a, b, c, d, q6, m, cp6⟩, rfl, ?_, six_set hall (by have := HDD.out; omega) _ _ _ _ _ _⟩
        rw [HCAT.out]
        refine HX.out.kept (Keeps.of (by simp [World.setCell]) fun b hp hl => ?_)
        have hbD : b ≠ D := by
          have h1 := HDD.out
          have h2 : w1.heap.size = D + 1 := by rw [HW1.out, h1]; simp
          rcases hp with ⟨_, hp⟩ | hp
          · omega
          · omega
        refine ⟨six_ne hbD _ _ _ _ _ _, ?_⟩
        rcases hp with ⟨hp, _⟩ | hp
        · exact .inl hp
        · exact .inr (Nat.le_trans HB1.out.size hp)

end Go.Proofs.YtchicecmoknkjabDoor
