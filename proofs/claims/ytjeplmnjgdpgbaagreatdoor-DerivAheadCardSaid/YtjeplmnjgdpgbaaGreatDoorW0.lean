/- Joined texts; each begins with what it says. -/
import Derived.Test.YtjeplmnjgdpgbaaGreatDoorSortS
import Derived.Test.YtjeplmnjgdpgbaaGreatDoorQuery
import Derived.Test.YtjeplmnjgdpgbaaGreatDoorBase
import Derived.Test.YtjeplmnjgdpgbaaGreatDoorProg
import Derived.BigQuiet
import Derived.Deep.QuietTactic
import Derived.Maps.AppendAt
import Derived.Lib.Hide
import Derived.Test.YtjeplmnjgdpgbaaGreatDoorReMath
import Derived.Test.YtjeplmnjgdpgbaaGreatDoorSortM
/-! The program's sorted: in the order of the texts, each text once. No condition but the library's tables, depth and size. -/
namespace Go.Proofs.YtjeplmnjgdpgbaaGreatDoor
open Go.RowKit Go.Lib Go.Sort Go.Shelf
set_option linter.unusedVariables false
set_option linter.unusedSimpArgs false

def zeroKE : KE := ⟨⟨#[]⟩, ⟨0, 0, 0, 0, 0, none, 0, 0⟩, 0⟩
def zeroRe : ReV := ⟨0, 0, 0, 0, 0, none, 0, 0⟩
theorem made_at (c : Array Value) (m : Nat) (t : Nat) (h : t < m) : (madeCells c m).toList[t]? = some c[t % c.size]! := by
  simp [madeCells, h]
theorem made7 (n : Nat) : (madeCells zero7 (n * 7)).toList = (List.replicate n zeroKE).flatMap KE.enc := by
  refine List.ext_getElem? fun t => ?_
  by_cases h : t < n * 7
  · have hi : t / 7 < n := by omega
    have hm : t % 7 < 7 := Nat.mod_lt _ (by decide)
    have e := flat7_at (List.replicate n zeroKE) (t / 7) (t % 7) zeroKE (by rw [List.getElem?_replicate, if_pos hi]) hm
    rw [show t / 7 * 7 + t % 7 = t by omega] at e
    rw [e, made_at _ _ _ h]
    have key : ∀ j, j < 7 → some zero7[j]! = zeroKE.enc[j]? := by
      intro j hj
      obtain rfl | rfl | rfl | rfl | rfl | rfl | rfl : j = 0 ∨ j = 1 ∨ j = 2 ∨ j = 3 ∨ j = 4 ∨ j = 5 ∨ j = 6 := by omega
      all_goals rfl
    exact key _ hm
  · rw [List.getElem?_eq_none (by simp [madeCells]; omega), List.getElem?_eq_none (by rw [flat7_len]; simp; omega)]
theorem made6 (n : Nat) : (madeCells zero6 (n * 6)).toList = (List.replicate n zeroRe).flatMap ReV.cells := by
  refine List.ext_getElem? fun t => ?_
  by_cases h : t < n * 6
  · have hi : t / 6 < n := by omega
    have hm : t % 6 < 6 := Nat.mod_lt _ (by decide)
    have e := flat6_at (List.replicate n zeroRe) (t / 6) (t % 6) zeroRe (by rw [List.getElem?_replicate, if_pos hi]) hm
    rw [show t / 6 * 6 + t % 6 = t by omega] at e
    rw [e, made_at _ _ _ h]
    have key : ∀ j, j < 6 → some zero6[j]! = zeroRe.cells[j]? := by
      intro j hj
      obtain rfl | rfl | rfl | rfl | rfl | rfl : j = 0 ∨ j = 1 ∨ j = 2 ∨ j = 3 ∨ j = 4 ∨ j = 5 := by omega
      all_goals rfl
    exact key _ hm
  · rw [List.getElem?_eq_none (by simp [madeCells]; omega), List.getElem?_eq_none (by rw [flat6_len]; simp; omega)]
theorem infoKe : (Tryz.prog.info? 105).map (fun i => (i.zero, i.size, i.bytes)) = some (some (.agg #[.string ⟨#[]⟩, .int .i64 0, .int .u64 0, .int .u64 0, .int .u64 0, .int .u64 0, .slice none 0 0]), 7, 80) := by kernel_rfl
theorem ke_parts : ∃ i0, Tryz.prog.info? 105 = some i0 ∧ i0.zero = some (.agg #[.string ⟨#[]⟩, .int .i64 0, .int .u64 0, .int .u64 0, .int .u64 0, .int .u64 0, .slice none 0 0]) ∧ i0.size = 7 ∧ i0.bytes = 80 := by
  have h := infoKe
  cases e : Tryz.prog.info? 105 with
  | none => rw [e] at h; cases h
  | some j =>
    rw [e] at h
    simp at h
    exact ⟨j, rfl, h.1, h.2.1, h.2.2⟩
/-- A new row of so many. -/
theorem make7 (n : Nat) (hn : n ≤ 1000000000000) (u : World) : (Instr.makeSlice 103 (.int .i64 (n : Int)) (.int .i64 (n : Int))).run Tryz.prog u = .ok (.slice (some ⟨u.heap.size, 0, none⟩) n n) (u.alloc (.cells (madeCells zero7 (n * 7)) 105)) := by
  obtain ⟨i0, h1, h2, h3, h4⟩ := ke_parts
  have h := run_make (P := Tryz.prog) u 103 105 i0 _ Tryz.underlying103 h1 h2 .i64 .i64 n n (by omega) (Int.le_refl _) (by rw [h4]; omega) (by omega)
  rw [h3] at h
  simp only [Int.toNat_natCast] at h
  exact h
theorem make6 (n : Nat) (hn : n ≤ 1000000000000) (u : World) : (Instr.makeSlice 27 (.int .i64 (n : Int)) (.int .i64 (n : Int))).run Tryz.prog u = .ok (.slice (some ⟨u.heap.size, 0, none⟩) n n) (u.alloc (.cells (madeCells zero6 (n * 6)) 29)) := by
  obtain ⟨i0, h1, h2, h3, h4⟩ := re_parts
  have h := run_make (P := Tryz.prog) u 27 29 i0 _ Tryz.underlying27 h1 h2 .i64 .i64 n n (by omega) (Int.le_refl _) (by rw [h4]; omega) (by omega)
  rw [h3] at h
  simp only [Int.toNat_natCast] at h
  exact h
theorem row_new {u : World} {base n size : Nat} {c : Array Value} {e : TypeId} (hb : base ≤ u.heap.size) (hn : n ≤ maxLen) (hc : c.size = n * size) : (u.alloc (.cells c e)).ownsRow base e size (.slice (some ⟨u.heap.size, 0, none⟩) n n) n c.toList :=
  World.ownsRow_lit u _ n hb hn hc

set_option maxRecDepth 100000 in
set_option maxHeartbeats 8000000 in
theorem sorted_any {w0 : World} {P : Nat → Prop} (w : World) {v : Value} {us : List ReV} {l : List RT} (hO : OwnRe w0 w P v us l) (hw : Below w0.heap.size w0 w) (hT : Tab1 w0) (hdep : ∀ t ∈ l, t.dep < 10000) (hsz : ∀ t ∈ l, t.sz ≤ 9000000000) (hn : l.length ≤ 1000000000000) :
    Calls Tryz.prog 60 #[v] w (GivesOwn w0 P (putsM l) w) := by
  obtain ⟨n, hnl⟩ : ∃ n, n = l.length := ⟨_, rfl⟩
  by_cases h2 : n < 2
  · have h2z : (n : Int) < 2 := by omega
    have hpm : putsM l = l := by
      match l, hnl with
      | [], _ => rfl
      | [x], _ => rfl
      | x :: y :: l, h => simp at h; omega
    have HPM := Lib.hid hpm
    obtain ⟨q, cp, rfl⟩ : ∃ q cp, v = .slice q n cp := by
      rcases row_forms hO.own with ⟨rfl, h⟩ | ⟨g, cp, rfl⟩
      · exact ⟨none, 0, by rw [hnl, h]⟩
      · exact ⟨_, cp, by rw [hnl]⟩
    have HO := Lib.hid hO
    have HW := Lib.hid hw
    clear hO hw hpm hdep hsz hnl
    go_enter Tryz.func60, Tryz.ntmps60
    go_wp2
    go_ret
    refine ⟨_, us, rfl, ?_, Below.refl _ _⟩
    rw [HPM.out]
    exact HO.out
  · have h2z : ¬ (n : Int) < 2 := by omega
    obtain ⟨g0, cap0, rfl⟩ := (row_forms hO.own).resolve_left (fun h => by omega)
    have hrow := own_rowv hO.own
    rw [← hnl] at hn ⊢
    have hO1 := hO.own
    rw [← hnl] at hO1
    have HO := Lib.hid hO1
    have HEA := Lib.hid hO.each
    have HUL : Hid (us.length = n) := by unfold Hid; rw [hO.len, hnl]
    have HNL := Lib.hid hnl
    have HW := Lib.hid hw
    have HT := Lib.hid hT
    have HDE := Lib.hid hdep
    have HSZ := Lib.hid hsz
    have hwle : w0.heap.size ≤ w.heap.size := hw.size
    obtain ⟨g, hg⟩ : ∃ g, g = w.heap.size := ⟨_, rfl⟩
    obtain ⟨W1, hW1⟩ : ∃ W1 : World, W1 = w.alloc (.cells (madeCells zero7 (n * 7)) 105) := ⟨_, rfl⟩
    have hmk : (Instr.makeSlice 103 (.int .i64 (n : Int)) (.int .i64 (n : Int))).run Tryz.prog w = .ok (.slice (some ⟨g, 0, none⟩) n n) W1 := by rw [hg, hW1]; exact make7 n hn w
    have HR1 : Hid (W1.ownsRow w.heap.size 105 7 (.slice (some ⟨g, 0, none⟩) n n) n ((List.replicate n zeroKE).flatMap KE.enc)) := by
      unfold Hid
      rw [← made7, hg, hW1]
      exact row_new (Nat.le_refl _) (by unfold maxLen; omega) (by simp [madeCells])
    have HB1 : Hid (Below w.heap.size w W1) := by unfold Hid; rw [hW1]; exact (Below.refl _ _).alloc (Nat.le_refl _) _
    have HG := Lib.hid hg
    have hgw : w.heap.size ≤ g := by omega
    clear hO hO1 hrow hw hT hdep hsz hnl hW1 hg
    have mixed : Tryz.prog.follows .mixedOrders = true := by kernel_rfl
    go_enter Tryz.func60, Tryz.ntmps60
    go_wp2
    clear hmk
    go_loopg [18] n (fun gk vi wr => ∃ (i : Nat) (ks : List KE), vi = .int .i64 (i : Int) ∧ i ≤ n ∧ n - i ≤ gk ∧ Hid (Below w.heap.size w wr) ∧ Hid (wr.ownsRow w.heap.size 105 7 (.slice (some ⟨g, 0, none⟩) n n) n (ks.flatMap KE.enc)) ∧ Hid (ks.length = n ∧ ks.take i = (keL us l).take i))
    case atStart => exact ⟨0, List.replicate n zeroKE, rfl, by omega, by omega, HB1.out, HR1.out, by simp, rfl⟩
    case round =>
      obtain ⟨i, ks, rfl, hi, hgk, HB, HO1, HK⟩ := hrel
      by_cases hlt : i < n
      · have hltz : (i : Int) < (n : Int) := by omega
        obtain ⟨y, hy⟩ : ∃ y, us[i]? = some y := ⟨_, List.getElem?_eq_getElem (by rw [HUL.out]; exact hlt)⟩
        obtain ⟨u, hu⟩ : ∃ u, l[i]? = some u := ⟨_, List.getElem?_eq_getElem (by rw [← HNL.out]; exact hlt)⟩
        obtain ⟨z, hz⟩ : ∃ z, ks[i]? = some z := ⟨_, List.getElem?_eq_getElem (by rw [HK.out.1]; exact hlt)⟩
        have hw0r : Below w0.heap.size w0 wr := HW.out.trans (HB.out.mono HW.out.size)
        have hra := (HEA.out i y u hy hu).under hw0r
        have htr := HT.out.stays hw0r
        have hdu := HDE.out u (List.mem_of_getElem? hu)
        have hsu := HSZ.out u (List.mem_of_getElem? hu)
        have HOr := own_at HO.out (HB.out.block g0 (row_base HO.out).2.2.2)
        obtain ⟨k, a, b, c, d, q, m, cp⟩ := y
        have c0 := row_cell HOr (j := i * 6) (u := .int .i64 k) ((flat6_at us i 0 _ hy (by decide)).trans rfl)
        have c1 := row_cell HOr (j := i * 6 + 1) (u := .int .u64 a) ((flat6_at us i 1 _ hy (by decide)).trans rfl)
        have c2 := row_cell HOr (j := i * 6 + 2) (u := .int .u64 b) ((flat6_at us i 2 _ hy (by decide)).trans rfl)
        have c3 := row_cell HOr (j := i * 6 + 3) (u := .int .u64 c) ((flat6_at us i 3 _ hy (by decide)).trans rfl)
        have c4 := row_cell HOr (j := i * 6 + 4) (u := .int .u64 d) ((flat6_at us i 4 _ hy (by decide)).trans rfl)
        have c5 := row_cell HOr (j := i * 6 + 5) (u := .slice q m cp) ((flat6_at us i 5 _ hy (by decide)).trans rfl)
        have hkey : (keL us l)[i]? = some ⟨⟨(txt u).toArray⟩, ⟨k, a, b, c, d, q, m, cp⟩, i⟩ := by
          have hil : i < l.length := by rw [← HNL.out]; exact hlt
          rw [keL_get hil, List.getD_eq_getElem?_getD, List.getD_eq_getElem?_getD, hy, hu]
          rfl
        obtain ⟨S, hS⟩ : ∃ S : ByteArray, S = ⟨(txt u).toArray⟩ := ⟨_, rfl⟩
        rw [← hS] at hkey
        obtain ⟨W2, hW2⟩ : ∃ W2 : World, W2 = wr.alloc (.cells #[.int .i64 k, .int .u64 a, .int .u64 b, .int .u64 c, .int .u64 d, .slice q m cp] 29) := ⟨_, rfl⟩
        have hb2 : Below wr.heap.size wr W2 := by rw [hW2]; exact (Below.refl _ _).alloc (Nat.le_refl _) _
        have hbd : Below wr.heap.size wr W2.drew := hb2.trans (below_drawn (Below.refl _ _) 1)
        have hnb : W2.drew.heap[wr.heap.size]? = some (.cells #[.int .i64 k, .int .u64 a, .int .u64 b, .int .u64 c, .int .u64 d, .slice q m cp] 29 (0, 0)) := by
          show W2.heap[wr.heap.size]? = _
          rw [hW2]; exact heap_alloc_new _ _
        have hgl : g < wr.heap.size := (row_base HO1.out).2.2.2
        have HTX : Hid (Calls Tryz.prog 68 #[.agg #[.int .i64 k, .int .u64 a, .int .u64 b, .int .u64 c, .int .u64 d, .slice q m cp]] W2.drew fun e w' => e = .returned (.string S) ∧ Below W2.drew.heap.size W2.drew w') := by
          unfold Hid
          rw [hS]
          exact text_any W2.drew ⟨k, a, b, c, d, q, m, cp⟩ u (htr.stays hbd) (hra.under hbd) hdu hsu
        have HFW : Hid (∀ w1, Below W2.drew.heap.size W2.drew w1 → (w1.cell? ⟨wr.heap.size, 0, none⟩ = some (.int .i64 k) ∧ w1.cell? ⟨wr.heap.size, 1, none⟩ = some (.int .u64 a) ∧ w1.cell? ⟨wr.heap.size, 2, none⟩ = some (.int .u64 b) ∧ w1.cell? ⟨wr.heap.size, 3, none⟩ = some (.int .u64 c) ∧ w1.cell? ⟨wr.heap.size, 4, none⟩ = some (.int .u64 d) ∧ w1.cell? ⟨wr.heap.size, 5, none⟩ = some (.slice q m cp)) ∧ (w1.cell? ⟨g, i * 7, none⟩ = some (.string z.text) ∧ w1.cell? ⟨g, i * 7 + 1, none⟩ = some (.int .i64 z.re.kind) ∧ w1.cell? ⟨g, i * 7 + 2, none⟩ = some (.int .u64 z.re.a) ∧ w1.cell? ⟨g, i * 7 + 3, none⟩ = some (.int .u64 z.re.b) ∧ w1.cell? ⟨g, i * 7 + 4, none⟩ = some (.int .u64 z.re.c) ∧ w1.cell? ⟨g, i * 7 + 5, none⟩ = some (.int .u64 z.re.d) ∧ w1.cell? ⟨g, i * 7 + 6, none⟩ = some (.slice z.re.p z.re.n z.re.cap)) ∧ (w1.frozen? ⟨g, i * 7, none⟩ = false ∧ w1.frozen? ⟨g, i * 7 + 1, none⟩ = false ∧ w1.frozen? ⟨g, i * 7 + 2, none⟩ = false ∧ w1.frozen? ⟨g, i * 7 + 3, none⟩ = false ∧ w1.frozen? ⟨g, i * 7 + 4, none⟩ = false ∧ w1.frozen? ⟨g, i * 7 + 5, none⟩ = false ∧ w1.frozen? ⟨g, i * 7 + 6, none⟩ = false) ∧ Hid (Below w.heap.size w w1) ∧ Hid (w1.ownsRow w.heap.size 105 7 (.slice (some ⟨g, 0, none⟩) n n) n (ks.flatMap KE.enc))) := by
          intro w1 hb
          have e1 : w1.heap[wr.heap.size]? = some (.cells #[.int .i64 k, .int .u64 a, .int .u64 b, .int .u64 c, .int .u64 d, .slice q m cp] 29 (0, 0)) := (hb.block _ (Array.getElem?_eq_some_iff.1 hnb).1).trans hnb
          have hrw : Below wr.heap.size wr w1 := hbd.trans (hb.mono hbd.size)
          have r1 := own_at HO1.out (hrw.block g hgl)
          refine ⟨⟨?_, ?_, ?_, ?_, ?_, ?_⟩, ⟨?_, ?_, ?_, ?_, ?_, ?_, ?_⟩, ⟨own_frozenR r1 _, own_frozenR r1 _, own_frozenR r1 _, own_frozenR r1 _, own_frozenR r1 _, own_frozenR r1 _, own_frozenR r1 _⟩, HB.out.trans (hrw.mono HB.out.size), r1⟩
          · simp [World.cell?, e1]
          · simp [World.cell?, e1]
          · simp [World.cell?, e1]
          · simp [World.cell?, e1]
          · simp [World.cell?, e1]
          · simp [World.cell?, e1]
          · exact row_cell r1 (j := i * 7) (u := .string z.text) ((flat7_at ks i 0 z hz (by decide)).trans rfl)
          · exact row_cell r1 (j := i * 7 + 1) (u := .int .i64 z.re.kind) ((flat7_at ks i 1 z hz (by decide)).trans rfl)
          · exact row_cell r1 (j := i * 7 + 2) (u := .int .u64 z.re.a) ((flat7_at ks i 2 z hz (by decide)).trans rfl)
          · exact row_cell r1 (j := i * 7 + 3) (u := .int .u64 z.re.b) ((flat7_at ks i 3 z hz (by decide)).trans rfl)
          · exact row_cell r1 (j := i * 7 + 4) (u := .int .u64 z.re.c) ((flat7_at ks i 4 z hz (by decide)).trans rfl)
          · exact row_cell r1 (j := i * 7 + 5) (u := .int .u64 z.re.d) ((flat7_at ks i 5 z hz (by decide)).trans rfl)
          · exact row_cell r1 (j := i * 7 + 6) (u := .slice z.re.p z.re.n z.re.cap) ((flat7_at ks i 6 z hz (by decide)).trans rfl)
        obtain ⟨⟨k0, k1, k2, k3, k4, k5⟩, _⟩ := HFW.out W2.drew (Below.refl _ _)
        have HKEY := Lib.hid hkey
        have hgr : (w.heap.size : Nat) ≤ g := hgw
        clear hra htr hdu hsu HOr hkey hS hb2 hbd hnb hz hu hy hw0r
        go_wp2_with fail
        rw [← hW2]
        clear hW2 c0 c1 c2 c3 c4 c5
        go_wp2_with fail
        go_region_law (first
          | (go_simp; go_at_call 68; (with_reducible (refine HTX.out.mono ?_)); rintro _ w1 ⟨rfl, hb1⟩; obtain ⟨⟨q0, q1, q2, q3, q4, q5⟩, ⟨o0, o1, o2, o3, o4, o5, o6⟩, ⟨f0, f1, f2, f3, f4, f5, f6⟩, HB9, HO9⟩ := HFW.out w1 hb1; clear hb1)
          | fail)
        all_goals go_wp2
        all_goals
          go_roundg (n - (i + 1))
          case measure => omega
          case rel =>
            refine ⟨i + 1, ks.set i ⟨S, ⟨k, a, b, c, d, q, m, cp⟩, i⟩, by go_num, by omega, Nat.le_refl _, ((((((HB9.out.setCell hgr _).setCell hgr _).setCell hgr _).setCell hgr _).setCell hgr _).setCell hgr _).setCell hgr _, ?_, ?_, ?_⟩
            · unfold Hid
              rw [← flat7_set ks i ⟨S, ⟨k, a, b, c, d, q, m, cp⟩, i⟩ (by rw [HK.out.1]; exact hlt)]
              exact own_set5r (own_set5r (own_set5r (own_set5r (own_set5r (own_set5r (own_set5r HO9.out _ _) _ _) _ _) _ _) _ _) _ _) _ _
            · rw [List.length_set]; exact HK.out.1
            · rw [List.take_add_one, List.getElem?_set_self (by rw [HK.out.1]; exact hlt), List.take_set_of_le (Nat.le_refl _), HK.out.2, List.take_add_one, HKEY.out]
      · have hltz : ¬ (i : Int) < (n : Int) := by omega
        have hki : Hid (ks = keL us l) := by
          have h := HK.out
          obtain rfl : i = n := by omega
          rw [List.take_of_length_le (by omega), List.take_of_length_le (by rw [keL_len, HNL.out]; exact Nat.le_refl _)] at h
          exact h.2
        have c1 := sortstable_any wr w.heap.size g n n ks HO1.out hn (fun t x hx => by rw [hki.out] at hx; rw [(keL_at hx).2])
        have HBr := Lib.hid HB.out
        clear hi hgk HO1 HK
        go_wp2_with fail
        ((with_reducible refine c1.mono ?_))
        rintro _ w2 ⟨rfl, D, hp, hs, ho2, hb2⟩
        have HP : Hid (D.Perm (keL us l)) := by rw [← hki.out]; exact hp
        have HS := Lib.hid hs
        have HB2 : Hid (Below w.heap.size w w2) := HBr.out.trans hb2
        have c2 := compact_any w2 w.heap.size g n n D ho2 HB2.out.size hn
        clear hp hs hb2 c1 ho2
        go_wp2_with fail
        ((with_reducible refine c2.mono ?_))
        rintro _ w3 ⟨N, rfl, ho3, hb3⟩
        obtain ⟨C, hC⟩ : ∃ C, C = cpt KE.key D := ⟨_, rfl⟩
        rw [← hC] at ho3
        have HC := Lib.hid hC
        have HB3 : Hid (Below w.heap.size w w3) := HB2.out.trans hb3
        have hCN : C.length = N := by have := ho3.1; rw [flat7_len] at this; omega
        have hNn : N ≤ n := (row_base ho3).2.1
        have HO3 := Lib.hid ho3
        have HCN := Lib.hid hCN
        obtain ⟨g2, hg2⟩ : ∃ g2, g2 = w3.heap.size := ⟨_, rfl⟩
        obtain ⟨W4, hW4⟩ : ∃ W4 : World, W4 = w3.alloc (.cells (madeCells zero6 (N * 6)) 29) := ⟨_, rfl⟩
        have hmk : (Instr.makeSlice 27 (.int .i64 (N : Int)) (.int .i64 (N : Int))).run Tryz.prog w3 = .ok (.slice (some ⟨g2, 0, none⟩) N N) W4 := by rw [hg2, hW4]; exact make6 N (by omega) w3
        have HR4 : Hid (W4.ownsRow w0.heap.size 29 6 (.slice (some ⟨g2, 0, none⟩) N N) N ((List.replicate N zeroRe).flatMap ReV.cells)) := by
          unfold Hid
          rw [← made6, hg2, hW4]
          exact row_new (Nat.le_trans hwle HB3.out.size) (by unfold maxLen; omega) (by simp [madeCells])
        have HB4 : Hid (Below w.heap.size w W4) := by unfold Hid; rw [hW4]; exact HB3.out.alloc HB3.out.size _
        have HO4 : Hid (W4.ownsRow w.heap.size 105 7 (.slice (some ⟨g, 0, none⟩) N n) N (C.flatMap KE.enc)) := by unfold Hid; rw [hW4]; exact HO3.out.alloc _
        have hgg : g ≠ g2 := by have := (row_base HO3.out).2.2.2; omega
        have hg2w : w.heap.size ≤ g2 := by have := HB3.out.size; omega
        clear ho3 hb3 hC hCN hg2 hW4 c2
        go_wp2
        clear hmk
        obtain ⟨wo, hwo⟩ : ∃ x : World, x = wr := ⟨_, rfl⟩
        subst hwo
        go_loopg [40] N (fun gk vi wr => ∃ (i : Nat) (rs : List ReV), vi = .int .i64 (i : Int) ∧ i ≤ N ∧ N - i ≤ gk ∧ Hid (Below w.heap.size w wr) ∧ Hid (wr.ownsRow w.heap.size 105 7 (.slice (some ⟨g, 0, none⟩) N n) N (C.flatMap KE.enc)) ∧ Hid (wr.ownsRow w0.heap.size 29 6 (.slice (some ⟨g2, 0, none⟩) N N) N (rs.flatMap ReV.cells)) ∧ Hid (rs.length = N ∧ rs.take i = (C.map KE.re).take i))
        case atStart => exact ⟨0, List.replicate N zeroRe, rfl, by omega, by omega, HB4.out, HO4.out, HR4.out, by simp, rfl⟩
        case round =>
          obtain ⟨j, rs, rfl, hj, hgk, HB5, HO5, HR5, HK5⟩ := hrel
          by_cases hlt : j < N
          · have hltz : (j : Int) < (N : Int) := by omega
            obtain ⟨x, hx⟩ : ∃ x, C[j]? = some x := ⟨_, List.getElem?_eq_getElem (by rw [HCN.out]; exact hlt)⟩
            obtain ⟨z, hz⟩ : ∃ z, rs[j]? = some z := ⟨_, List.getElem?_eq_getElem (by rw [HK5.out.1]; exact hlt)⟩
            obtain ⟨S, ⟨k, a, b, c, d, q, m, cp⟩, ix⟩ := x
            have c0 := row_cell HO5.out (j := j * 7) (u := .string S) ((flat7_at C j 0 _ hx (by decide)).trans rfl)
            have c1 := row_cell HO5.out (j := j * 7 + 1) (u := .int .i64 k) ((flat7_at C j 1 _ hx (by decide)).trans rfl)
            have c2 := row_cell HO5.out (j := j * 7 + 2) (u := .int .u64 a) ((flat7_at C j 2 _ hx (by decide)).trans rfl)
            have c3 := row_cell HO5.out (j := j * 7 + 3) (u := .int .u64 b) ((flat7_at C j 3 _ hx (by decide)).trans rfl)
            have c4 := row_cell HO5.out (j := j * 7 + 4) (u := .int .u64 c) ((flat7_at C j 4 _ hx (by decide)).trans rfl)
            have c5 := row_cell HO5.out (j := j * 7 + 5) (u := .int .u64 d) ((flat7_at C j 5 _ hx (by decide)).trans rfl)
            have c6 := row_cell HO5.out (j := j * 7 + 6) (u := .slice q m cp) ((flat7_at C j 6 _ hx (by decide)).trans rfl)
            have HO6 : Hid ((wr.alloc (.cells #[.string S, .int .i64 k, .int .u64 a, .int .u64 b, .int .u64 c, .int .u64 d, .slice q m cp] 105)).ownsRow w0.heap.size 29 6 (.slice (some ⟨g2, 0, none⟩) N N) N (rs.flatMap ReV.cells)) := HR5.out.alloc _
            have HO7 : Hid ((wr.alloc (.cells #[.string S, .int .i64 k, .int .u64 a, .int .u64 b, .int .u64 c, .int .u64 d, .slice q m cp] 105)).ownsRow w.heap.size 105 7 (.slice (some ⟨g, 0, none⟩) N n) N (C.flatMap KE.enc)) := HO5.out.alloc _
            have d0 := row_cell HO6.out (j := j * 6) (u := .int .i64 z.kind) ((flat6_at rs j 0 z hz (by decide)).trans rfl)
            have d1 := row_cell HO6.out (j := j * 6 + 1) (u := .int .u64 z.a) ((flat6_at rs j 1 z hz (by decide)).trans rfl)
            have d2 := row_cell HO6.out (j := j * 6 + 2) (u := .int .u64 z.b) ((flat6_at rs j 2 z hz (by decide)).trans rfl)
            have d3 := row_cell HO6.out (j := j * 6 + 3) (u := .int .u64 z.c) ((flat6_at rs j 3 z hz (by decide)).trans rfl)
            have d4 := row_cell HO6.out (j := j * 6 + 4) (u := .int .u64 z.d) ((flat6_at rs j 4 z hz (by decide)).trans rfl)
            have d5 := row_cell HO6.out (j := j * 6 + 5) (u := .slice z.p z.n z.cap) ((flat6_at rs j 5 z hz (by decide)).trans rfl)
            have f0 := own_frozenR HO6.out (j * 6)
            have f1 := own_frozenR HO6.out (j * 6 + 1)
            have f2 := own_frozenR HO6.out (j * 6 + 2)
            have f3 := own_frozenR HO6.out (j * 6 + 3)
            have f4 := own_frozenR HO6.out (j * 6 + 4)
            have f5 := own_frozenR HO6.out (j * 6 + 5)
            have HX := Lib.hid hx
            have HB6 : Hid (Below w.heap.size w (wr.alloc (.cells #[.string S, .int .i64 k, .int .u64 a, .int .u64 b, .int .u64 c, .int .u64 d, .slice q m cp] 105))) := HB5.out.alloc HB5.out.size _
            clear hx hz
            go_wp2
            go_roundg (N - (j + 1))
            case measure => omega
            case rel =>
              refine ⟨j + 1, rs.set j ⟨k, a, b, c, d, q, m, cp⟩, by go_num, by omega, Nat.le_refl _, (((((HB6.out.setCell hg2w _).setCell hg2w _).setCell hg2w _).setCell hg2w _).setCell hg2w _).setCell hg2w _, ?_, ?_, ?_, ?_⟩
              · refine own_at HO7.out ?_
                rw [heap_set_ne _ _ _ (by exact hgg), heap_set_ne _ _ _ (by exact hgg), heap_set_ne _ _ _ (by exact hgg), heap_set_ne _ _ _ (by exact hgg), heap_set_ne _ _ _ (by exact hgg), heap_set_ne _ _ _ (by exact hgg)]
              · unfold Hid
                rw [← flat6_set rs j ⟨k, a, b, c, d, q, m, cp⟩ (by rw [HK5.out.1]; exact hlt)]
                exact own_set5r (own_set5r (own_set5r (own_set5r (own_set5r (own_set5r HO6.out _ _) _ _) _ _) _ _) _ _) _ _
              · rw [List.length_set]; exact HK5.out.1
              · rw [List.take_add_one, List.getElem?_set_self (by rw [HK5.out.1]; exact hlt), List.take_set_of_le (Nat.le_refl _), HK5.out.2, List.take_add_one, List.getElem?_map, HX.out]
                rfl
          · have hltz : ¬ (j : Int) < (N : Int) := by omega
            have hrs : Hid (rs = C.map KE.re) := by
              have h := HK5.out
              obtain rfl : j = N := by omega
              rw [List.take_of_length_le (by omega), List.take_of_length_le (by rw [List.length_map, HCN.out]; exact Nat.le_refl _)] at h
              exact h.2
            go_wp2
            go_ret
            obtain ⟨e1, e2⟩ := sorted_each (W := w) (P := True) (R := RAt w0 P) (by rw [HUL.out, HNL.out]) HEA.out HP.out HS.out
            have hN : N = (putsM l).length := by rw [← e1, ← HC.out, List.length_map, HCN.out]
            have hrs2 := hrs.out
            rw [HC.out] at hrs2
            refine ⟨_, rs, rfl, ⟨?_, ?_, ?_⟩, HB5.out.mono hwle⟩
            · rw [← hN]; exact HR5.out
            · rw [hrs2]; exact e1
            · rw [hrs2]; exact e2

end Go.Proofs.YtjeplmnjgdpgbaaGreatDoor

/-! The program's Cat and Either. No condition but the library's tables, depth and size. -/
namespace Go.Proofs.YtjeplmnjgdpgbaaGreatDoor
open Go.RowKit Go.Lib
set_option linter.unusedVariables false
set_option linter.unusedSimpArgs false

/-- A row of the call's own, as a slice of expressions. -/
theorem OwnRe.slice {w W : World} {P : Nat → Prop} {v : Value} {us : List ReV} {l : List RT} (h : OwnRe w W P v us l) (hb : Below w.heap.size w W) : ∃ q cp, v = .slice q l.length cp ∧ KidsR W (fun g => P g ∨ w.heap.size ≤ g) q l.length cp us l := by
  have he : ∀ (i : Nat) (y : ReV) (t : RT), us[i]? = some y → l[i]? = some t → RAt W (fun g => P g ∨ w.heap.size ≤ g) y t := fun i y t hy ht => ((h.each i y t hy ht).under hb).weak fun g hg _ => .inl hg
  rcases row_forms h.own with ⟨rfl, h0⟩ | ⟨g, cp, rfl⟩
  · exact ⟨none, 0, by rw [h0], .inl ⟨h0, fun _ => rfl⟩, rfl, h.len, he⟩
  · refine ⟨_, cp, rfl, ?_, rfl, h.len, he⟩
    obtain ⟨r1, r2, r3, r4⟩ := row_base h.own
    rcases h.own.2 with ⟨h2, _⟩ | ⟨g', cap', cur, hv, hb, hh, hc, hm, hsz, ht⟩
    · cases h2
    · obtain rfl : g = g' := by simp at hv; omega
      exact .inr ⟨g, 0, rfl, r2, r3, .inr r1, ⟨cur, _, by decide, hh⟩, fun j u hj => by rw [Nat.zero_add]; exact row_cell h.own hj⟩
theorem RAt.leaf {W W' : World} {P P' : Nat → Prop} {x : ReV} {t : RT} (h : RAt W P x t) (hk : t.kids = []) : RAt W' P' x t := by
  obtain ⟨vs, et, ho, hr⟩ := h.kids
  rw [hk] at et hr
  rw [et]
  have hn : x.n = 0 := hr.num
  have hv : vs = [] := List.length_eq_zero_iff.1 hr.len
  have hrow : RowR W' P' x.p x.n x.cap [] := by
    rcases hr.row with h | ⟨g, off, e, _⟩
    · exact .inl h
    · exact .inl ⟨hn, fun e2 => by rw [e] at e2; cases e2⟩
  obtain ⟨k, a, b, c, d, p, n, cap⟩ := x
  exact .mk [] ho hrow hn rfl fun i y t hy => by simp at hy
theorem OwnRe.sub {w W : World} {P : Nat → Prop} {v : Value} {us : List ReV} {l : List RT} (h : OwnRe w W P v us l) {W' : World} (hb : W'.heap.size = W'.heap.size) (ho : W'.ownsRow w.heap.size 29 6 v l.length (us.flatMap ReV.cells)) : OwnRe w W' P v us l := ⟨ho, h.len, h.each⟩
theorem flat_all {Q : RT → Prop} {k : Int} {l : List RT} (h : ∀ t ∈ l, Q t) (hk : ∀ t ∈ l, ∀ x ∈ t.kids, Q x) : ∀ t ∈ flatM k l, Q t := by
  intro t ht
  rcases flat_mem ht with ⟨h1, _⟩ | ⟨y, hy, _, hx⟩
  · exact h t h1
  · exact hk y hy t hx
theorem dep_kid {y x : RT} (h : x ∈ y.kids) : x.dep < y.dep := by
  obtain ⟨k, s, kids⟩ := y
  have h1 : (RT.mk k s kids).dep = ((RT.mk k s kids).dep - 1) + 1 := by have := dep_pos (RT.mk k s kids); omega
  have := dep_mk.1 (Nat.le_of_eq h1) x h
  have := dep_pos (RT.mk k s kids)
  omega
theorem flat_len (k : Int) (l : List RT) : (flatM k l).length ≤ (l.map RT.sz).sum := by
  induction l with
  | nil => simp [flatM]
  | cons a l ih =>
    have h1 := kids_len a
    have h2 := sz_pos a
    have e : flatM k (a :: l) = (if a.kind = k then a.kids else [a]) ++ flatM k l := by simp [flatM]
    rw [e, List.length_append, List.map_cons, List.sum_cons]
    split
    · omega
    · simp only [List.length_cons, List.length_nil]; omega
theorem six_ne {W : World} {D g : Nat} (h : g ≠ D) (a b c d e f : Value) :
    ((((((W.setCell ⟨D, 0, none⟩ a).setCell ⟨D, 1, none⟩ b).setCell ⟨D, 2, none⟩ c).setCell ⟨D, 3, none⟩ d).setCell ⟨D, 4, none⟩ e).setCell ⟨D, 5, none⟩ f).heap[g]? = W.heap[g]? := by
  rw [heap_set_ne _ _ _ (by exact h), heap_set_ne _ _ _ (by exact h), heap_set_ne _ _ _ (by exact h), heap_set_ne _ _ _ (by exact h), heap_set_ne _ _ _ (by exact h), heap_set_ne _ _ _ (by exact h)]
theorem noKind_len (k : Int) (l : List RT) : (noKind k l).length ≤ l.length := List.length_filter_le _ _

set_option maxRecDepth 100000 in
set_option maxHeartbeats 8000000 in
theorem cat_any {P : Nat → Prop} (w : World) {p : Option Addr} {n cap : Nat} {vs : List ReV} {l : List RT} (h : KidsR w P p n cap vs l) (hsz : (l.map RT.sz).sum ≤ 9000000000) :
    Calls Tryz.prog 52 #[.slice p n cap] w (GivesRe (fun g => P g ∨ w.heap.size ≤ g) (catM l) w) := by
  obtain ⟨D, hD⟩ : ∃ D, D = w.heap.size := ⟨_, rfl⟩
  obtain ⟨w1, hw1⟩ : ∃ w1 : World, w1 = w.alloc (.cells #[.int .i64 0, .int .u64 0, .int .u64 0, .int .u64 0, .int .u64 0, .slice none 0 0] 29) := ⟨_, rfl⟩
  have hb1 : Below w.heap.size w w1 := by rw [hw1]; exact (Below.refl _ _).alloc (Nat.le_refl _) _
  have hnD : w1.heap[D]? = some (.cells #[.int .i64 0, .int .u64 0, .int .u64 0, .int .u64 0, .int .u64 0, .slice none 0 0] 29 (0, 0)) := by rw [hw1, hD]; exact heap_alloc_new _ _
  have h0 : KidsR w (fun g => P g ∧ g < w.heap.size) p n cap vs l := h.kept (Keeps.of (Nat.le_refl _) fun b hp hl => ⟨rfl, hp, hl⟩)
  have c1 := opened_any w1 3 (h0.under hb1) hsz
  have hfl := flat_len 3 l
  obtain ⟨F, hF⟩ : ∃ F, F = flatM 3 l := ⟨_, rfl⟩
  obtain ⟨R, hR⟩ : ∃ R, R = catM l := ⟨_, rfl⟩
  rw [← hR]
  rw [← hF] at c1 hfl
  have HF := Lib.hid hF
  have HR := Lib.hid hR
  have HB1 := Lib.hid hb1
  have HND := Lib.hid hnD
  have HW1 := Lib.hid hw1
  have HDD := Lib.hid hD
  have hDl : D < w1.heap.size := (Array.getElem?_eq_some_iff.1 hnD).1
  have HDL := Lib.hid hDl
  clear h h0 hF hR hb1 hnD hw1 hD hDl
  go_enter Tryz.func52, Tryz.ntmps52
  go_wp2_with fail
  rw [← HW1.out, ← HDD.out]
  ((with_reducible refine c1.mono ?_))
  rintro _ w2 ⟨v, us, rfl, hO, hb2⟩
  obtain ⟨q, cp, rfl, hk⟩ := hO.slice hb2
  have hb3 : Below w2.heap.size w2 (w2.alloc (.cells #[.int .i64 0] 3)) := (Below.refl _ _).alloc (Nat.le_refl _) _
  have c2 := hasany_any (w2.alloc (.cells #[.int .i64 0] 3)) w2.heap.size 1 [0] ⟨heap_alloc_new _ _⟩ rfl (by decide) (hk.rowv.under hb3) (by omega)
  have e2 := kids_any hk (fun k => [0].contains k)
  rw [e2] at c2
  obtain ⟨E, hE⟩ : ∃ E, E = F.any fun t => [0].contains t.kind := ⟨_, rfl⟩
  rw [← hE] at c2
  have HE := Lib.hid hE
  have HO := Lib.hid hO
  have HB2 := Lib.hid hb2
  have HB3 := Lib.hid hb3
  clear hO hk e2 hE hb2 hb3 c1
  go_wp2_with fail
  ((with_reducible refine c2.mono ?_))
  rintro _ w4 ⟨rfl, hb4⟩
  have hb24 : Below w2.heap.size w2 w4 := HB3.out.trans (hb4.mono HB3.out.size)
  have hO4 : OwnRe w1 w4 (fun g => P g ∧ g < w.heap.size) (.slice q F.length cp) us F := by
    refine ⟨?_, HO.out.len, HO.out.each⟩
    rcases row_forms HO.out.own with ⟨e, h0⟩ | ⟨g, cp', e⟩
    · have h1 := HO.out.own
      rw [e] at h1 ⊢
      exact ⟨h1.1, .inl ⟨rfl, h0⟩⟩
    · have h1 := HO.out.own
      rw [e] at h1 ⊢
      exact own_at h1 (hb24.block g (row_base h1).2.2.2)
  have hb14 : Below w1.heap.size w1 w4 := HB2.out.trans (hb24.mono HB2.out.size)
  have HB14 := Lib.hid hb14
  have HO4 := Lib.hid hO4
  clear c2 hb4 hb24 hO4
  cases E with
  | true =>
    have h4D : w4.heap[D]? = some (.cells #[.int .i64 0, .int .u64 0, .int .u64 0, .int .u64 0, .int .u64 0, .slice none 0 0] 29 (0, 0)) := (hb14.block D HDL.out).trans HND.out
    have H4D := Lib.hid h4D
    have d0 : w4.cell? ⟨D, 0, none⟩ = some (.int .i64 0) := by simp [World.cell?, h4D]
    have d1 : w4.cell? ⟨D, 1, none⟩ = some (.int .u64 0) := by simp [World.cell?, h4D]
    have d2 : w4.cell? ⟨D, 2, none⟩ = some (.int .u64 0) := by simp [World.cell?, h4D]
    have d3 : w4.cell? ⟨D, 3, none⟩ = some (.int .u64 0) := by simp [World.cell?, h4D]
    have d4 : w4.cell? ⟨D, 4, none⟩ = some (.int .u64 0) := by simp [World.cell?, h4D]
    have d5 : w4.cell? ⟨D, 5, none⟩ = some (.slice none 0 0) := by simp [World.cell?, h4D]
    have f0 := frozen_no h4D 0
    have f1 := frozen_no h4D 1
    have f2 := frozen_no h4D 2
    have f3 := frozen_no h4D 3
    have f4 := frozen_no h4D 4
    have f5 := frozen_no h4D 5
    clear h4D hb14
    go_wp2
    refine bodyPost_ret_by (results_cell_row rfl _ _ D 29 #[.int .i64 0, .int .u64 0, .int .u64 0, .int .u64 0, .int .u64 0, .slice none 0 0] (0, 0) _ rfl (set6_heap H4D.out _ _ _ _ _ _) Tryz.underlying29 rfl (by kernel_rfl)) rfl ?_
    refine ⟨⟨0, 0, 0, 0, 0, none, 0, 0⟩, rfl, ?_, six_set (HB1.out.trans (HB14.out.mono HB1.out.size)) (by have := HDD.out; omega) _ _ _ _ _ _⟩
    have e : R = noneM := by
      rw [HR.out]
      unfold catM
      rw [if_pos]
      rw [← HF.out]
      have := HE.out.symm
      simpa [List.contains_cons, List.contains_nil] using this
    rw [e]
    exact kids_empty.tree 0 W4.zero zero_ok
  | false =>
    have c5 := without_any w4 1 HO4.out hb14.size (by omega)
    clear hb14
    go_wp2_with fail
    ((with_reducible refine c5.mono ?_))
    rintro _ w5 ⟨v5, us5, rfl, hO5, hg5, _⟩
    have hb5 : Below w1.heap.size w1 w5 := by
      rcases row_forms HO4.out.own with ⟨e, h0⟩ | ⟨g, cp', e⟩
      · rw [e] at hg5
        exact HB14.out.grown hg5 HB14.out.size (fun r hr => by cases hr)
      · have h1 := HO4.out.own
        rw [e] at hg5 h1
        exact HB14.out.grown hg5 HB14.out.size (fun r hr => by cases hr; exact (row_base h1).1)
    obtain ⟨q5, cp5, rfl, hk5⟩ := hO5.slice hb5
    have c6 := joined_any w5 3 1 hk5
    have h5D : w5.heap[D]? = some (.cells #[.int .i64 0, .int .u64 0, .int .u64 0, .int .u64 0, .int .u64 0, .slice none 0 0] 29 (0, 0)) := (hb5.block D HDL.out).trans HND.out
    have H5D := Lib.hid h5D
    have HB5 := Lib.hid hb5
    clear hO5 hg5 hb5 hk5 c5 h5D
    go_wp2_with fail
    ((with_reducible refine c6.mono ?_))
    rintro _ w6 ⟨x, rfl, hx, hb6⟩
    obtain ⟨k, a, b, c, d, q6, m, cp6⟩ := x
    have h6D : w6.heap[D]? = some (.cells #[.int .i64 0, .int .u64 0, .int .u64 0, .int .u64 0, .int .u64 0, .slice none 0 0] 29 (0, 0)) := (hb6.block D (Nat.lt_of_lt_of_le HDL.out HB5.out.size)).trans H5D.out
    have H6D := Lib.hid h6D
    have d0 : w6.cell? ⟨D, 0, none⟩ = some (.int .i64 0) := by simp [World.cell?, h6D]
    have d1 : w6.cell? ⟨D, 1, none⟩ = some (.int .u64 0) := by simp [World.cell?, h6D]
    have d2 : w6.cell? ⟨D, 2, none⟩ = some (.int .u64 0) := by simp [World.cell?, h6D]
    have d3 : w6.cell? ⟨D, 3, none⟩ = some (.int .u64 0) := by simp [World.cell?, h6D]
    have d4 : w6.cell? ⟨D, 4, none⟩ = some (.int .u64 0) := by simp [World.cell?, h6D]
    have d5 : w6.cell? ⟨D, 5, none⟩ = some (.slice none 0 0) := by simp [World.cell?, h6D]
    have f0 := frozen_no h6D 0
    have f1 := frozen_no h6D 1
    have f2 := frozen_no h6D 2
    have f3 := frozen_no h6D 3
    have f4 := frozen_no h6D 4
    have f5 := frozen_no h6D 5
    have HX := Lib.hid hx
    have HB6 := Lib.hid hb6
    clear hx hb6 h6D c6
    unfold ReV.val
    go_wp2
    refine bodyPost_ret_by (results_cell_row rfl _ _ D 29 #[.int .i64 k, .int .u64 a, .int .u64 b, .int .u64 c, .int .u64 d, .slice q6 m cp6] (0, 0) _ rfl (set6_heap H6D.out _ _ _ _ _ _) Tryz.underlying29 rfl (by kernel_rfl)) rfl ?_
    have hall : Below w.heap.size w w6 := HB1.out.trans ((HB5.out.trans (HB6.out.mono HB5.out.size)).mono HB1.out.size)
    refine ⟨⟨k, a, b, c, d, q6, m, cp6⟩, rfl, ?_, six_set hall (by have := HDD.out; omega) _ _ _ _ _ _⟩
    have e : R = someM 3 1 (noKind 1 F) := by
      rw [HR.out]
      unfold catM noKind
      rw [if_neg, HF.out]
      rw [← HF.out]
      intro h
      have h2 := HE.out
      simp [List.contains_cons, List.contains_nil] at h2 h
      obtain ⟨t, ht, hk⟩ := h
      exact h2 t ht hk
    rw [e]
    refine HX.out.kept (Keeps.of (by simp [World.setCell]) fun b hp hl => ?_)
    have hbD : b ≠ D := by
      have h1 := HDD.out
      have h2 : w1.heap.size = D + 1 := by rw [HW1.out, h1]; simp
      rcases hp with ⟨_, hp⟩ | hp
      · omega
      · omega
    refine ⟨six_ne hbD _ _ _ _ _ _, ?_⟩
    rcases hp with ⟨hp, _⟩ | hp
    · exact .inl hp
    · exact .inr (Nat.le_trans HB1.out.size hp)

theorem either_list (F : List RT) : noKind 0 (ofM (unionM F) :: noKind 2 F) = byteM F ++ othersM F := by
  have e : (noKind 2 F).filter (fun t => !(t.kind == 0)) = othersM F := by
    unfold noKind othersM
    rw [List.filter_filter]
  unfold noKind at e ⊢
  rw [List.filter_cons, e]
  unfold ofM byteM
  by_cases h : unionM F = W4.zero
  · rw [if_pos h, if_pos h]
    simp [noneM, RT.kind]
  · rw [if_neg h, if_neg h]
    simp [RT.kind]
theorem ofM_kids (s : W4) : (ofM s).kids = [] := by
  unfold ofM
  split <;> rfl
theorem ofM_dep (s : W4) : (ofM s).dep = 1 := by
  unfold ofM noneM
  split <;> (rw [RT.dep]; rfl)
theorem ofM_sz (s : W4) : (ofM s).sz = 1 := by
  unfold ofM noneM
  split <;> (rw [sz_mk]; rfl)
theorem OwnRe.moved {w W W' : World} {P : Nat → Prop} {v : Value} {us : List ReV} {l : List RT} (h : OwnRe w W P v us l) (hb : Below W.heap.size W W') : OwnRe w W' P v us l := by
  refine ⟨?_, h.len, h.each⟩
  rcases row_forms h.own with ⟨rfl, h0⟩ | ⟨g, cp, rfl⟩
  · exact ⟨h.own.1, .inl ⟨rfl, h0⟩⟩
  · exact own_at h.own (hb.block g (row_base h.own).2.2.2)
theorem OwnRe.belowDel {w W W' : World} {P : Nat → Prop} {v : Value} {us : List ReV} {l : List RT} (h : OwnRe w W P v us l) (hb : Below w.heap.size w W) (hg : W.grownBy W' v.ownBlock) : Below w.heap.size w W' :=
  hb.grown hg hb.size (own_above h.own)
theorem flat6_one (us : List ReV) : ∀ x ∈ us.flatMap ReV.cells, x.oneCell' = true := by
  intro x hx
  obtain ⟨y, _, hy⟩ := List.mem_flatMap.1 hx
  unfold ReV.cells at hy
  simp at hy
  rcases hy with rfl | rfl | rfl | rfl | rfl | rfl <;> rfl

set_option maxRecDepth 100000 in
set_option maxHeartbeats 8000000 in
theorem either_any {P : Nat → Prop} (w : World) {p : Option Addr} {n cap : Nat} {vs : List ReV} {l : List RT} (h : KidsR w P p n cap vs l) (hT : Tab1 w) (hdep : ∀ t ∈ l, t.dep < 10000) (hsz : (l.map RT.sz).sum ≤ 9000000000) :
    Calls Tryz.prog 51 #[.slice p n cap] w (GivesRe (fun g => P g ∨ w.heap.size ≤ g) (eitherM l) w) := by
  obtain ⟨i0, hi0, hz0, hz1, hz2⟩ := re_parts
  obtain ⟨D, hD⟩ : ∃ D, D = w.heap.size := ⟨_, rfl⟩
  obtain ⟨w1, hw1⟩ : ∃ w1 : World, w1 = w.alloc (.cells #[.int .i64 0, .int .u64 0, .int .u64 0, .int .u64 0, .int .u64 0, .slice none 0 0] 29) := ⟨_, rfl⟩
  have hb1 : Below w.heap.size w w1 := by rw [hw1]; exact (Below.refl _ _).alloc (Nat.le_refl _) _
  have hnD : w1.heap[D]? = some (.cells #[.int .i64 0, .int .u64 0, .int .u64 0, .int .u64 0, .int .u64 0, .slice none 0 0] 29 (0, 0)) := by rw [hw1, hD]; exact heap_alloc_new _ _
  have h0 : KidsR w (fun g => P g ∧ g < w.heap.size) p n cap vs l := h.kept (Keeps.of (Nat.le_refl _) fun b hp hl => ⟨rfl, hp, hl⟩)
  have c1 := opened_any w1 4 (h0.under hb1) hsz
  have hfl := flat_len 4 l
  have hfd : ∀ t ∈ flatM 4 l, t.dep < 10000 := flat_all hdep fun y hy x hx => by have := dep_kid hx; have := hdep y hy; omega
  have hfs : ∀ t ∈ flatM 4 l, t.sz ≤ 9000000000 := flat_all (fun t ht => by have := sum_mem ht; omega) fun y hy x hx => by have := kids_sz hx; have := sum_mem hy; omega
  obtain ⟨F, hF⟩ : ∃ F, F = flatM 4 l := ⟨_, rfl⟩
  obtain ⟨R, hR⟩ : ∃ R, R = eitherM l := ⟨_, rfl⟩
  rw [← hR]
  rw [← hF] at c1 hfl hfd hfs
  have HF := Lib.hid hF
  have HR := Lib.hid hR
  have HB1 := Lib.hid hb1
  have HND := Lib.hid hnD
  have HW1 := Lib.hid hw1
  have HDD := Lib.hid hD
  have HT1 := Lib.hid (hT.stays hb1)
  have HFD := Lib.hid hfd
  have HFS := Lib.hid hfs
  have hDl : D < w1.heap.size := (Array.getElem?_eq_some_iff.1 hnD).1
  have HDL := Lib.hid hDl
  clear h h0 hF hR hb1 hnD hw1 hD hDl hT hdep hfd hfs
  go_enter Tryz.func51, Tryz.ntmps51
  go_wp2_with fail
  rw [← HW1.out, ← HDD.out]
  ((with_reducible refine c1.mono ?_))
  rintro _ w2 ⟨v, us, rfl, hO, hb2⟩
  obtain ⟨q, cp, rfl, hk⟩ := hO.slice hb2
  have c2 := union_any w2 hk (by omega)
  obtain ⟨⟨sa, sb, sc, sd⟩, hS⟩ : ∃ s, s = unionM F := ⟨_, rfl⟩
  rw [← hS] at c2
  have hok : (⟨sa, sb, sc, sd⟩ : W4).Ok := by rw [hS]; exact of_ok _
  have HO := Lib.hid hO
  have HB2 := Lib.hid hb2
  have HS := Lib.hid hS
  have HOK := Lib.hid hok
  clear hO hb2 hk hS hok c1
  go_wp2_with fail
  ((with_reducible refine c2.mono ?_))
  rintro _ w3 ⟨rfl, hb3⟩
  have c3 := of_any (P := fun _ => True) w3 sa sb sc sd HOK.out
  have HB3 := Lib.hid hb3
  clear hb3 c2
  go_wp2_with fail
  ((with_reducible refine c3.mono ?_))
  rintro _ w4 ⟨x, rfl, hx, hb4⟩
  obtain ⟨k1, a1, b1, c1, d1, q1, m1, cp1⟩ := x
  have HB4 := Lib.hid hb4
  have HX := Lib.hid hx
  clear hb4 hx c3
  obtain ⟨g9, hg9⟩ : ∃ g9, g9 = w4.heap.size := ⟨_, rfl⟩
  obtain ⟨w5, hw5⟩ : ∃ w5 : World, w5 = w4.alloc (.cells #[.int .i64 k1, .int .u64 a1, .int .u64 b1, .int .u64 c1, .int .u64 d1, .slice q1 m1 cp1] 29) := ⟨_, rfl⟩
  have hb5 : Below w4.heap.size w4 w5 := by rw [hw5]; exact (Below.refl _ _).alloc (Nat.le_refl _) _
  have hb25 : Below w2.heap.size w2 w5 := (HB3.out.trans (HB4.out.mono HB3.out.size)).trans (hb5.mono (Nat.le_trans HB3.out.size HB4.out.size))
  have hO5 := HO.out.moved hb25
  have hb15 : Below w1.heap.size w1 w5 := HB2.out.trans (hb25.mono HB2.out.size)
  have hL5 : w5.ownsRow w1.heap.size 29 6 (.slice (some ⟨g9, 0, none⟩) 1 1) 1 [.int .i64 k1, .int .u64 a1, .int .u64 b1, .int .u64 c1, .int .u64 d1, .slice q1 m1 cp1] := by
    rw [hg9, hw5]
    exact row_new (c := #[.int .i64 k1, .int .u64 a1, .int .u64 b1, .int .u64 c1, .int .u64 d1, .slice q1 m1 cp1]) (Nat.le_trans HB2.out.size (Nat.le_trans HB3.out.size HB4.out.size)) (by decide) rfl
  have hne9 : ∀ g cp', (.slice q F.length cp : Value) = .slice (some ⟨g, 0, none⟩) F.length cp' → g < g9 := by
    intro g cp' e
    have h1 := HO.out.own
    rw [e] at h1
    have := (row_base h1).2.2.2
    have := HB3.out.size
    have := HB4.out.size
    omega
  have c6 := without_any w5 2 hO5 hb15.size (by omega)
  have HB15 := Lib.hid hb15
  have HO5 := Lib.hid hO5
  have HL5 := Lib.hid hL5
  have HNE9 := Lib.hid hne9
  have HG9 := Lib.hid hg9
  have HW5 := Lib.hid hw5
  unfold ReV.val
  clear hb5 hb25 hO5 hb15 hL5 hne9 hg9 hw5
  go_wp2_with fail
  rw [← HW5.out, ← HG9.out]
  ((with_reducible refine c6.mono ?_))
  rintro _ w6 ⟨v6, us6, rfl, hO6, hg6, _⟩
  have hb6 := HO5.out.belowDel HB15.out hg6
  have hL6 : w6.ownsRow w1.heap.size 29 6 (.slice (some ⟨g9, 0, none⟩) 1 1) 1 [.int .i64 k1, .int .u64 a1, .int .u64 b1, .int .u64 c1, .int .u64 d1, .slice q1 m1 cp1] := by
    refine own_at HL5.out (hg6.block g9 (row_base HL5.out).2.2.2 fun e => ?_)
    rcases row_forms HO.out.own with ⟨e2, _⟩ | ⟨g, cp', e2⟩
    · rw [e2] at e; cases e
    · have := HNE9.out g cp' e2
      rw [e2] at e
      have : g9 = g := by simpa [Value.ownBlock] using e
      omega
  obtain ⟨q6, cp6, rfl, hk6⟩ := hO6.slice hb6
  have hlen6 : (noKind 2 F).length ≤ 9000000000 := Nat.le_trans (noKind_len 2 F) (by omega)
  obtain ⟨n6, hn6⟩ : ∃ n6, n6 = (noKind 2 F).length := ⟨_, rfl⟩
  rw [← hn6] at hlen6 ⊢
  have hk6r := hk6.row
  have hul6 : us6.length = n6 := by rw [hO6.len, hn6]
  rw [← hn6] at hk6r
  have HO6 := Lib.hid hO6
  have HB6 := Lib.hid hb6
  have HL6 := Lib.hid hL6
  have HK6 := Lib.hid hk6r
  have HUL6 := Lib.hid hul6
  have HN6 := Lib.hid hn6
  have h1w : w1.heap.size ≤ w6.heap.size := hb6.size
  clear hO6 hb6 hL6 hk6 hk6r hul6 hn6 hg6 c6
  have fin : ∀ (v7 : Value) (w7 : World), w7.ownsRow w1.heap.size 29 6 v7 (1 + n6) ([.int .i64 k1, .int .u64 a1, .int .u64 b1, .int .u64 c1, .int .u64 d1, .slice q1 m1 cp1] ++ us6.flatMap ReV.cells) →
      OwnRe w1 w7 (fun g => P g ∧ g < w.heap.size) v7 (⟨k1, a1, b1, c1, d1, q1, m1, cp1⟩ :: us6) (ofM (unionM F) :: noKind 2 F) := by
    intro v7 w7 ho
    refine ⟨?_, by rw [List.length_cons, List.length_cons, HUL6.out, HN6.out], fun i y t hy ht => ?_⟩
    · rw [List.length_cons, ← HN6.out, Nat.add_comm]
      exact ho
    · cases i with
      | zero =>
        simp at hy ht
        subst hy ht
        rw [← HS.out]
        exact HX.out.leaf (ofM_kids _)
      | succ i => exact HO6.out.each i y t (by simpa using hy) (by simpa using ht)
  have HFIN := Lib.hid fin
  clear fin
  have cont : ∀ (q7 : Option Addr) (n7 cp7 : Nat) (w7 : World) (us7 : List ReV), OwnRe w1 w7 (fun g => P g ∧ g < w.heap.size) (.slice q7 n7 cp7) us7 (ofM (unionM F) :: noKind 2 F) → Below w1.heap.size w1 w7 →
      Calls Tryz.prog 58 #[.slice q7 n7 cp7, .int .i64 0] w7 (fun e w' => ∃ (q8 : Option Addr) (n8 cp8 : Nat) (us8 : List ReV), e = .returned (.slice q8 n8 cp8) ∧ OwnRe w1 w' (fun g => P g ∧ g < w.heap.size) (.slice q8 n8 cp8) us8 (byteM F ++ othersM F) ∧ Below w1.heap.size w1 w') := by
    intro q7 n7 cp7 w7 us7 ho hb
    refine (without_any w7 0 ho hb.size (by rw [List.length_cons, ← HN6.out]; omega)).mono ?_
    rintro _ w8 ⟨v8, us8, rfl, h1, h2, _⟩
    rw [either_list] at h1
    have hb8 := ho.belowDel hb h2
    obtain ⟨q8, cp8, rfl, _⟩ := h1.slice hb8
    exact ⟨q8, _, cp8, us8, rfl, h1, hb8⟩
  have HCO := Lib.hid cont
  clear cont
  have HZ := Lib.hid hlen6
  cases q6 with
  | none =>
    have hc : n6 = 0 ∧ cp6 = 0 := by
      rcases HK6.out with ⟨h1, h2⟩ | ⟨_, _, h1, _⟩
      · exact ⟨h1, h2 rfl⟩
      · cases h1
    obtain ⟨rfl, rfl⟩ := hc
    have hus : us6 = [] := List.length_eq_zero_iff.1 HUL6.out
    have h7 := HFIN.out _ w6 (by rw [hus]; exact HL6.out)
    have c7 := HCO.out _ _ _ w6 _ h7 HB6.out
    clear h7 hus
    go_wp2_with (at_builtin; go_loud (refine wpList_append_own_none rfl _ _ 27 rfl w1.heap.size 29 i0 6 Tryz.underlying27 hi0 _ _ _ rfl HL6.out rfl ?_))
    go_wp2_with fail
    ((with_reducible refine c7.mono ?_))
    rintro _ w8 ⟨q8, n8, cp8, us8, rfl, hO8, hb8⟩
    have c8 := sorted_any w8 hO8 hb8 HT1.out (fun t ht => by
        rcases List.mem_append.1 ht with h | h
        · unfold byteM at h
          split at h
          · simp at h
          · simp at h
            subst h
            rw [RT.dep]
            decide
        · exact HFD.out t (List.mem_filter.1 h).1) (fun t ht => by
        rcases List.mem_append.1 ht with h | h
        · unfold byteM at h
          split at h
          · simp at h
          · simp at h
            subst h
            rw [sz_mk]
            decide
        · exact HFS.out t (List.mem_filter.1 h).1) (by
        have h1 : (byteM F).length ≤ 1 := by unfold byteM; split <;> simp
        have h2 : (othersM F).length ≤ F.length := List.length_filter_le _ _
        rw [List.length_append]
        omega)
    have HB8 := Lib.hid hb8
    clear hO8 hb8 c7
    go_wp2_with fail
    ((with_reducible refine c8.mono ?_))
    rintro _ w9 ⟨v9, us9, rfl, hO9, hb9⟩
    have hb19 : Below w1.heap.size w1 w9 := HB8.out.trans hb9
    obtain ⟨q9, cp9, rfl, hk9⟩ := hO9.slice hb19
    have c9 := joined_any w9 4 0 hk9
    have h9D : w9.heap[D]? = some (.cells #[.int .i64 0, .int .u64 0, .int .u64 0, .int .u64 0, .int .u64 0, .slice none 0 0] 29 (0, 0)) := (hb19.block D HDL.out).trans HND.out
    have H9D := Lib.hid h9D
    have HB9 := Lib.hid hb19
    clear hO9 hb9 hb19 hk9 c8 h9D
    go_wp2_with fail
    ((with_reducible refine c9.mono ?_))
    rintro _ w10 ⟨x, rfl, hx, hb10⟩
    obtain ⟨k, a, b, c, d, q10, m, cp10⟩ := x
    have h6D : w10.heap[D]? = some (.cells #[.int .i64 0, .int .u64 0, .int .u64 0, .int .u64 0, .int .u64 0, .slice none 0 0] 29 (0, 0)) := (hb10.block D (Nat.lt_of_lt_of_le HDL.out HB9.out.size)).trans H9D.out
    have H6D := Lib.hid h6D
    have d0 : w10.cell? ⟨D, 0, none⟩ = some (.int .i64 0) := by simp [World.cell?, h6D]
    have d1 : w10.cell? ⟨D, 1, none⟩ = some (.int .u64 0) := by simp [World.cell?, h6D]
    have d2 : w10.cell? ⟨D, 2, none⟩ = some (.int .u64 0) := by simp [World.cell?, h6D]
    have d3 : w10.cell? ⟨D, 3, none⟩ = some (.int .u64 0) := by simp [World.cell?, h6D]
    have d4 : w10.cell? ⟨D, 4, none⟩ = some (.int .u64 0) := by simp [World.cell?, h6D]
    have d5 : w10.cell? ⟨D, 5, none⟩ = some (.slice none 0 0) := by simp [World.cell?, h6D]
    have f0 := frozen_no h6D 0
    have f1 := frozen_no h6D 1
    have f2 := frozen_no h6D 2
    have f3 := frozen_no h6D 3
    have f4 := frozen_no h6D 4
    have f5 := frozen_no h6D 5
    have HX10 := Lib.hid hx
    have HB10 := Lib.hid hb10
    clear hx hb10 h6D c9
    unfold ReV.val
    go_wp2
    refine bodyPost_ret_by (results_cell_row rfl _ _ D 29 #[.int .i64 k, .int .u64 a, .int .u64 b, .int .u64 c, .int .u64 d, .slice q10 m cp10] (0, 0) _ rfl (set6_heap H6D.out _ _ _ _ _ _) Tryz.underlying29 rfl (by kernel_rfl)) rfl ?_
    have hall : Below w.heap.size w w10 := HB1.out.trans ((HB9.out.trans (HB10.out.mono HB9.out.size)).mono HB1.out.size)
    refine ⟨⟨k, a, b, c, d, q10, m, cp10⟩, rfl, ?_, six_set hall (by have := HDD.out; omega) _ _ _ _ _ _⟩
    have e : R = someM 4 0 (putsM (byteM F ++ othersM F)) := by
      rw [HR.out]
      unfold eitherM
      rw [HF.out]
    rw [e]
    refine HX10.out.kept (Keeps.of (by simp [World.setCell]) fun b hp hl => ?_)
    have hbD : b ≠ D := by
      have h1 := HDD.out
      have h2 : w1.heap.size = D + 1 := by rw [HW1.out, h1]; simp
      rcases hp with ⟨_, hp⟩ | hp
      · omega
      · omega
    refine ⟨six_ne hbD _ _ _ _ _ _, ?_⟩
    rcases hp with ⟨hp, _⟩ | hp
    · exact .inl hp
    · exact .inr (Nat.le_trans HB1.out.size hp)
  | some ad =>
    have hcells : ∀ (j : Nat) (x : Value), (us6.flatMap ReV.cells)[j]? = some x → w6.cell? (ad.add j) = some x := by
      intro j x hx
      rcases HK6.out with ⟨h1, _⟩ | ⟨g', off', h1, _, _, _, _, h6⟩
      · have : us6 = [] := List.length_eq_zero_iff.1 (by rw [HUL6.out]; exact h1)
        rw [this] at hx
        simp at hx
      · obtain rfl : ad = ⟨g', off', none⟩ := Option.some.inj h1
        rw [addr_add]
        exact h6 j x hx
    have hone := flat6_one us6
    have hlenc : (us6.flatMap ReV.cells).length = n6 * 6 := by rw [flat6_len, HUL6.out]
    go_wp2_with (at_builtin; go_loud (refine wpList_append_own_at _ rfl _ _ 27 rfl w1.heap.size 29 i0 _ 6 64 Tryz.underlying27 hi0 hz0 hz1 hz2 rfl (by decide) _ _ _ rfl HL6.out ad n6 cp6 (us6.flatMap ReV.cells) rfl hlenc hcells hone ?c3 ?c4 ?c5 ?_))
    case c3 => unfold maxLen; omega
    case c4 => omega
    case c5 => exact h1w
    intro v7 w7 hown hgrow _ _
    have h7 := HFIN.out v7 w7 hown
    have hb7 : Below w1.heap.size w1 w7 := HB6.out.grown hgrow h1w (own_above HL6.out)
    obtain ⟨q7, cp7, rfl, _⟩ := h7.slice hb7
    have c7 := HCO.out _ _ _ w7 _ h7 hb7
    obtain ⟨n7, hn7⟩ : ∃ n7, n7 = (ofM (unionM F) :: noKind 2 F).length := ⟨_, rfl⟩
    rw [← hn7] at c7 ⊢
    clear hn7
    clear h7 hb7 hown hgrow hcells hone hlenc
    go_wp2_with fail
    ((with_reducible refine c7.mono ?_))
    rintro _ w8 ⟨q8, n8, cp8, us8, rfl, hO8, hb8⟩
    have c8 := sorted_any w8 hO8 hb8 HT1.out (fun t ht => by
        rcases List.mem_append.1 ht with h | h
        · unfold byteM at h
          split at h
          · simp at h
          · simp at h
            subst h
            rw [RT.dep]
            decide
        · exact HFD.out t (List.mem_filter.1 h).1) (fun t ht => by
        rcases List.mem_append.1 ht with h | h
        · unfold byteM at h
          split at h
          · simp at h
          · simp at h
            subst h
            rw [sz_mk]
            decide
        · exact HFS.out t (List.mem_filter.1 h).1) (by
        have h1 : (byteM F).length ≤ 1 := by unfold byteM; split <;> simp
        have h2 : (othersM F).length ≤ F.length := List.length_filter_le _ _
        rw [List.length_append]
        omega)
    have HB8 := Lib.hid hb8
    clear hO8 hb8 c7
    go_wp2_with fail
    ((with_reducible refine c8.mono ?_))
    rintro _ w9 ⟨v9, us9, rfl, hO9, hb9⟩
    have hb19 : Below w1.heap.size w1 w9 := HB8.out.trans hb9
    obtain ⟨q9, cp9, rfl, hk9⟩ := hO9.slice hb19
    have c9 := joined_any w9 4 0 hk9
    have h9D : w9.heap[D]? = some (.cells #[.int .i64 0, .int .u64 0, .int .u64 0, .int .u64 0, .int .u64 0, .slice none 0 0] 29 (0, 0)) := (hb19.block D HDL.out).trans HND.out
    have H9D := Lib.hid h9D
    have HB9 := Lib.hid hb19
    clear hO9 hb9 hb19 hk9 c8 h9D
    go_wp2_with fail
    ((with_reducible refine c9.mono ?_))
    rintro _ w10 ⟨x, rfl, hx, hb10⟩
    obtain ⟨k, a, b, c, d, q10, m, cp10⟩ := x
    have h6D : w10.heap[D]? = some (.cells #[.int .i64 0, .int .u64 0, .int .u64 0, .int .u64 0, .int .u64 0, .slice none 0 0] 29 (0, 0)) := (hb10.block D (Nat.lt_of_lt_of_le HDL.out HB9.out.size)).trans H9D.out
    have H6D := Lib.hid h6D
    have d0 : w10.cell? ⟨D, 0, none⟩ = some (.int .i64 0) := by simp [World.cell?, h6D]
    have d1 : w10.cell? ⟨D, 1, none⟩ = some (.int .u64 0) := by simp [World.cell?, h6D]
    have d2 : w10.cell? ⟨D, 2, none⟩ = some (.int .u64 0) := by simp [World.cell?, h6D]
    have d3 : w10.cell? ⟨D, 3, none⟩ = some (.int .u64 0) := by simp [World.cell?, h6D]
    have d4 : w10.cell? ⟨D, 4, none⟩ = some (.int .u64 0) := by simp [World.cell?, h6D]
    have d5 : w10.cell? ⟨D, 5, none⟩ = some (.slice none 0 0) := by simp [World.cell?, h6D]
    have f0 := frozen_no h6D 0
    have f1 := frozen_no h6D 1
    have f2 := frozen_no h6D 2
    have f3 := frozen_no h6D 3
    have f4 := frozen_no h6D 4
    have f5 := frozen_no h6D 5
    have HX10 := Lib.hid hx
    have HB10 := Lib.hid hb10
    clear hx hb10 h6D c9
    unfold ReV.val
    go_wp2
    refine bodyPost_ret_by (results_cell_row rfl _ _ D 29 #[.int .i64 k, .int .u64 a, .int .u64 b, .int .u64 c, .int .u64 d, .slice q10 m cp10] (0, 0) _ rfl (set6_heap H6D.out _ _ _ _ _ _) Tryz.underlying29 rfl (by kernel_rfl)) rfl ?_
    have hall : Below w.heap.size w w10 := HB1.out.trans ((HB9.out.trans (HB10.out.mono HB9.out.size)).mono HB1.out.size)
    refine ⟨⟨k, a, b, c, d, q10, m, cp10⟩, rfl, ?_, six_set hall (by have := HDD.out; omega) _ _ _ _ _ _⟩
    have e : R = someM 4 0 (putsM (byteM F ++ othersM F)) := by
      rw [HR.out]
      unfold eitherM
      rw [HF.out]
    rw [e]
    refine HX10.out.kept (Keeps.of (by simp [World.setCell]) fun b hp hl => ?_)
    have hbD : b ≠ D := by
      have h1 := HDD.out
      have h2 : w1.heap.size = D + 1 := by rw [HW1.out, h1]; simp
      rcases hp with ⟨_, hp⟩ | hp
      · omega
      · omega
    refine ⟨six_ne hbD _ _ _ _ _ _, ?_⟩
    rcases hp with ⟨hp, _⟩ | hp
    · exact .inl hp
    · exact .inr (Nat.le_trans HB1.out.size hp)

end Go.Proofs.YtjeplmnjgdpgbaaGreatDoor

/-! What is found out about expressions, in a row: is one of them such? And rows of truths. No condition but size. -/
namespace Go.Proofs.YtjeplmnjgdpgbaaGreatDoor
open Go.RowKit Go.Lib
set_option linter.unusedVariables false
set_option linter.unusedSimpArgs false

/-- What is left of an expression, and whether it derives the empty text, as they lie in memory. -/
structure FV where
  re : ReV
  nul : Bool
  deriving Inhabited
def FV.cells (x : FV) : List Value := [.int .i64 x.re.kind, .int .u64 x.re.a, .int .u64 x.re.b, .int .u64 x.re.c, .int .u64 x.re.d, .slice x.re.p x.re.n x.re.cap, .bool x.nul]
def FV.val (x : FV) : Value := .agg #[.int .i64 x.re.kind, .int .u64 x.re.a, .int .u64 x.re.b, .int .u64 x.re.c, .int .u64 x.re.d, .slice x.re.p x.re.n x.re.cap, .bool x.nul]
theorem flatF_len (vs : List FV) : (vs.flatMap FV.cells).length = vs.length * 7 := by
  induction vs with
  | nil => rfl
  | cons x vs ih => simp [FV.cells] at ih ⊢; omega
theorem flatF_at (vs : List FV) (i j : Nat) (x : FV) (h : vs[i]? = some x) (hj : j < 7) : (vs.flatMap FV.cells)[i * 7 + j]? = x.cells[j]? := by
  induction vs generalizing i with
  | nil => simp at h
  | cons y vs ih =>
    cases i with
    | zero =>
      simp at h
      subst h
      simp only [List.flatMap_cons, Nat.zero_mul, Nat.zero_add]
      rw [List.getElem?_append_left (by simp [FV.cells]; exact hj)]
    | succ i =>
      simp at h
      have := ih i h
      simp only [List.flatMap_cons]
      rw [List.getElem?_append_right (by simp [FV.cells]; omega), show (i + 1) * 7 + j - (FV.cells y).length = i * 7 + j by simp [FV.cells]; omega]
      exact this
/-- A row of facts. -/
structure RowF (W : World) (P : Nat → Prop) (p : Option Addr) (n cap : Nat) (vs : List FV) : Prop where
  row : RowR W P p n cap (vs.flatMap FV.cells)
  num : n = vs.length
theorem RowF.kept {W W' : World} {P P' : Nat → Prop} {p : Option Addr} {n cap : Nat} {vs : List FV} (h : RowF W P p n cap vs) (hk : Keeps W W' P P') : RowF W' P' p n cap vs := ⟨h.row.kept hk, h.num⟩
theorem RowF.under {W W' : World} {P : Nat → Prop} {p : Option Addr} {n cap : Nat} {vs : List FV} (h : RowF W P p n cap vs) (hb : Below W.heap.size W W') : RowF W' P p n cap vs := h.kept (Keeps.below hb)
theorem RowF.some_of {W : World} {P : Nat → Prop} {p : Option Addr} {n cap : Nat} {vs : List FV} (h : RowF W P p n cap vs) {i : Nat} (hi : i < n) : ∃ g off, p = some ⟨g, off, none⟩ := by
  rcases h.row with ⟨h0, _⟩ | ⟨g', off', h1, _⟩
  · omega
  · exact ⟨g', off', h1⟩
theorem RowF.seven {W : World} {P : Nat → Prop} {g off n cap : Nat} {vs : List FV} (h : RowF W P (some ⟨g, off, none⟩) n cap vs) {i : Nat} {y : FV} (hy : vs[i]? = some y) :
    W.cell? ⟨g, off + i * 7, none⟩ = some (.int .i64 y.re.kind) ∧ W.cell? ⟨g, off + i * 7 + 1, none⟩ = some (.int .u64 y.re.a) ∧ W.cell? ⟨g, off + i * 7 + 2, none⟩ = some (.int .u64 y.re.b) ∧ W.cell? ⟨g, off + i * 7 + 3, none⟩ = some (.int .u64 y.re.c) ∧
    W.cell? ⟨g, off + i * 7 + 4, none⟩ = some (.int .u64 y.re.d) ∧ W.cell? ⟨g, off + i * 7 + 5, none⟩ = some (.slice y.re.p y.re.n y.re.cap) ∧ W.cell? ⟨g, off + i * 7 + 6, none⟩ = some (.bool y.nul) := by
  have hi := (List.getElem?_eq_some_iff.1 hy).1
  rcases h.row with ⟨h0, _⟩ | ⟨g', off', h1, h2, h3, h4, h5, h6⟩
  · have := h.num; omega
  · obtain ⟨rfl, rfl⟩ : g = g' ∧ off = off' := by simp at h1; exact h1
    have key : ∀ (j : Nat) (u : Value), j < 7 → y.cells[j]? = some u → W.cell? ⟨g, off + (i * 7 + j), none⟩ = some u := fun j u hj hu => h6 _ u ((flatF_at vs i j y hy hj).trans hu)
    refine ⟨key 0 _ (by omega) rfl, ?_, ?_, ?_, ?_, ?_, ?_⟩
    · rw [Nat.add_assoc]; exact key 1 _ (by omega) rfl
    · rw [Nat.add_assoc]; exact key 2 _ (by omega) rfl
    · rw [Nat.add_assoc]; exact key 3 _ (by omega) rfl
    · rw [Nat.add_assoc]; exact key 4 _ (by omega) rfl
    · rw [Nat.add_assoc]; exact key 5 _ (by omega) rfl
    · rw [Nat.add_assoc]; exact key 6 _ (by omega) rfl

set_option maxRecDepth 100000 in
set_option maxHeartbeats 1000000 in
theorem isnullable_any (W : World) (x : FV) : Calls Tryz.prog 36 #[x.val] W (GivesBool x.nul W) := by
  unfold FV.val
  go_enter Tryz.func36, Tryz.ntmps36
  go_wp2
  go_ret
  exact ⟨rfl, (Below.refl _ _).alloc (Nat.le_refl _) _⟩
set_option maxRecDepth 100000 in
set_option maxHeartbeats 1000000 in
theorem isnotnullable_any (W : World) (x : FV) : Calls Tryz.prog 37 #[x.val] W (GivesBool (!x.nul) W) := by
  unfold FV.val
  go_enter Tryz.func37, Tryz.ntmps37
  go_wp2
  go_ret
  exact ⟨rfl, (Below.refl _ _).alloc (Nat.le_refl _) _⟩

/-- The place of the first one. -/
def FirstF (q : FV → Bool) (vs : List FV) (r : Int) : Prop :=
  (r = -1 ∧ ∀ y ∈ vs, q y = false) ∨ ∃ (i : Nat) (y : FV), r = (i : Int) ∧ vs[i]? = some y ∧ q y = true ∧ ∀ (j : Nat) (z : FV), j < i → vs[j]? = some z → q z = false
theorem FirstF.any {q : FV → Bool} {vs : List FV} {r : Int} (h : FirstF q vs r) : decide (r ≥ 0) = vs.any q := by
  rcases h with ⟨rfl, h⟩ | ⟨i, y, rfl, hy, hq, _⟩
  · have e : vs.any q = false := by rw [List.any_eq_false]; intro x hx; rw [h x hx]; simp
    rw [e]
    rfl
  · have e : vs.any q = true := List.any_eq_true.2 ⟨y, List.mem_of_getElem? hy, hq⟩
    rw [e]
    simp

set_option maxRecDepth 100000 in
set_option maxHeartbeats 4000000 in
theorem indexF_any (K : Nat) (cs : Array Value) (eg : ∀ args w, (callFunc K args).run Tryz.prog w = .ok (.enter K args) w) (q : FV → Bool) (w : World)
    (hw : ∀ (W : World) (x : FV), Below w.heap.size w W → Calls Tryz.prog K (#[x.val] ++ cs) W (GivesBool (q x) W))
    {P : Nat → Prop} {p : Option Addr} {n cap : Nat} {vs : List FV} (h : RowF w P p n cap vs) (hn : n ≤ 9223372036854775807) :
    Calls Tryz.prog 49 #[.slice p n cap, .func (.func K) #[] cs] w fun e w' => ∃ r, e = .returned (.int .i64 r) ∧ FirstF q vs r ∧ Below w.heap.size w w' := by
  have HW := Lib.hid hw
  have HR := Lib.hid h
  clear hw h
  go_enter Tryz.func49, Tryz.ntmps49
  go_wp2
  go_loopg [8] n (fun gk v wr => ∃ i : Nat, v = .int .i64 (i : Int) ∧ i ≤ n ∧ n - i ≤ gk ∧ Hid (Below w.heap.size w wr) ∧ Hid (∀ (j : Nat) (z : FV), j < i → vs[j]? = some z → q z = false))
  case atStart => exact ⟨0, rfl, by omega, by omega, Below.refl _ _, fun j z hj => by omega⟩
  case round =>
    obtain ⟨i, rfl, hi, hgk, HB, HF⟩ := hrel
    by_cases hlt : i < n
    · have hltz : (i : Int) < (n : Int) := by omega
      obtain ⟨g, off, rfl⟩ := HR.out.some_of hlt
      obtain ⟨y, hy⟩ : ∃ y, vs[i]? = some y := ⟨_, List.getElem?_eq_getElem (by rw [← HR.out.num]; exact hlt)⟩
      obtain ⟨p0, p1, p2, p3, p4, p5, p6⟩ := (HR.out.under HB.out).seven hy
      have hcon := HW.out wr y HB.out
      unfold FV.val at hcon
      obtain ⟨R, hR⟩ : ∃ R, R = q y := ⟨_, rfl⟩
      rw [← hR] at hcon
      have HQ := Lib.hid hR
      have HY := Lib.hid hy
      clear hR hy
      go_wp2_with fail
      ((with_reducible refine hcon.mono ?_))
      rintro _ w2 ⟨rfl, hb2⟩
      have HB2 : Hid (Below w.heap.size w w2) := HB.out.trans (hb2.mono HB.out.size)
      clear hb2 hcon p0 p1 p2 p3 p4 p5 p6
      cases R with
      | true =>
        go_wp2
        go_ret
        exact ⟨_, rfl, .inr ⟨i, y, rfl, HY.out, HQ.out.symm, HF.out⟩, HB2.out⟩
      | false =>
        go_wp2
        go_roundg (n - (i + 1))
        case measure => omega
        case rel =>
          refine ⟨i + 1, by go_num, by omega, Nat.le_refl _, HB2, fun j z hj hz => ?_⟩
          rcases Nat.lt_or_ge j i with h | h
          · exact HF.out j z h hz
          · obtain rfl : j = i := by omega
            have e := HY.out.symm.trans hz
            rw [← Option.some.inj e]
            exact HQ.out.symm
    · have hltz : ¬ (i : Int) < (n : Int) := by omega
      go_wp2
      go_ret
      refine ⟨_, rfl, .inl ⟨rfl, fun y hy => ?_⟩, HB.out⟩
      obtain ⟨j, hj, e⟩ := List.getElem_of_mem hy
      exact HF.out j y (by have := HR.out.num; omega) (by rw [← e]; exact List.getElem?_eq_getElem hj)
theorem containsF_any (K : Nat) (cs : Array Value) (eg : ∀ args w, (callFunc K args).run Tryz.prog w = .ok (.enter K args) w) (q : FV → Bool) (w : World)
    (hw : ∀ (W : World) (x : FV), Below w.heap.size w W → Calls Tryz.prog K (#[x.val] ++ cs) W (GivesBool (q x) W))
    {P : Nat → Prop} {p : Option Addr} {n cap : Nat} {vs : List FV} (h : RowF w P p n cap vs) (hn : n ≤ 9223372036854775807) :
    Calls Tryz.prog 35 #[.slice p n cap, .func (.func K) #[] cs] w (GivesBool (vs.any q) w) := by
  have hcon := indexF_any K cs eg q w hw h hn
  clear hw h
  go_enter Tryz.func35, Tryz.ntmps35
  go_wp2_with fail
  ((with_reducible refine hcon.mono ?_))
  rintro _ w2 ⟨r, rfl, hf, hb⟩
  have HF := Lib.hid hf
  have HB := Lib.hid hb
  clear hf hb hcon
  go_wp2
  go_ret
  refine ⟨?_, HB.out⟩
  rw [HF.out.any]
  exact rfl

/-! ### truths in a row -/
def bcells (l : List Bool) : List Value := l.map Value.bool
structure RowB (W : World) (P : Nat → Prop) (p : Option Addr) (n cap : Nat) (l : List Bool) : Prop where
  row : RowR W P p n cap (bcells l)
  num : n = l.length
theorem RowB.kept {W W' : World} {P P' : Nat → Prop} {p : Option Addr} {n cap : Nat} {l : List Bool} (h : RowB W P p n cap l) (hk : Keeps W W' P P') : RowB W' P' p n cap l := ⟨h.row.kept hk, h.num⟩
theorem RowB.under {W W' : World} {P : Nat → Prop} {p : Option Addr} {n cap : Nat} {l : List Bool} (h : RowB W P p n cap l) (hb : Below W.heap.size W W') : RowB W' P p n cap l := h.kept (Keeps.below hb)
theorem RowB.some_of {W : World} {P : Nat → Prop} {p : Option Addr} {n cap : Nat} {l : List Bool} (h : RowB W P p n cap l) {i : Nat} (hi : i < n) : ∃ g off, p = some ⟨g, off, none⟩ := by
  rcases h.row with ⟨h0, _⟩ | ⟨g', off', h1, _⟩
  · omega
  · exact ⟨g', off', h1⟩
theorem RowB.cell {W : World} {P : Nat → Prop} {g off n cap : Nat} {l : List Bool} (h : RowB W P (some ⟨g, off, none⟩) n cap l) {i : Nat} {y : Bool} (hy : l[i]? = some y) : W.cell? ⟨g, off + i, none⟩ = some (.bool y) := by
  have hi := (List.getElem?_eq_some_iff.1 hy).1
  rcases h.row with ⟨h0, _⟩ | ⟨g', off', h1, h2, h3, h4, h5, h6⟩
  · have := h.num; omega
  · obtain ⟨rfl, rfl⟩ : g = g' ∧ off = off' := by simp at h1; exact h1
    exact h6 i _ (by simp [bcells, hy])
structure IdxB (ks : List Bool) (k : Bool) (r : Int) : Prop where
  is : decide (r ≥ 0) = ks.contains k

set_option maxRecDepth 100000 in
set_option maxHeartbeats 4000000 in
theorem indexb_any (w : World) {P : Nat → Prop} {p : Option Addr} {n cap : Nat} {ks : List Bool} (k : Bool) (h : RowB w P p n cap ks) (hn : n ≤ 9223372036854775807) :
    Calls Tryz.prog 43 #[.slice p n cap, .bool k] w fun e w' => ∃ r : Int, e = .returned (.int .i64 r) ∧ IdxB ks k r ∧ w' = w := by
  have HI := Lib.hid h
  have HN := Lib.hid h.num
  clear h
  go_enter Tryz.func43, Tryz.ntmps43
  go_wp2
  go_loopg [8] n (fun gk v wr => ∃ i : Nat, v = .int .i64 (i : Int) ∧ i ≤ n ∧ n - i ≤ gk ∧ wr = w ∧ Hid (∀ (j : Nat) (z : Bool), j < i → ks[j]? = some z → z ≠ k))
  case atStart => exact ⟨0, rfl, by omega, by omega, rfl, fun j z hj => by omega⟩
  case round =>
    obtain ⟨i, rfl, hi, hgk, rfl, HF⟩ := hrel
    by_cases hlt : i < n
    · have hltz : (i : Int) < (n : Int) := by omega
      obtain ⟨g, off, rfl⟩ := HI.out.some_of hlt
      obtain ⟨y, hy⟩ : ∃ y, ks[i]? = some y := ⟨_, List.getElem?_eq_getElem (by rw [← HN.out]; exact hlt)⟩
      have c0 := HI.out.cell hy
      have HY := Lib.hid hy
      clear hy
      by_cases hk : k = y
      · subst hk
        have hkk : (k == k) = true := by simp
        go_wp2
        go_ret
        refine ⟨_, rfl, ⟨?_⟩, rfl⟩
        have e : ks.contains k = true := by rw [List.contains_iff_mem]; exact List.mem_of_getElem? HY.out
        rw [e]
        simp
      · have hkk : (k == y) = false := by simpa using hk
        have HK := Lib.hid hk
        clear hk
        go_wp2
        go_roundg (n - (i + 1))
        case measure => omega
        case rel =>
          refine ⟨i + 1, by go_num, by omega, Nat.le_refl _, rfl, fun j z hj hz => ?_⟩
          rcases Nat.lt_or_ge j i with h | h
          · exact HF.out j z h hz
          · obtain rfl : j = i := by omega
            have e := HY.out.symm.trans hz
            rw [← Option.some.inj e]
            exact fun h => HK.out h.symm
    · have hltz : ¬ (i : Int) < (n : Int) := by omega
      go_wp2
      go_ret
      refine ⟨_, rfl, ⟨?_⟩, rfl⟩
      have e : ks.contains k = false := by
        rw [Bool.eq_false_iff]
        intro h
        rw [List.contains_iff_mem] at h
        obtain ⟨j, hj, e⟩ := List.getElem_of_mem h
        exact HF.out j k (by have := HN.out; omega) (by rw [← e]; exact List.getElem?_eq_getElem hj) rfl
      rw [e]
      rfl
theorem containsb_any (w : World) {P : Nat → Prop} {p : Option Addr} {n cap : Nat} {ks : List Bool} (k : Bool) (h : RowB w P p n cap ks) (hn : n ≤ 9223372036854775807) :
    Calls Tryz.prog 24 #[.slice p n cap, .bool k] w fun e w' => e = .returned (.bool (ks.contains k)) ∧ w' = w := by
  have hcon := indexb_any w k h hn
  clear h hn
  go_enter Tryz.func24, Tryz.ntmps24
  go_wp2_with fail
  ((with_reducible refine hcon.mono ?_))
  rintro _ _ ⟨r, rfl, hf, rfl⟩
  have HF := Lib.hid hf
  clear hf hcon
  go_wp2
  go_ret
  refine ⟨?_, rfl⟩
  rw [HF.out.is]
  exact rfl

/-! ### by the kind -/
set_option maxRecDepth 100000 in
set_option maxHeartbeats 1000000 in
/-- nullable: by the kind, by whether some kids are, and whether all are. -/
theorem exprnull_any (W : World) (b o : Nat) (x : ReV) (hp : PlaceR W b o x) (s a : Bool) :
    Calls Tryz.prog 23 #[.pointer (some ⟨b, o, none⟩), .bool s, .bool a] W fun e w' => e = .returned (.bool (if x.kind = 1 ∨ x.kind = 5 then true else if x.kind = 3 then a else if x.kind = 4 then s else false)) ∧ W = w' := by
  obtain ⟨c0, _, _, _, _, c5⟩ := hp.six
  obtain ⟨k, hk⟩ : ∃ k, k = x.kind := ⟨_, rfl⟩
  rw [← hk] at c0 ⊢
  clear hk hp c5
  by_cases k1 : k = 1
  · subst k1
    go_enter Tryz.func23, Tryz.ntmps23
    go_wp2
    go_ret
    exact ⟨rfl, rfl⟩
  by_cases k5 : k = 5
  · subst k5
    go_enter Tryz.func23, Tryz.ntmps23
    go_wp2
    go_ret
    exact ⟨rfl, rfl⟩
  by_cases k3 : k = 3
  · subst k3
    go_enter Tryz.func23, Tryz.ntmps23
    go_wp2
    go_ret
    exact ⟨rfl, rfl⟩
  by_cases k4 : k = 4
  · subst k4
    go_enter Tryz.func23, Tryz.ntmps23
    go_wp2
    go_ret
    exact ⟨rfl, rfl⟩
  have q1 : (k == 1) = false := by simpa using k1
  have q5 : (k == 5) = false := by simpa using k5
  have q3 : (k == 3) = false := by simpa using k3
  have q4 : (k == 4) = false := by simpa using k4
  have e : (if k = 1 ∨ k = 5 then true else if k = 3 then a else if k = 4 then s else false) = false := by simp [k1, k5, k3, k4]
  rw [e]
  clear e k1 k5 k3 k4
  go_enter Tryz.func23, Tryz.ntmps23
  go_wp2
  go_ret
  exact ⟨rfl, rfl⟩

end Go.Proofs.YtjeplmnjgdpgbaaGreatDoor

/-! The law's numbers that are taken one by one. No condition. -/
namespace Go.Proofs.YtjeplmnjgdpgbaaGreatDoor
open Go.RowKit Go.Lib
set_option linter.unusedVariables false
set_option linter.unusedSimpArgs false

theorem grown_refl (w : World) (row : Option Nat) : w.grownBy w row := ⟨rfl, rfl, rfl, Nat.le_refl _, fun _ _ _ => rfl⟩

theorem grown_drew {w w' : World} {row : Option Nat} (h : w.grownBy w' row) (n : Nat) : w.grownBy (w'.drewN n) row := ⟨h.os, h.tape, h.output, h.size, h.block⟩

theorem grown_alloc {w w' : World} {row : Option Nat} (h : w.grownBy w' row) (o : Obj) : w.grownBy (w'.alloc o) row := h.trans (World.grownBy_alloc w' o row)

theorem grown_set {w w' : World} {R : Nat} (h : w.grownBy w' (some R)) (k : Nat) (v : Value) : w.grownBy (w'.setCell ⟨R, k, none⟩ v) (some R) :=
  h.trans ⟨rfl, rfl, rfl, by simp [World.setCell], fun i _ hi => Below.heap_setCell _ _ _ _ (fun e => hi (by rw [e]))⟩

theorem grown_below {w w1 w' : World} {row : Option Nat} (h : w.grownBy w1 row) (hb : Below w1.heap.size w1 w') : w.grownBy w' row :=
  h.trans ⟨hb.os, hb.tape, hb.output, hb.size, fun k hk _ => hb.block k hk⟩

/-- A slice of bytes that reads so, in a block below R. -/
def BytesLow (W : World) (R : Nat) (v : Value) (zs : List Int) : Prop :=
  ∃ a cap, v = .slice a zs.length cap ∧ zs.length ≤ cap ∧ zs.length ≤ maxLen ∧ (∀ z ∈ zs, 0 ≤ z ∧ z ≤ 255) ∧
    (0 < zs.length → ∃ b off, a = some ⟨b, off, none⟩ ∧ b < R ∧ ∀ (i : Nat) (z : Int), zs[i]? = some z → W.cell? ⟨b, off + i, none⟩ = some (.int .u8 z))

theorem BytesLow.kept {W W' : World} {R : Nat} {v : Value} {zs : List Int} (h : BytesLow W R v zs) (hk : ∀ b, b < R → W'.heap[b]? = W.heap[b]?) : BytesLow W' R v zs := by
  obtain ⟨a, cap, h1, h2, h3, h4, h5⟩ := h
  refine ⟨a, cap, h1, h2, h3, h4, fun hn => ?_⟩
  obtain ⟨b, off, ha, hlt, hc⟩ := h5 hn
  refine ⟨b, off, ha, hlt, fun i z hz => ?_⟩
  rw [World.cell?_of_block (w := W) (hk b hlt)]
  exact hc i z hz

/-- The picker in block R: the slice of numbers, and how many are taken. -/
def PickAt (W : World) (R : Nat) (v : Value) (zs : List Int) (a : Nat) : Prop :=
  W.heap[R]? = some (.cells #[v, .int .i64 a] 43 (0, 0)) ∧ BytesLow W R v zs

theorem PickAt.lt {W : World} {R a : Nat} {v : Value} {zs : List Int} (h : PickAt W R v zs a) : R < W.heap.size := (Array.getElem?_eq_some_iff.1 h.1).1
theorem PickAt.kept {W W' : World} {R a : Nat} {v : Value} {zs : List Int} (h : PickAt W R v zs a) (hk : ∀ b, b ≤ R → W'.heap[b]? = W.heap[b]?) : PickAt W' R v zs a :=
  ⟨(hk R (Nat.le_refl _)).trans h.1, h.2.kept (fun b hb => hk b (Nat.le_of_lt hb))⟩
theorem PickAt.grown {W W' : World} {R a : Nat} {row : Option Nat} {v : Value} {zs : List Int} (h : PickAt W R v zs a) (hg : W.grownBy W' row) (hr : ∀ k, row = some k → R < k) : PickAt W' R v zs a :=
  h.kept (fun b hb => hg.block b (by have := h.lt; omega) (fun e => by have := hr b e.symm; omega))
theorem PickAt.below {W W' : World} {R a : Nat} {v : Value} {zs : List Int} (h : PickAt W R v zs a) (hb : Below W.heap.size W W') : PickAt W' R v zs a :=
  h.kept (fun b hl => hb.block b (by have := h.lt; omega))
theorem PickAt.alloc {W : World} {R a : Nat} {v : Value} {zs : List Int} (h : PickAt W R v zs a) (o : Obj) : PickAt (W.alloc o) R v zs a := h.below ((Below.refl _ _).alloc (Nat.le_refl _) o)
theorem PickAt.cells {W : World} {R a : Nat} {v : Value} {zs : List Int} (h : PickAt W R v zs a) : W.cell? ⟨R, 0, none⟩ = some v ∧ W.cell? ⟨R, 1, none⟩ = some (.int .i64 a) ∧ W.frozen? ⟨R, 0, none⟩ = false ∧ W.frozen? ⟨R, 1, none⟩ = false := by
  obtain ⟨h, _⟩ := h
  simp [World.cell?, World.frozen?, h]
theorem PickAt.set {W : World} {R a : Nat} {v : Value} {zs : List Int} (h : PickAt W R v zs a) (n : Nat) : PickAt (W.setCell ⟨R, 1, none⟩ (.int .i64 n)) R v zs n := by
  refine ⟨?_, h.2.kept (fun b hb => Below.heap_setCell _ _ _ _ (by show b ≠ R; omega))⟩
  have h0 := h.1
  unfold World.setCell
  simp only [Array.getElem?_modify, h0]
  simp

/-- Which number it is. -/
def pickF (zs : List Int) (a : Nat) (n : Int) : Nat := if zs.length < a + 1 ∨ 150 < a + 1 then 0 else (zs.getD a 0 % n).toNat
theorem pickF_lt (zs : List Int) (a : Nat) {n : Int} (hn : 1 ≤ n) : (pickF zs a n : Int) < n := by
  unfold pickF
  split
  · simp; omega
  · have h1 := Int.emod_nonneg (zs.getD a 0) (b := n) (by omega)
    have h2 := Int.emod_lt_of_pos (zs.getD a 0) (b := n) (by omega)
    omega

/-- The call answers that number, and has taken one more. -/
def Picks (R : Nat) (v : Value) (zs : List Int) (a : Nat) (n : Int) (w : World) (e : Ending) (w' : World) : Prop :=
  e = .returned (.int .i64 (pickF zs a n : Int)) ∧ PickAt w' R v zs (a + 1) ∧ w.grownBy w' (some R)

set_option maxRecDepth 100000 in
set_option maxHeartbeats 1000000 in
theorem picknum_any {R a : Nat} {n : Int} {v : Value} {zs : List Int} {W : World} (h : PickAt W R v zs a) (ha : a ≤ 1000000) (hn : 1 ≤ n ∧ n ≤ 255) :
    Calls Tryz.prog 32 #[.pointer (some ⟨R, 0, none⟩), .int .i64 n] W (Picks R v zs a n W) := by
  obtain ⟨c0, c1, f0, f1⟩ := h.cells
  have hs := h.set (a + 1)
  have hg : W.grownBy (W.setCell ⟨R, 1, none⟩ (.int .i64 ((a + 1 : Nat) : Int))) (some R) := grown_set (grown_refl W _) _ _
  have hcast : ((a + 1 : Nat) : Int) = (a : Int) + 1 := by omega
  obtain ⟨d0, d1, g0, g1⟩ := hs.cells
  obtain ⟨p, cap, rfl, hcap, hmax, hrange, hcells⟩ := h.2
  unfold maxLen at hmax
  rw [hcast] at hs hg d0 d1 g0 g1
  have HS := Lib.hid hs
  have HG := Lib.hid hg
  clear hs hg h
  by_cases hlt : zs.length < a + 1
  · have q1 : decide ((zs.length : Int) < (a : Int) + 1) = true := decide_eq_true (by omega)
    have HF : Hid ((pickF zs a n : Int) = 0) := by unfold Hid; unfold pickF; rw [if_pos (.inl hlt)]; rfl
    go_enter Tryz.func32, Tryz.ntmps32
    go_wp2_with fail
    go_quiet (fail)
    go_wp2_with fail
    go_ret
    exact ⟨by rw [HF.out]; rfl, HS.out, grown_drew HG.out _⟩
  · have q1 : decide ((zs.length : Int) < (a : Int) + 1) = false := decide_eq_false (by omega)
    by_cases h150 : 150 < a + 1
    · have q2 : decide ((150 : Int) < (a : Int) + 1) = true := decide_eq_true (by omega)
      have HF : Hid ((pickF zs a n : Int) = 0) := by unfold Hid; unfold pickF; rw [if_pos (.inr h150)]; rfl
      go_enter Tryz.func32, Tryz.ntmps32
      go_wp2_with fail
      go_quiet (fail)
      go_wp2_with fail
      go_ret
      exact ⟨by rw [HF.out]; rfl, HS.out, grown_drew HG.out _⟩
    · have q2 : decide ((150 : Int) < (a : Int) + 1) = false := decide_eq_false (by omega)
      obtain ⟨b, off, rfl, hbR, hc⟩ := hcells (by omega)
      obtain ⟨z, hz⟩ : ∃ z, zs[a]? = some z := ⟨_, List.getElem?_eq_getElem (by omega)⟩
      have hz0 := hrange z (List.mem_of_getElem? hz)
      have e0 := hc a z hz
      have HF : Hid ((pickF zs a n : Int) = z % n) := by
        unfold Hid
        unfold pickF
        rw [if_neg (fun h => h.elim hlt h150), List.getD_eq_getElem?_getD, hz]
        exact Int.toNat_of_nonneg (Int.emod_nonneg _ (by omega))
      go_enter Tryz.func32, Tryz.ntmps32
      go_wp2_with fail
      go_quiet (fail)
      go_wp2_with fail
      go_quiet (fail)
      go_wp2_with fail
      go_ret
      exact ⟨by rw [HF.out]; rfl, HS.out, grown_drew (grown_drew HG.out _) _⟩

end Go.Proofs.YtjeplmnjgdpgbaaGreatDoor

/-! What the laws' expressions by numbers are; how big they are; that what is made of right ones is right. No condition. -/
namespace Go.Proofs.YtjeplmnjgdpgbaaGreatDoor
open Go.Lib
set_option linter.unusedVariables false
set_option linter.unusedSimpArgs false

/-! ### sizes and depths -/
theorem sum_append (l m : List RT) : ((l ++ m).map RT.sz).sum = (l.map RT.sz).sum + (m.map RT.sz).sum := by rw [List.map_append, List.sum_append]
theorem sum_filter (p : RT → Bool) (l : List RT) : ((l.filter p).map RT.sz).sum ≤ (l.map RT.sz).sum := by
  induction l with
  | nil => simp
  | cons a l ih =>
    rw [List.filter_cons]
    split
    · simp only [List.map_cons, List.sum_cons]; omega
    · simp only [List.map_cons, List.sum_cons]; omega
theorem sum_flat (k : Int) (l : List RT) : ((flatM k l).map RT.sz).sum ≤ (l.map RT.sz).sum := by
  induction l with
  | nil => simp [flatM]
  | cons a l ih =>
    have e : flatM k (a :: l) = (if a.kind = k then a.kids else [a]) ++ flatM k l := by simp [flatM]
    rw [e, sum_append]
    simp only [List.map_cons, List.sum_cons]
    split
    · obtain ⟨k', s, kids⟩ := a
      rw [sz_mk]
      show (kids.map RT.sz).sum + _ ≤ _
      omega
    · simp only [List.map_cons, List.map_nil, List.sum_cons, List.sum_nil]; omega
theorem sum_putL (r : RT) : ∀ (p : Bool) (l : List RT), ((putL txt r p l).map RT.sz).sum ≤ (l.map RT.sz).sum + r.sz
  | true, [] => by simp [putL]
  | false, [] => by simp [putL]
  | p, a :: l => by
    have i1 := sum_putL r true l
    have i2 := sum_putL r p l
    have e : putL txt r true l = l := putL_true r l
    rw [putL]
    split
    · simp only [List.map_cons, List.sum_cons]; omega
    · split
      · rw [e]; simp only [List.map_cons, List.sum_cons]; omega
      · simp only [List.map_cons, List.sum_cons]; omega
theorem sum_puts (L : List RT) : ((putsM L).map RT.sz).sum ≤ (L.map RT.sz).sum := by
  have h : ∀ (L o : List RT), ((L.foldl (fun o r => putL txt r false o) o).map RT.sz).sum ≤ (o.map RT.sz).sum + (L.map RT.sz).sum := by
    intro L
    induction L with
    | nil => intro o; simp
    | cons a L ih =>
      intro o
      have h1 := ih (putL txt a false o)
      have h2 := sum_putL a false o
      simp only [List.foldl_cons, List.map_cons, List.sum_cons]
      omega
  have := h L []
  simpa [putsM] using this
theorem sz_some (k e : Int) (l : List RT) : (someM k e l).sz ≤ 1 + (l.map RT.sz).sum := by
  match l with
  | [] => rw [someM, sz_mk]; simp
  | [x] => simp only [someM, List.map_cons, List.map_nil, List.sum_cons, List.sum_nil]; omega
  | x :: y :: l => rw [someM, sz_mk]; exact Nat.le_refl _
theorem sz_cat (l : List RT) : (catM l).sz ≤ 1 + (l.map RT.sz).sum := by
  unfold catM
  split
  · unfold noneM; rw [sz_mk]; simp
  · have h1 := sz_some 3 1 ((flatM 3 l).filter fun r => !(r.kind == 1))
    have h2 := sum_filter (fun r => !(r.kind == 1)) (flatM 3 l)
    have h3 := sum_flat 3 l
    omega
theorem sz_either (l : List RT) : (eitherM l).sz ≤ 2 + (l.map RT.sz).sum := by
  unfold eitherM
  have h1 := sz_some 4 0 (putsM (byteM (flatM 4 l) ++ othersM (flatM 4 l)))
  have h2 := sum_puts (byteM (flatM 4 l) ++ othersM (flatM 4 l))
  rw [sum_append] at h2
  have h3 : ((othersM (flatM 4 l)).map RT.sz).sum ≤ ((flatM 4 l).map RT.sz).sum := sum_filter _ _
  have h4 := sum_flat 4 l
  have h5 : ((byteM (flatM 4 l)).map RT.sz).sum ≤ 1 := by
    unfold byteM
    split
    · simp
    · simp [sz_mk]
  omega
theorem sz_star (t : RT) : (starM t).sz ≤ 1 + t.sz := by
  unfold starM
  split
  · unfold emptyM; rw [sz_mk]; simp
  · split
    · omega
    · rw [sz_mk]; simp
theorem kid_dep {y x : RT} (h : x ∈ y.kids) : x.dep < y.dep := by
  obtain ⟨k, s, kids⟩ := y
  have h1 : (RT.mk k s kids).dep = ((RT.mk k s kids).dep - 1) + 1 := by have := dep_pos (RT.mk k s kids); omega
  have := dep_mk.1 (Nat.le_of_eq h1) x h
  have := dep_pos (RT.mk k s kids)
  omega
theorem dep_leaf (k : Int) (s : W4) : (RT.mk k s []).dep = 1 := by rw [RT.dep]; rfl
theorem dep_some {k e : Int} {l : List RT} {n : Nat} (h : ∀ t ∈ l, t.dep ≤ n) : (someM k e l).dep ≤ n + 1 := by
  match l with
  | [] => rw [someM, dep_leaf]; omega
  | [x] => have := h x (by simp); show x.dep ≤ _; omega
  | x :: y :: l => exact dep_mk.2 h
theorem dep_flat {k : Int} {l : List RT} {n : Nat} (h : ∀ t ∈ l, t.dep ≤ n) : ∀ t ∈ flatM k l, t.dep ≤ n := by
  intro t ht
  rcases flat_mem ht with ⟨h1, _⟩ | ⟨y, hy, _, hx⟩
  · exact h t h1
  · have := kid_dep hx
    have := h y hy
    omega
theorem dep_cat {l : List RT} {n : Nat} (h : ∀ t ∈ l, t.dep ≤ n) : (catM l).dep ≤ n + 1 := by
  unfold catM
  split
  · unfold noneM; rw [dep_leaf]; omega
  · exact dep_some fun t ht => dep_flat h t (List.mem_filter.1 ht).1
theorem dep_either {l : List RT} {n : Nat} (hn : 1 ≤ n) (h : ∀ t ∈ l, t.dep ≤ n) : (eitherM l).dep ≤ n + 1 := by
  unfold eitherM
  refine dep_some fun t ht => ?_
  rcases List.mem_append.1 ((puts_asc _).2 t ht) with h1 | h1
  · unfold byteM at h1
    split at h1
    · simp at h1
    · simp at h1; subst h1; rw [dep_leaf]; exact hn
  · exact dep_flat h t (List.mem_filter.1 h1).1
theorem dep_star {t : RT} {n : Nat} (h : t.dep ≤ n) : (starM t).dep ≤ n + 1 := by
  unfold starM
  split
  · unfold emptyM; rw [dep_leaf]; omega
  · split
    · omega
    · exact dep_mk.2 (by simpa using h)

/-! ### right ones -/
def good (t : RT) : Prop := formA t ∧ ascM t
theorem good_mk {k : Int} {s : W4} {kids : List RT} : good (.mk k s kids) ↔ formP (.mk k s kids) ∧ (k = 4 → Asc txt kids) ∧ ∀ t ∈ kids, good t := by
  unfold good
  rw [form_mk, asc_mk]
  constructor
  · rintro ⟨⟨h1, h2⟩, h3, h4⟩
    exact ⟨h1, h3, fun t ht => ⟨h2 t ht, h4 t ht⟩⟩
  · rintro ⟨h1, h2, h3⟩
    exact ⟨⟨h1, fun t ht => (h3 t ht).1⟩, h2, fun t ht => (h3 t ht).2⟩
theorem good_kid {y x : RT} (h : good y) (hx : x ∈ y.kids) : good x := by
  obtain ⟨k, s, kids⟩ := y
  exact (good_mk.1 h).2.2 x hx
theorem good_none : good noneM := good_mk.2 ⟨⟨⟨fun _ => by decide, fun _ => rfl⟩, .inl ⟨.inl rfl, rfl⟩⟩, fun h => absurd h (by decide), fun t ht => by simp at ht⟩
theorem good_empty : good emptyM := good_mk.2 ⟨⟨⟨fun _ => by decide, fun _ => rfl⟩, .inl ⟨.inr (.inl rfl), rfl⟩⟩, fun h => absurd h (by decide), fun t ht => by simp at ht⟩
theorem good_byte {s : W4} (h : s ≠ W4.zero) : good (.mk 2 s []) := good_mk.2 ⟨⟨⟨fun e => absurd e h, fun e => absurd rfl e⟩, .inl ⟨.inr (.inr rfl), rfl⟩⟩, fun h => absurd h (by decide), fun t ht => by simp at ht⟩
theorem good_flat {k : Int} {l : List RT} (h : ∀ t ∈ l, good t) : ∀ t ∈ flatM k l, good t := by
  intro t ht
  rcases flat_mem ht with ⟨h1, _⟩ | ⟨y, hy, _, hx⟩
  · exact h t h1
  · exact good_kid (h y hy) hx
/-- Of what is of the kind the kids are of another one. -/
theorem flat_kinds {k : Int} {l : List RT} (hk : k = 3 ∨ k = 4) (h : ∀ t ∈ l, good t) : ∀ t ∈ flatM k l, t.kind ≠ k := by
  intro t ht
  rcases flat_mem ht with ⟨_, h1⟩ | ⟨y, hy, hky, hx⟩
  · exact h1
  · have hg := h y hy
    obtain ⟨k', s, kids⟩ := y
    simp only [RT.kind] at hky
    subst hky
    obtain ⟨⟨_, hf⟩, _⟩ := good_mk.1 hg
    rcases hf with ⟨e, _⟩ | ⟨e, _⟩ | ⟨e, _, h3⟩ | ⟨e, _, h3, _⟩
    · omega
    · omega
    · rw [e]; exact (h3 t hx).2.2
    · rw [e]; exact (h3 t hx).2
theorem good_cat {l : List RT} (h : ∀ t ∈ l, good t) : good (catM l) := by
  unfold catM
  split
  · exact good_none
  · rename_i hn
    have hg : ∀ t ∈ (flatM 3 l).filter (fun r => !(r.kind == 1)), good t := fun t ht => good_flat h t (List.mem_filter.1 ht).1
    have h3 : ∀ t ∈ (flatM 3 l).filter (fun r => !(r.kind == 1)), t.kind ≠ 3 := fun t ht => flat_kinds (.inl rfl) h t (List.mem_filter.1 ht).1
    have h1 : ∀ t ∈ (flatM 3 l).filter (fun r => !(r.kind == 1)), t.kind ≠ 1 := fun t ht => by simpa using (List.mem_filter.1 ht).2
    have h0 : ∀ t ∈ (flatM 3 l).filter (fun r => !(r.kind == 1)), t.kind ≠ 0 := fun t ht e => hn (List.any_eq_true.2 ⟨t, (List.mem_filter.1 ht).1, by simp [e]⟩)
    generalize (flatM 3 l).filter (fun r => !(r.kind == 1)) = L at hg h3 h1 h0
    match L with
    | [] => exact good_empty
    | [x] => exact hg x (by simp)
    | x :: y :: L => exact good_mk.2 ⟨⟨⟨fun _ => by decide, fun _ => rfl⟩, .inr (.inr (.inl ⟨rfl, by simp, fun t ht => ⟨h0 t ht, h1 t ht, h3 t ht⟩⟩))⟩, fun e => absurd e (by decide), hg⟩
theorem good_either {l : List RT} (h : ∀ t ∈ l, good t) : good (eitherM l) := by
  unfold eitherM
  obtain ⟨p1, p2⟩ := puts_asc (byteM (flatM 4 l) ++ othersM (flatM 4 l))
  have hb : ∀ t ∈ byteM (flatM 4 l), t = .mk 2 (unionM (flatM 4 l)) [] ∧ unionM (flatM 4 l) ≠ W4.zero := fun t ht => by
    unfold byteM at ht
    split at ht
    · simp at ht
    · simp at ht; exact ⟨ht, by assumption⟩
  have hg : ∀ t ∈ putsM (byteM (flatM 4 l) ++ othersM (flatM 4 l)), good t ∧ t.kind ≠ 0 ∧ t.kind ≠ 4 ∧ (t.kind = 2 → t = .mk 2 (unionM (flatM 4 l)) []) := fun t ht => by
    rcases List.mem_append.1 (p2 t ht) with h1 | h1
    · obtain ⟨e, hz⟩ := hb t h1
      subst e
      exact ⟨good_byte hz, by show (2 : Int) ≠ 0; decide, by show (2 : Int) ≠ 4; decide, fun _ => rfl⟩
    · obtain ⟨h2, h3⟩ := List.mem_filter.1 h1
      simp at h3
      exact ⟨good_flat h t h2, h3.1, flat_kinds (.inr rfl) h t h2, fun e => absurd e h3.2⟩
  generalize putsM (byteM (flatM 4 l) ++ othersM (flatM 4 l)) = L at p1 hg
  match L with
  | [] => exact good_none
  | [x] => exact (hg x (by simp)).1
  | x :: y :: L =>
    refine good_mk.2 ⟨⟨⟨fun _ => by decide, fun _ => rfl⟩, .inr (.inr (.inr ⟨rfl, by simp, fun t ht => ⟨(hg t ht).2.1, (hg t ht).2.2.1⟩, ?_⟩))⟩, fun _ => p1, fun t ht => (hg t ht).1⟩
    refine p1.imp_of_mem fun {a b} ha hb hab => fun ⟨k1, k2⟩ => ?_
    rw [(hg a ha).2.2.2 k1, (hg b hb).2.2.2 k2] at hab
    exact tlt_irrefl _ hab
theorem good_star {t : RT} (h : good t) : good (starM t) := by
  unfold starM
  split
  · exact good_empty
  · rename_i h1
    split
    · exact h
    · rename_i h2
      exact good_mk.2 ⟨⟨⟨fun _ => by decide, fun _ => rfl⟩, .inr (.inl ⟨rfl, rfl, fun u hu => by
        simp at hu; subst hu
        exact ⟨fun e => h1 (.inl e), fun e => h1 (.inr e), h2⟩⟩)⟩, fun e => absurd e (by decide), fun u hu => by simp at hu; subst hu; exact h⟩
theorem good_of (s : W4) : good (ofM s) := by
  unfold ofM
  split
  · exact good_none
  · exact good_byte (by assumption)
theorem good_right {t : RT} (h : good t) (ho : t.ok) : rightM t := form_right t ho h.1 h.2

/-! ### expressions by numbers -/
def letF (lo hi : Int) (b : Nat) : Bool := decide (lo ≤ (b : Int) ∧ (b : Int) ≤ hi)
def letM (lo hi : Int) : RT := .mk 2 (W4.of (letF lo hi)) []
theorem good_let {lo hi : Int} (h0 : 0 ≤ lo) (h1 : lo ≤ hi) (h2 : lo < 256) : good (letM lo hi) := by
  refine good_byte fun e => ?_
  have := (of_zero _).1 e lo.toNat (by omega)
  unfold letF at this
  have h3 : ((lo.toNat : Nat) : Int) = lo := by omega
  rw [h3] at this
  simp at this
  omega
def leafM (zs : List Int) (k a : Nat) : RT × Nat :=
  if k < 4 then (letM (97 + (pickF zs a 3 : Int)) (97 + (pickF zs a 3 : Int) + (pickF zs (a + 1) 4 : Int) / 3), a + 2) else (.mk ((pickF zs a 4 : Int) / 3) W4.zero [], a + 1)
def listR (f : Nat → RT × Nat) : Nat → Nat → List RT × Nat
  | 0, a => ([], a)
  | n + 1, a => ((listR f n a).1 ++ [(f (listR f n a).2).1], (f (listR f n a).2).2)
noncomputable def reM (zs : List Int) : Nat → Nat → RT × Nat
  | 0, a => leafM zs (pickF zs a 11 % 5) (a + 1)
  | d + 1, a =>
    if pickF zs a 11 < 5 then leafM zs (pickF zs a 11) (a + 1)
    else if pickF zs a 11 < 7 then (starM (reM zs d (a + 1)).1, (reM zs d (a + 1)).2)
    else if pickF zs a 11 < 9 then (catM (listR (reM zs d) (1 + pickF zs (a + 1) 3) (a + 2)).1, (listR (reM zs d) (1 + pickF zs (a + 1) 3) (a + 2)).2)
    else (eitherM (listR (reM zs d) (1 + pickF zs (a + 1) 3) (a + 2)).1, (listR (reM zs d) (1 + pickF zs (a + 1) 3) (a + 2)).2)
noncomputable def fewM (zs : List Int) : List RT := (listR (reM zs 3) (pickF zs 0 5) 1).1
/-- What holds of each that is made so. -/
theorem listR_all {Q : RT → Prop} {f : Nat → RT × Nat} (h : ∀ a, Q (f a).1) : ∀ n a, ∀ t ∈ (listR f n a).1, Q t
  | 0, a, t, ht => by simp [listR] at ht
  | n + 1, a, t, ht => by
    rw [listR] at ht
    rcases List.mem_append.1 ht with h1 | h1
    · exact listR_all h n a t h1
    · simp at h1; subst h1; exact h _
theorem listR_len (f : Nat → RT × Nat) : ∀ n a, (listR f n a).1.length = n
  | 0, a => rfl
  | n + 1, a => by rw [listR, List.length_append, listR_len f n a]; rfl
theorem listR_sum {f : Nat → RT × Nat} {B : Nat} (h : ∀ a, (f a).1.sz ≤ B) : ∀ n a, ((listR f n a).1.map RT.sz).sum ≤ n * B
  | 0, a => by simp [listR]
  | n + 1, a => by
    have h1 := listR_sum h n a
    have h2 := h (listR f n a).2
    rw [listR, sum_append, Nat.add_mul]
    simp only [List.map_cons, List.map_nil, List.sum_cons, List.sum_nil]
    omega
theorem listR_num {f : Nat → RT × Nat} {B : Nat} (h : ∀ a, a ≤ (f a).2 ∧ (f a).2 ≤ a + B) : ∀ n a, a ≤ (listR f n a).2 ∧ (listR f n a).2 ≤ a + n * B
  | 0, a => by simp [listR]
  | n + 1, a => by
    have h1 := listR_num h n a
    have h2 := h (listR f n a).2
    rw [listR, Nat.add_mul]
    constructor
    · show a ≤ (f (listR f n a).2).2
      omega
    · show (f (listR f n a).2).2 ≤ _
      omega
theorem pick3 (zs : List Int) (a : Nat) : pickF zs a 3 ≤ 2 := by have := pickF_lt zs a (n := 3) (by decide); omega
theorem pick4 (zs : List Int) (a : Nat) : pickF zs a 4 ≤ 3 := by have := pickF_lt zs a (n := 4) (by decide); omega
theorem leaf_facts (zs : List Int) (k a : Nat) : good (leafM zs k a).1 ∧ (leafM zs k a).1.sz = 1 ∧ (leafM zs k a).1.dep = 1 ∧ a ≤ (leafM zs k a).2 ∧ (leafM zs k a).2 ≤ a + 2 := by
  have h3 := pick3 zs a
  have h4 := pick4 zs a
  have h5 := pick4 zs (a + 1)
  unfold leafM
  split
  · refine ⟨good_let (by omega) (by omega) (by omega), ?_, dep_leaf _ _, by simp, by simp⟩
    unfold letM
    rw [sz_mk]
    rfl
  · refine ⟨?_, by rw [sz_mk]; rfl, dep_leaf _ _, by simp, by simp⟩
    have : (pickF zs a 4 : Int) / 3 = 0 ∨ (pickF zs a 4 : Int) / 3 = 1 := by omega
    rcases this with e | e
    · rw [e]; exact good_none
    · rw [e]; exact good_empty
theorem re_facts (zs : List Int) : ∀ d a, good (reM zs d a).1 ∧ (reM zs d a).1.sz ≤ 8 ^ d ∧ (reM zs d a).1.dep ≤ d + 1 ∧ a ≤ (reM zs d a).2 ∧ (reM zs d a).2 ≤ a + 8 ^ (d + 1)
  | 0, a => by
    obtain ⟨h1, h2, h3, h4, h5⟩ := leaf_facts zs (pickF zs a 11 % 5) (a + 1)
    rw [reM]
    exact ⟨h1, by omega, by omega, by omega, by omega⟩
  | d + 1, a => by
    have ih := re_facts zs d
    have hp : 1 ≤ 8 ^ d := Nat.pow_pos (by decide)
    have e1 : 8 ^ (d + 1) = 8 * 8 ^ d := by rw [Nat.pow_succ, Nat.mul_comm]
    have e2 : 8 ^ (d + 1 + 1) = 64 * 8 ^ d := by rw [Nat.pow_succ, e1]; omega
    rw [reM]
    split
    · obtain ⟨h1, h2, h3, h4, h5⟩ := leaf_facts zs (pickF zs a 11) (a + 1)
      exact ⟨h1, by omega, by omega, by omega, by omega⟩
    · split
      · obtain ⟨h1, h2, h3, h4, h5⟩ := ih (a + 1)
        have := sz_star (reM zs d (a + 1)).1
        refine ⟨good_star h1, ?_, dep_star h3, ?_, ?_⟩
        · show (starM _).sz ≤ _; omega
        · show a ≤ (reM zs d (a + 1)).2; omega
        · show (reM zs d (a + 1)).2 ≤ _; omega
      · have h3 := pick3 zs (a + 1)
        have hn := listR_num (f := reM zs d) (B := 8 ^ (d + 1)) (fun a => ⟨(ih a).2.2.2.1, (ih a).2.2.2.2⟩) (1 + pickF zs (a + 1) 3) (a + 2)
        have hs := listR_sum (f := reM zs d) (B := 8 ^ d) (fun a => (ih a).2.1) (1 + pickF zs (a + 1) 3) (a + 2)
        have hg := listR_all (Q := good) (f := reM zs d) (fun a => (ih a).1) (1 + pickF zs (a + 1) 3) (a + 2)
        have hd := listR_all (Q := fun t => t.dep ≤ d + 1) (f := reM zs d) (fun a => (ih a).2.2.1) (1 + pickF zs (a + 1) 3) (a + 2)
        have hs' : ((listR (reM zs d) (1 + pickF zs (a + 1) 3) (a + 2)).1.map RT.sz).sum ≤ 3 * 8 ^ d := Nat.le_trans hs (Nat.mul_le_mul_right _ (by omega))
        have hn' : (listR (reM zs d) (1 + pickF zs (a + 1) 3) (a + 2)).2 ≤ a + 2 + 3 * 8 ^ (d + 1) := Nat.le_trans hn.2 (Nat.add_le_add_left (Nat.mul_le_mul_right _ (by omega)) _)
        have hn1 := hn.1
        have c1 := sz_cat (listR (reM zs d) (1 + pickF zs (a + 1) 3) (a + 2)).1
        have c2 := sz_either (listR (reM zs d) (1 + pickF zs (a + 1) 3) (a + 2)).1
        split
        · refine ⟨good_cat hg, ?_, dep_cat hd, ?_, ?_⟩
          · show (catM _).sz ≤ _; omega
          · show a ≤ (listR _ _ _).2; omega
          · show (listR _ _ _).2 ≤ _; omega
        · refine ⟨good_either hg, ?_, dep_either (by omega) hd, ?_, ?_⟩
          · show (eitherM _).sz ≤ _; omega
          · show a ≤ (listR _ _ _).2; omega
          · show (listR _ _ _).2 ≤ _; omega
theorem few_facts (zs : List Int) : (fewM zs).length ≤ 4 ∧ (∀ t ∈ fewM zs, good t ∧ t.sz ≤ 512 ∧ t.dep ≤ 4) ∧ ((fewM zs).map RT.sz).sum ≤ 2048 := by
  have h5 : pickF zs 0 5 ≤ 4 := by have := pickF_lt zs 0 (n := 5) (by decide); omega
  have ih := re_facts zs 3
  refine ⟨by unfold fewM; rw [listR_len]; exact h5, fun t ht => ?_, ?_⟩
  · unfold fewM at ht
    exact listR_all (Q := fun t => good t ∧ t.sz ≤ 512 ∧ t.dep ≤ 4) (fun a => ⟨(ih a).1, (ih a).2.1, (ih a).2.2.1⟩) _ _ t ht
  · have hs := listR_sum (f := reM zs 3) (B := 512) (fun a => (ih a).2.1) (pickF zs 0 5) 1
    unfold fewM
    exact Nat.le_trans hs (Nat.le_trans (Nat.mul_le_mul_right _ h5) (by decide))

end Go.Proofs.YtjeplmnjgdpgbaaGreatDoor
