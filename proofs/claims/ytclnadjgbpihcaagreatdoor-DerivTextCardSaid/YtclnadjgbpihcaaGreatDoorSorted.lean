/- The program's sorted: in the order of the texts, each text once. No condition but the library's tables, depth and size. -/
import Derived.Test.YtclnadjgbpihcaaGreatDoorSortS
namespace Go.Proofs.YtclnadjgbpihcaaGreatDoor
open Go.RowKit Go.Lib Go.Sort Go.Shelf
set_option linter.unusedVariables false
set_option linter.unusedSimpArgs false

def zeroKE : KE := ⟨⟨#[]⟩, ⟨0, 0, 0, 0, 0, none, 0, 0⟩, 0⟩
def zeroRe : ReV := ⟨0, 0, 0, 0, 0, none, 0, 0⟩
theorem made_at (c : Array Value) (m : Nat) (t : Nat) (h : t < m) : (madeCells c m).toList[t]? = some c[t % c.size]! := by
  simp [madeCells, h]
theorem made7 (n : Nat) : (madeCells zero7 (n * 7)).toList = (List.replicate n zeroKE).flatMap KE.enc := by
  refine List.ext_getElem? fun t => ?_
  by_cases h : t < n * 7
  · have hi : t / 7 < n := by omega
    have hm : t % 7 < 7 := Nat.mod_lt _ (by decide)
    have e := flat7_at (List.replicate n zeroKE) (t / 7) (t % 7) zeroKE (by rw [List.getElem?_replicate, if_pos hi]) hm
    rw [show t / 7 * 7 + t % 7 = t by omega] at e
    rw [e, made_at _ _ _ h]
    have key : ∀ j, j < 7 → some zero7[j]! = zeroKE.enc[j]? := by
      intro j hj
      obtain rfl | rfl | rfl | rfl | rfl | rfl | rfl : j = 0 ∨ j = 1 ∨ j = 2 ∨ j = 3 ∨ j = 4 ∨ j = 5 ∨ j = 6 := by omega
      all_goals rfl
    exact key _ hm
  · rw [List.getElem?_eq_none (by simp [madeCells]; omega), List.getElem?_eq_none (by rw [flat7_len]; simp; omega)]
theorem made6 (n : Nat) : (madeCells zero6 (n * 6)).toList = (List.replicate n zeroRe).flatMap ReV.cells := by
  refine List.ext_getElem? fun t => ?_
  by_cases h : t < n * 6
  · have hi : t / 6 < n := by omega
    have hm : t % 6 < 6 := Nat.mod_lt _ (by decide)
    have e := flat6_at (List.replicate n zeroRe) (t / 6) (t % 6) zeroRe (by rw [List.getElem?_replicate, if_pos hi]) hm
    rw [show t / 6 * 6 + t % 6 = t by omega] at e
    rw [e, made_at _ _ _ h]
    have key : ∀ j, j < 6 → some zero6[j]! = zeroRe.cells[j]? := by
      intro j hj
      obtain rfl | rfl | rfl | rfl | rfl | rfl : j = 0 ∨ j = 1 ∨ j = 2 ∨ j = 3 ∨ j = 4 ∨ j = 5 := by omega
      all_goals rfl
    exact key _ hm
  · rw [List.getElem?_eq_none (by simp [madeCells]; omega), List.getElem?_eq_none (by rw [flat6_len]; simp; omega)]
theorem infoKe : (Tryz.prog.info? 106).map (fun i => (i.zero, i.size, i.bytes)) = some (some (.agg #[.string ⟨#[]⟩, .int .i64 0, .int .u64 0, .int .u64 0, .int .u64 0, .int .u64 0, .slice none 0 0]), 7, 80) := by kernel_rfl
theorem ke_parts : ∃ i0, Tryz.prog.info? 106 = some i0 ∧ i0.zero = some (.agg #[.string ⟨#[]⟩, .int .i64 0, .int .u64 0, .int .u64 0, .int .u64 0, .int .u64 0, .slice none 0 0]) ∧ i0.size = 7 ∧ i0.bytes = 80 := by
  have h := infoKe
  cases e : Tryz.prog.info? 106 with
  | none => rw [e] at h; cases h
  | some j =>
    rw [e] at h
    simp at h
    exact ⟨j, rfl, h.1, h.2.1, h.2.2⟩
/-- A new row of so many. -/
theorem make7 (n : Nat) (hn : n ≤ 1000000000000) (u : World) : (Instr.makeSlice 104 (.int .i64 (n : Int)) (.int .i64 (n : Int))).run Tryz.prog u = .ok (.slice (some ⟨u.heap.size, 0, none⟩) n n) (u.alloc (.cells (madeCells zero7 (n * 7)) 106)) := by
  obtain ⟨i0, h1, h2, h3, h4⟩ := ke_parts
  have h := run_make (P := Tryz.prog) u 104 106 i0 _ Tryz.underlying104 h1 h2 .i64 .i64 n n (by omega) (Int.le_refl _) (by rw [h4]; omega) (by omega)
  rw [h3] at h
  simp only [Int.toNat_natCast] at h
  exact h
theorem make6 (n : Nat) (hn : n ≤ 1000000000000) (u : World) : (Instr.makeSlice 26 (.int .i64 (n : Int)) (.int .i64 (n : Int))).run Tryz.prog u = .ok (.slice (some ⟨u.heap.size, 0, none⟩) n n) (u.alloc (.cells (madeCells zero6 (n * 6)) 28)) := by
  obtain ⟨i0, h1, h2, h3, h4⟩ := re_parts
  have h := run_make (P := Tryz.prog) u 26 28 i0 _ Tryz.underlying26 h1 h2 .i64 .i64 n n (by omega) (Int.le_refl _) (by rw [h4]; omega) (by omega)
  rw [h3] at h
  simp only [Int.toNat_natCast] at h
  exact h
theorem row_new {u : World} {base n size : Nat} {c : Array Value} {e : TypeId} (hb : base ≤ u.heap.size) (hn : n ≤ maxLen) (hc : c.size = n * size) : (u.alloc (.cells c e)).ownsRow base e size (.slice (some ⟨u.heap.size, 0, none⟩) n n) n c.toList :=
  World.ownsRow_lit u _ n hb hn hc

set_option maxRecDepth 100000 in
set_option maxHeartbeats 8000000 in
theorem sorted_any {w0 : World} {P : Nat → Prop} (w : World) {v : Value} {us : List ReV} {l : List RT} (hO : OwnRe w0 w P v us l) (hw : Below w0.heap.size w0 w) (hT : Tab1 w0) (hdep : ∀ t ∈ l, t.dep < 10000) (hsz : ∀ t ∈ l, t.sz ≤ 9000000000) (hn : l.length ≤ 1000000000000) :
    Calls Tryz.prog 63 #[v] w (GivesOwn w0 P (putsM l) w) := by
  obtain ⟨n, hnl⟩ : ∃ n, n = l.length := ⟨_, rfl⟩
  by_cases h2 : n < 2
  · have h2z : (n : Int) < 2 := by omega
    have hpm : putsM l = l := by
      match l, hnl with
      | [], _ => rfl
      | [x], _ => rfl
      | x :: y :: l, h => simp at h; omega
    have HPM := Lib.hid hpm
    obtain ⟨q, cp, rfl⟩ : ∃ q cp, v = .slice q n cp := by
      rcases row_forms hO.own with ⟨rfl, h⟩ | ⟨g, cp, rfl⟩
      · exact ⟨none, 0, by rw [hnl, h]⟩
      · exact ⟨_, cp, by rw [hnl]⟩
    have HO := Lib.hid hO
    have HW := Lib.hid hw
    clear hO hw hpm hdep hsz hnl
    go_enter Tryz.func63, Tryz.ntmps63
    go_wp2
    go_ret
    refine ⟨_, us, rfl, ?_, Below.refl _ _⟩
    rw [HPM.out]
    exact HO.out
  · have h2z : ¬ (n : Int) < 2 := by omega
    obtain ⟨g0, cap0, rfl⟩ := (row_forms hO.own).resolve_left (fun h => by omega)
    have hrow := own_rowv hO.own
    rw [← hnl] at hn ⊢
    have hO1 := hO.own
    rw [← hnl] at hO1
    have HO := Lib.hid hO1
    have HEA := Lib.hid hO.each
    have HUL : Hid (us.length = n) := by unfold Hid; rw [hO.len, hnl]
    have HNL := Lib.hid hnl
    have HW := Lib.hid hw
    have HT := Lib.hid hT
    have HDE := Lib.hid hdep
    have HSZ := Lib.hid hsz
    have hwle : w0.heap.size ≤ w.heap.size := hw.size
    obtain ⟨g, hg⟩ : ∃ g, g = w.heap.size := ⟨_, rfl⟩
    obtain ⟨W1, hW1⟩ : ∃ W1 : World, W1 = w.alloc (.cells (madeCells zero7 (n * 7)) 106) := ⟨_, rfl⟩
    have hmk : (Instr.makeSlice 104 (.int .i64 (n : Int)) (.int .i64 (n : Int))).run Tryz.prog w = .ok (.slice (some ⟨g, 0, none⟩) n n) W1 := by rw [hg, hW1]; exact make7 n hn w
    have HR1 : Hid (W1.ownsRow w.heap.size 106 7 (.slice (some ⟨g, 0, none⟩) n n) n ((List.replicate n zeroKE).flatMap KE.enc)) := by
      unfold Hid
      rw [← made7, hg, hW1]
      exact row_new (Nat.le_refl _) (by unfold maxLen; omega) (by simp [madeCells])
    have HB1 : Hid (Below w.heap.size w W1) := by unfold Hid; rw [hW1]; exact (Below.refl _ _).alloc (Nat.le_refl _) _
    have HG := Lib.hid hg
    have hgw : w.heap.size ≤ g := by omega
    clear hO hO1 hrow hw hT hdep hsz hnl hW1 hg
    have mixed : Tryz.prog.follows .mixedOrders = true := by kernel_rfl
    go_enter Tryz.func63, Tryz.ntmps63
    go_wp2
    clear hmk
    go_loopg [18] n (fun gk vi wr => ∃ (i : Nat) (ks : List KE), vi = .int .i64 (i : Int) ∧ i ≤ n ∧ n - i ≤ gk ∧ Hid (Below w.heap.size w wr) ∧ Hid (wr.ownsRow w.heap.size 106 7 (.slice (some ⟨g, 0, none⟩) n n) n (ks.flatMap KE.enc)) ∧ Hid (ks.length = n ∧ ks.take i = (keL us l).take i))
    case atStart => exact ⟨0, List.replicate n zeroKE, rfl, by omega, by omega, HB1.out, HR1.out, by simp, rfl⟩
    case round =>
      obtain ⟨i, ks, rfl, hi, hgk, HB, HO1, HK⟩ := hrel
      by_cases hlt : i < n
      · have hltz : (i : Int) < (n : Int) := by omega
        obtain ⟨y, hy⟩ : ∃ y, us[i]? = some y := ⟨_, List.getElem?_eq_getElem (by rw [HUL.out]; exact hlt)⟩
        obtain ⟨u, hu⟩ : ∃ u, l[i]? = some u := ⟨_, List.getElem?_eq_getElem (by rw [← HNL.out]; exact hlt)⟩
        obtain ⟨z, hz⟩ : ∃ z, ks[i]? = some z := ⟨_, List.getElem?_eq_getElem (by rw [HK.out.1]; exact hlt)⟩
        have hw0r : Below w0.heap.size w0 wr := HW.out.trans (HB.out.mono HW.out.size)
        have hra := (HEA.out i y u hy hu).under hw0r
        have htr := HT.out.stays hw0r
        have hdu := HDE.out u (List.mem_of_getElem? hu)
        have hsu := HSZ.out u (List.mem_of_getElem? hu)
        have HOr := own_at HO.out (HB.out.block g0 (row_base HO.out).2.2.2)
        obtain ⟨k, a, b, c, d, q, m, cp⟩ := y
        have c0 := row_cell HOr (j := i * 6) (u := .int .i64 k) ((flat6_at us i 0 _ hy (by decide)).trans rfl)
        have c1 := row_cell HOr (j := i * 6 + 1) (u := .int .u64 a) ((flat6_at us i 1 _ hy (by decide)).trans rfl)
        have c2 := row_cell HOr (j := i * 6 + 2) (u := .int .u64 b) ((flat6_at us i 2 _ hy (by decide)).trans rfl)
        have c3 := row_cell HOr (j := i * 6 + 3) (u := .int .u64 c) ((flat6_at us i 3 _ hy (by decide)).trans rfl)
        have c4 := row_cell HOr (j := i * 6 + 4) (u := .int .u64 d) ((flat6_at us i 4 _ hy (by decide)).trans rfl)
        have c5 := row_cell HOr (j := i * 6 + 5) (u := .slice q m cp) ((flat6_at us i 5 _ hy (by decide)).trans rfl)
        have hkey : (keL us l)[i]? = some ⟨⟨(txt u).toArray⟩, ⟨k, a, b, c, d, q, m, cp⟩, i⟩ := by
          have hil : i < l.length := by rw [← HNL.out]; exact hlt
          rw [keL_get hil, List.getD_eq_getElem?_getD, List.getD_eq_getElem?_getD, hy, hu]
          rfl
        obtain ⟨S, hS⟩ : ∃ S : ByteArray, S = ⟨(txt u).toArray⟩ := ⟨_, rfl⟩
        rw [← hS] at hkey
        obtain ⟨W2, hW2⟩ : ∃ W2 : World, W2 = wr.alloc (.cells #[.int .i64 k, .int .u64 a, .int .u64 b, .int .u64 c, .int .u64 d, .slice q m cp] 28) := ⟨_, rfl⟩
        have hb2 : Below wr.heap.size wr W2 := by rw [hW2]; exact (Below.refl _ _).alloc (Nat.le_refl _) _
        have hbd : Below wr.heap.size wr W2.drew := hb2.trans (below_drawn (Below.refl _ _) 1)
        have hnb : W2.drew.heap[wr.heap.size]? = some (.cells #[.int .i64 k, .int .u64 a, .int .u64 b, .int .u64 c, .int .u64 d, .slice q m cp] 28 (0, 0)) := by
          show W2.heap[wr.heap.size]? = _
          rw [hW2]; exact heap_alloc_new _ _
        have hgl : g < wr.heap.size := (row_base HO1.out).2.2.2
        have HTX : Hid (Calls Tryz.prog 69 #[.agg #[.int .i64 k, .int .u64 a, .int .u64 b, .int .u64 c, .int .u64 d, .slice q m cp]] W2.drew fun e w' => e = .returned (.string S) ∧ Below W2.drew.heap.size W2.drew w') := by
          unfold Hid
          rw [hS]
          exact text_any W2.drew ⟨k, a, b, c, d, q, m, cp⟩ u (htr.stays hbd) (hra.under hbd) hdu hsu
        have HFW : Hid (∀ w1, Below W2.drew.heap.size W2.drew w1 → (w1.cell? ⟨wr.heap.size, 0, none⟩ = some (.int .i64 k) ∧ w1.cell? ⟨wr.heap.size, 1, none⟩ = some (.int .u64 a) ∧ w1.cell? ⟨wr.heap.size, 2, none⟩ = some (.int .u64 b) ∧ w1.cell? ⟨wr.heap.size, 3, none⟩ = some (.int .u64 c) ∧ w1.cell? ⟨wr.heap.size, 4, none⟩ = some (.int .u64 d) ∧ w1.cell? ⟨wr.heap.size, 5, none⟩ = some (.slice q m cp)) ∧ (w1.cell? ⟨g, i * 7, none⟩ = some (.string z.text) ∧ w1.cell? ⟨g, i * 7 + 1, none⟩ = some (.int .i64 z.re.kind) ∧ w1.cell? ⟨g, i * 7 + 2, none⟩ = some (.int .u64 z.re.a) ∧ w1.cell? ⟨g, i * 7 + 3, none⟩ = some (.int .u64 z.re.b) ∧ w1.cell? ⟨g, i * 7 + 4, none⟩ = some (.int .u64 z.re.c) ∧ w1.cell? ⟨g, i * 7 + 5, none⟩ = some (.int .u64 z.re.d) ∧ w1.cell? ⟨g, i * 7 + 6, none⟩ = some (.slice z.re.p z.re.n z.re.cap)) ∧ (w1.frozen? ⟨g, i * 7, none⟩ = false ∧ w1.frozen? ⟨g, i * 7 + 1, none⟩ = false ∧ w1.frozen? ⟨g, i * 7 + 2, none⟩ = false ∧ w1.frozen? ⟨g, i * 7 + 3, none⟩ = false ∧ w1.frozen? ⟨g, i * 7 + 4, none⟩ = false ∧ w1.frozen? ⟨g, i * 7 + 5, none⟩ = false ∧ w1.frozen? ⟨g, i * 7 + 6, none⟩ = false) ∧ Hid (Below w.heap.size w w1) ∧ Hid (w1.ownsRow w.heap.size 106 7 (.slice (some ⟨g, 0, none⟩) n n) n (ks.flatMap KE.enc))) := by
          intro w1 hb
          have e1 : w1.heap[wr.heap.size]? = some (.cells #[.int .i64 k, .int .u64 a, .int .u64 b, .int .u64 c, .int .u64 d, .slice q m cp] 28 (0, 0)) := (hb.block _ (Array.getElem?_eq_some_iff.1 hnb).1).trans hnb
          have hrw : Below wr.heap.size wr w1 := hbd.trans (hb.mono hbd.size)
          have r1 := own_at HO1.out (hrw.block g hgl)
          refine ⟨⟨?_, ?_, ?_, ?_, ?_, ?_⟩, ⟨?_, ?_, ?_, ?_, ?_, ?_, ?_⟩, ⟨own_frozenR r1 _, own_frozenR r1 _, own_frozenR r1 _, own_frozenR r1 _, own_frozenR r1 _, own_frozenR r1 _, own_frozenR r1 _⟩, HB.out.trans (hrw.mono HB.out.size), r1⟩
          · simp [World.cell?, e1]
          · simp [World.cell?, e1]
          · simp [World.cell?, e1]
          · simp [World.cell?, e1]
          · simp [World.cell?, e1]
          · simp [World.cell?, e1]
          · exact row_cell r1 (j := i * 7) (u := .string z.text) ((flat7_at ks i 0 z hz (by decide)).trans rfl)
          · exact row_cell r1 (j := i * 7 + 1) (u := .int .i64 z.re.kind) ((flat7_at ks i 1 z hz (by decide)).trans rfl)
          · exact row_cell r1 (j := i * 7 + 2) (u := .int .u64 z.re.a) ((flat7_at ks i 2 z hz (by decide)).trans rfl)
          · exact row_cell r1 (j := i * 7 + 3) (u := .int .u64 z.re.b) ((flat7_at ks i 3 z hz (by decide)).trans rfl)
          · exact row_cell r1 (j := i * 7 + 4) (u := .int .u64 z.re.c) ((flat7_at ks i 4 z hz (by decide)).trans rfl)
          · exact row_cell r1 (j := i * 7 + 5) (u := .int .u64 z.re.d) ((flat7_at ks i 5 z hz (by decide)).trans rfl)
          · exact row_cell r1 (j := i * 7 + 6) (u := .slice z.re.p z.re.n z.re.cap) ((flat7_at ks i 6 z hz (by decide)).trans rfl)
        obtain ⟨⟨k0, k1, k2, k3, k4, k5⟩, _⟩ := HFW.out W2.drew (Below.refl _ _)
        have HKEY := Lib.hid hkey
        have hgr : (w.heap.size : Nat) ≤ g := hgw
        clear hra htr hdu hsu HOr hkey hS hb2 hbd hnb hz hu hy hw0r
        go_wp2_with fail
        rw [← hW2]
        clear hW2 c0 c1 c2 c3 c4 c5
        go_wp2_with fail
        go_region_law (first
          | (go_simp; go_at_call 69; (with_reducible (refine HTX.out.mono ?_)); rintro _ w1 ⟨rfl, hb1⟩; obtain ⟨⟨q0, q1, q2, q3, q4, q5⟩, ⟨o0, o1, o2, o3, o4, o5, o6⟩, ⟨f0, f1, f2, f3, f4, f5, f6⟩, HB9, HO9⟩ := HFW.out w1 hb1; clear hb1)
          | fail)
        all_goals go_wp2
        all_goals
          go_roundg (n - (i + 1))
          case measure => omega
          case rel =>
            refine ⟨i + 1, ks.set i ⟨S, ⟨k, a, b, c, d, q, m, cp⟩, i⟩, by go_num, by omega, Nat.le_refl _, ((((((HB9.out.setCell hgr _).setCell hgr _).setCell hgr _).setCell hgr _).setCell hgr _).setCell hgr _).setCell hgr _, ?_, ?_, ?_⟩
            · unfold Hid
              rw [← flat7_set ks i ⟨S, ⟨k, a, b, c, d, q, m, cp⟩, i⟩ (by rw [HK.out.1]; exact hlt)]
              exact own_set5r (own_set5r (own_set5r (own_set5r (own_set5r (own_set5r (own_set5r HO9.out _ _) _ _) _ _) _ _) _ _) _ _) _ _
            · rw [List.length_set]; exact HK.out.1
            · rw [List.take_add_one, List.getElem?_set_self (by rw [HK.out.1]; exact hlt), List.take_set_of_le (Nat.le_refl _), HK.out.2, List.take_add_one, HKEY.out]
      · have hltz : ¬ (i : Int) < (n : Int) := by omega
        have hki : Hid (ks = keL us l) := by
          have h := HK.out
          obtain rfl : i = n := by omega
          rw [List.take_of_length_le (by omega), List.take_of_length_le (by rw [keL_len, HNL.out]; exact Nat.le_refl _)] at h
          exact h.2
        have c1 := sortstable_any wr w.heap.size g n n ks HO1.out hn (fun t x hx => by rw [hki.out] at hx; rw [(keL_at hx).2])
        have HBr := Lib.hid HB.out
        clear hi hgk HO1 HK
        go_wp2_with fail
        ((with_reducible refine c1.mono ?_))
        rintro _ w2 ⟨rfl, D, hp, hs, ho2, hb2⟩
        have HP : Hid (D.Perm (keL us l)) := by rw [← hki.out]; exact hp
        have HS := Lib.hid hs
        have HB2 : Hid (Below w.heap.size w w2) := HBr.out.trans hb2
        have c2 := compact_any w2 w.heap.size g n n D ho2 HB2.out.size hn
        clear hp hs hb2 c1 ho2
        go_wp2_with fail
        ((with_reducible refine c2.mono ?_))
        rintro _ w3 ⟨N, rfl, ho3, hb3⟩
        obtain ⟨C, hC⟩ : ∃ C, C = cpt KE.key D := ⟨_, rfl⟩
        rw [← hC] at ho3
        have HC := Lib.hid hC
        have HB3 : Hid (Below w.heap.size w w3) := HB2.out.trans hb3
        have hCN : C.length = N := by have := ho3.1; rw [flat7_len] at this; omega
        have hNn : N ≤ n := (row_base ho3).2.1
        have HO3 := Lib.hid ho3
        have HCN := Lib.hid hCN
        obtain ⟨g2, hg2⟩ : ∃ g2, g2 = w3.heap.size := ⟨_, rfl⟩
        obtain ⟨W4, hW4⟩ : ∃ W4 : World, W4 = w3.alloc (.cells (madeCells zero6 (N * 6)) 28) := ⟨_, rfl⟩
        have hmk : (Instr.makeSlice 26 (.int .i64 (N : Int)) (.int .i64 (N : Int))).run Tryz.prog w3 = .ok (.slice (some ⟨g2, 0, none⟩) N N) W4 := by rw [hg2, hW4]; exact make6 N (by omega) w3
        have HR4 : Hid (W4.ownsRow w0.heap.size 28 6 (.slice (some ⟨g2, 0, none⟩) N N) N ((List.replicate N zeroRe).flatMap ReV.cells)) := by
          unfold Hid
          rw [← made6, hg2, hW4]
          exact row_new (Nat.le_trans hwle HB3.out.size) (by unfold maxLen; omega) (by simp [madeCells])
        have HB4 : Hid (Below w.heap.size w W4) := by unfold Hid; rw [hW4]; exact HB3.out.alloc HB3.out.size _
        have HO4 : Hid (W4.ownsRow w.heap.size 106 7 (.slice (some ⟨g, 0, none⟩) N n) N (C.flatMap KE.enc)) := by unfold Hid; rw [hW4]; exact HO3.out.alloc _
        have hgg : g ≠ g2 := by have := (row_base HO3.out).2.2.2; omega
        have hg2w : w.heap.size ≤ g2 := by have := HB3.out.size; omega
        clear ho3 hb3 hC hCN hg2 hW4 c2
        go_wp2
        clear hmk
        obtain ⟨wo, hwo⟩ : ∃ x : World, x = wr := ⟨_, rfl⟩
        subst hwo
        go_loopg [40] N (fun gk vi wr => ∃ (i : Nat) (rs : List ReV), vi = .int .i64 (i : Int) ∧ i ≤ N ∧ N - i ≤ gk ∧ Hid (Below w.heap.size w wr) ∧ Hid (wr.ownsRow w.heap.size 106 7 (.slice (some ⟨g, 0, none⟩) N n) N (C.flatMap KE.enc)) ∧ Hid (wr.ownsRow w0.heap.size 28 6 (.slice (some ⟨g2, 0, none⟩) N N) N (rs.flatMap ReV.cells)) ∧ Hid (rs.length = N ∧ rs.take i = (C.map KE.re).take i))
        case atStart => exact ⟨0, List.replicate N zeroRe, rfl, by omega, by omega, HB4.out, HO4.out, HR4.out, by simp, rfl⟩
        case round =>
          obtain ⟨j, rs, rfl, hj, hgk, HB5, HO5, HR5, HK5⟩ := hrel
          by_cases hlt : j < N
          · have hltz : (j : Int) < (N : Int) := by omega
            obtain ⟨x, hx⟩ : ∃ x, C[j]? = some x := ⟨_, List.getElem?_eq_getElem (by rw [HCN.out]; exact hlt)⟩
            obtain ⟨z, hz⟩ : ∃ z, rs[j]? = some z := ⟨_, List.getElem?_eq_getElem (by rw [HK5.out.1]; exact hlt)⟩
            obtain ⟨S, ⟨k, a, b, c, d, q, m, cp⟩, ix⟩ := x
            have c0 := row_cell HO5.out (j := j * 7) (u := .string S) ((flat7_at C j 0 _ hx (by decide)).trans rfl)
            have c1 := row_cell HO5.out (j := j * 7 + 1) (u := .int .i64 k) ((flat7_at C j 1 _ hx (by decide)).trans rfl)
            have c2 := row_cell HO5.out (j := j * 7 + 2) (u := .int .u64 a) ((flat7_at C j 2 _ hx (by decide)).trans rfl)
            have c3 := row_cell HO5.out (j := j * 7 + 3) (u := .int .u64 b) ((flat7_at C j 3 _ hx (by decide)).trans rfl)
            have c4 := row_cell HO5.out (j := j * 7 + 4) (u := .int .u64 c) ((flat7_at C j 4 _ hx (by decide)).trans rfl)
            have c5 := row_cell HO5.out (j := j * 7 + 5) (u := .int .u64 d) ((flat7_at C j 5 _ hx (by decide)).trans rfl)
            have c6 := row_cell HO5.out (j := j * 7 + 6) (u := .slice q m cp) ((flat7_at C j 6 _ hx (by decide)).trans rfl)
            have HO6 : Hid ((wr.alloc (.cells #[.string S, .int .i64 k, .int .u64 a, .int .u64 b, .int .u64 c, .int .u64 d, .slice q m cp] 106)).ownsRow w0.heap.size 28 6 (.slice (some ⟨g2, 0, none⟩) N N) N (rs.flatMap ReV.cells)) := HR5.out.alloc _
            have HO7 : Hid ((wr.alloc (.cells #[.string S, .int .i64 k, .int .u64 a, .int .u64 b, .int .u64 c, .int .u64 d, .slice q m cp] 106)).ownsRow w.heap.size 106 7 (.slice (some ⟨g, 0, none⟩) N n) N (C.flatMap KE.enc)) := HO5.out.alloc _
            have d0 := row_cell HO6.out (j := j * 6) (u := .int .i64 z.kind) ((flat6_at rs j 0 z hz (by decide)).trans rfl)
            have d1 := row_cell HO6.out (j := j * 6 + 1) (u := .int .u64 z.a) ((flat6_at rs j 1 z hz (by decide)).trans rfl)
            have d2 := row_cell HO6.out (j := j * 6 + 2) (u := .int .u64 z.b) ((flat6_at rs j 2 z hz (by decide)).trans rfl)
            have d3 := row_cell HO6.out (j := j * 6 + 3) (u := .int .u64 z.c) ((flat6_at rs j 3 z hz (by decide)).trans rfl)
            have d4 := row_cell HO6.out (j := j * 6 + 4) (u := .int .u64 z.d) ((flat6_at rs j 4 z hz (by decide)).trans rfl)
            have d5 := row_cell HO6.out (j := j * 6 + 5) (u := .slice z.p z.n z.cap) ((flat6_at rs j 5 z hz (by decide)).trans rfl)
            have f0 := own_frozenR HO6.out (j * 6)
            have f1 := own_frozenR HO6.out (j * 6 + 1)
            have f2 := own_frozenR HO6.out (j * 6 + 2)
            have f3 := own_frozenR HO6.out (j * 6 + 3)
            have f4 := own_frozenR HO6.out (j * 6 + 4)
            have f5 := own_frozenR HO6.out (j * 6 + 5)
            have HX := Lib.hid hx
            have HB6 : Hid (Below w.heap.size w (wr.alloc (.cells #[.string S, .int .i64 k, .int .u64 a, .int .u64 b, .int .u64 c, .int .u64 d, .slice q m cp] 106))) := HB5.out.alloc HB5.out.size _
            clear hx hz
            go_wp2
            go_roundg (N - (j + 1))
            case measure => omega
            case rel =>
              refine ⟨j + 1, rs.set j ⟨k, a, b, c, d, q, m, cp⟩, by go_num, by omega, Nat.le_refl _, (((((HB6.out.setCell hg2w _).setCell hg2w _).setCell hg2w _).setCell hg2w _).setCell hg2w _).setCell hg2w _, ?_, ?_, ?_, ?_⟩
              · refine own_at HO7.out ?_
                rw [heap_set_ne _ _ _ (by exact hgg), heap_set_ne _ _ _ (by exact hgg), heap_set_ne _ _ _ (by exact hgg), heap_set_ne _ _ _ (by exact hgg), heap_set_ne _ _ _ (by exact hgg), heap_set_ne _ _ _ (by exact hgg)]
              · unfold Hid
                rw [← flat6_set rs j ⟨k, a, b, c, d, q, m, cp⟩ (by rw [HK5.out.1]; exact hlt)]
                exact own_set5r (own_set5r (own_set5r (own_set5r (own_set5r (own_set5r HO6.out _ _) _ _) _ _) _ _) _ _) _ _
              · rw [List.length_set]; exact HK5.out.1
              · rw [List.take_add_one, List.getElem?_set_self (by rw [HK5.out.1]; exact hlt), List.take_set_of_le (Nat.le_refl _), HK5.out.2, List.take_add_one, List.getElem?_map, HX.out]
                rfl
          · have hltz : ¬ (j : Int) < (N : Int) := by omega
            have hrs : Hid (rs = C.map KE.re) := by
              have h := HK5.out
              obtain rfl : j = N := by omega
              rw [List.take_of_length_le (by omega), List.take_of_length_le (by rw [List.length_map, HCN.out]; exact Nat.le_refl _)] at h
              exact h.2
            go_wp2
            go_ret
            obtain ⟨e1, e2⟩ := sorted_each (W := w) (P := True) (R := RAt w0 P) (by rw [HUL.out, HNL.out]) HEA.out HP.out HS.out
            have hN : N = (putsM l).length := by rw [← e1, ← HC.out, List.length_map, HCN.out]
            have hrs2 := hrs.out
            rw [HC.out] at hrs2
            refine ⟨_, rs, rfl, ⟨?_, ?_, ?_⟩, HB5.out.mono hwle⟩
            · rw [← hN]; exact HR5.out
            · rw [hrs2]; exact e1
            · rw [hrs2]; exact e2

end Go.Proofs.YtclnadjgbpihcaaGreatDoor

