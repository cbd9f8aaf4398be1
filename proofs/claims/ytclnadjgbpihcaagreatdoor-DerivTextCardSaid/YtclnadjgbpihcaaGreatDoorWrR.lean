/- The ranges of a set, written one by one. No condition but the library's table. -/
import Derived.Test.YtclnadjgbpihcaaGreatDoorTxtA
import Derived.Test.YtclnadjgbpihcaaGreatDoorBShelf
import Derived.Test.YtclnadjgbpihcaaGreatDoorBWrite
import Derived.Test.YtclnadjgbpihcaaGreatDoorReMem
import Derived.Test.YtclnadjgbpihcaaGreatDoorRanges2
import Derived.Lib.SmallJoins
import Derived.Lib.AppendIntMem
import Derived.Deep.RegionLaw
namespace Go.Proofs.YtclnadjgbpihcaaGreatDoor
open Go.RowKit Go.Lib
set_option linter.unusedVariables false
set_option linter.unusedSimpArgs false

/-- The library's tables: powers of ten, and places of bits. -/
structure Tab1 (W : World) : Prop where
  ten : Lib.TabIs Tryz.prog W "internal/strconv.uint64pow10" .u64 Lib.pow10Tab
  bru : TabD W
theorem Tab1.below {B : Nat} {wB W : World} (h : Tab1 wB) (hb : Below B wB W) (hB : wB.heap.size ≤ B) : Tab1 W := ⟨Go.Joins.tab_stays (g := 2) (by kernel_rfl) h.ten hb hB, h.bru.below hb hB⟩
theorem Tab1.stays {w W : World} (h : Tab1 w) (hb : Below w.heap.size w W) : Tab1 W := h.below hb (Nat.le_refl _)
theorem below_drewn_grow (W : World) (k : Nat) (os : Array Obj) : Below W.heap.size W (Go.Sort.grow (W.drewN k) os) :=
  ⟨rfl, rfl, rfl, by rw [Go.Sort.size_grow]; exact Nat.le_add_right _ _, fun b hb => Go.Sort.heap_grow_old (W.drewN k) os hb⟩
theorem itoa_b (n : Nat) (hn : n ≤ 255) {W : World} (h : Tab1 W) : Calls Tryz.prog 99 #[.int .i64 (n : Int)] W fun e w' => e = .returned (.string ⟨(dig n).toArray⟩) ∧ Below W.heap.size W w' := by
  refine (Tryz.strconv_Itoa n (by omega) (by omega) W h.ten).mono ?_
  rintro e w' ⟨rfl, k, os, rfl⟩
  exact ⟨by rw [itoa_dig n hn], below_drewn_grow W k os⟩

/-- A builder that holds this text; what lay below it in the world wB lies there still. -/
structure Wr (wB : World) (B b : Nat) (T : Tx) (W : World) : Prop where
  bld : Lib.IsBuilderF 119 5 B b (Lib.byteCells T) W
  bel : Below B wB W
theorem Wr.b_lt {wB W : World} {B b : Nat} {T : Tx} (h : Wr wB B b T W) : B ≤ b ∧ b < W.heap.size := by
  rcases h.bld with ⟨h1, v, h2, _⟩ | ⟨h1, v, h2, _⟩
  · exact ⟨h1, (Array.getElem?_eq_some_iff.1 h2).1⟩
  · exact ⟨h1, (Array.getElem?_eq_some_iff.1 h2).1⟩
theorem Wr.bsize {wB W : World} {B b : Nat} {T : Tx} (h : Wr wB B b T W) : B ≤ W.heap.size := by have := h.b_lt; omega
theorem Wr.drawn {wB W : World} {B b : Nat} {T : Tx} (h : Wr wB B b T W) : Wr wB B b T W.drew := ⟨h.bld, below_drawn h.bel 1⟩
/-- What such writing keeps. -/
structure Kpt (B b : Nat) (w w' : World) : Prop where
  bel : Below B w w'
  oth : Lib.OthersKept 5 (some b) w w'
theorem Kpt.refl (B b : Nat) (w : World) : Kpt B b w w := ⟨Below.refl _ _, Lib.OthersKept.refl _ _ _⟩
theorem Kpt.trans {B b : Nat} {a c d : World} (h : Kpt B b a c) (k : Kpt B b c d) : Kpt B b a d := ⟨h.bel.trans k.bel, h.oth.trans k.oth⟩
theorem Kpt.of {B b : Nat} {a c : World} (h : Below a.heap.size a c) (hB : B ≤ a.heap.size) : Kpt B b a c :=
  ⟨h.mono hB, fun k o hk _ _ => (h.block k (Array.getElem?_eq_some_iff.1 hk).1).trans hk⟩
theorem Kpt.under {B b : Nat} {a c d : World} (h : Kpt B b a c) (k : Below c.heap.size c d) (hB : B ≤ c.heap.size) : Kpt B b a d := h.trans (Kpt.of k hB)
theorem Kpt.drawn {B b : Nat} {a c : World} (h : Kpt B b a c) : Kpt B b a c.drew := ⟨below_drawn h.bel 1, h.oth⟩
theorem Kpt.block {B b : Nat} {w w' : World} (h : Kpt B b w w') {g : Nat} {c : Array Value} {t : TypeId} {z : Nat × Nat} (hg : w.heap[g]? = some (.cells c t z)) (hb : g ≠ b) (ht : t ≠ 5) : w'.heap[g]? = some (.cells c t z) :=
  h.oth g _ hg (fun e => hb (Option.some.inj e)) (fun c' fz e => ht (by injection e))
theorem Kpt.keeps {B b : Nat} {w w' : World} (h : Kpt B b w w') : Keeps w w' (fun g => g ≠ b) (fun g => g ≠ b) := ⟨h.bel.size, fun g c t hp ht hg => ⟨h.block hg hp ht, hp⟩⟩
theorem IsB.below {T e : TypeId} {B b : Nat} {bs : List Value} {W W' : World} (h : Lib.IsBuilderF T e B b bs W) (hb : Below W.heap.size W W') : Lib.IsBuilderF T e B b bs W' := by
  have key : ∀ p, Lib.BuilderAtF T e B b p bs W → Lib.BuilderAtF T e B b p bs W' := fun p ⟨h1, v, h2, h3, h4⟩ => by
    refine ⟨h1, v, (hb.block b (Array.getElem?_eq_some_iff.1 h2).1).trans h2, ⟨h3.1, ?_⟩, h4⟩
    rcases h3.2 with q | ⟨g, cap, cur, fz, q1, q2, q3, rest⟩
    · exact .inl q
    · exact .inr ⟨g, cap, cur, fz, q1, q2, (hb.block g (Array.getElem?_eq_some_iff.1 q3).1).trans q3, rest⟩
  exact h.imp (key _) (key _)
theorem Wr.under {wB W W' : World} {B b : Nat} {T : Tx} (h : Wr wB B b T W) (hb : Below W.heap.size W W') : Wr wB B b T W' := ⟨IsB.below h.bld hb, h.bel.trans (hb.mono h.bsize)⟩
theorem wstr_any {wB W : World} {B b : Nat} {T X : Tx} {S : ByteArray} (h : Wr wB B b T W) (hS : S = ⟨X.toArray⟩) (hl : T.length + X.length ≤ 140737488355328) :
    Calls Tryz.prog 88 #[.pointer (some ⟨b, 0, none⟩), .string S] W fun e w' => e = .returned (.tuple #[.int .i64 X.length, .nilIface]) ∧ Wr wB B b (T ++ X) w' ∧ Kpt B b W w' := by
  subst hS
  have hB : B ≤ W.heap.size := h.bsize
  refine (write_string B b (Lib.byteCells T) ⟨X.toArray⟩ W h.bld (by show (Lib.byteCells T).length + X.toArray.size ≤ _; rw [Lib.byteCells_length]; simpa using hl) hB).mono ?_
  rintro e w' ⟨rfl, h1, h2, h3⟩
  refine ⟨by show Ending.returned (.tuple #[.int .i64 (X.toArray.size : Int), .nilIface]) = _; simp, ⟨.inr ?_, h.bel.trans h2⟩, ⟨h2, h3⟩⟩
  have e1 : Lib.byteCells (T ++ X) = Lib.byteCells T ++ Lib.strCells ⟨X.toArray⟩ := by rw [Lib.strCells_toArray]; simp [Lib.byteCells]
  rw [e1]
  exact h1

theorem own_kept {B b : Nat} {w w' : World} (h : Kpt B b w w') {base size n g cap : Nat} {t : TypeId} {xs : List Value} (ho : w.ownsRow base t size (.slice (some ⟨g, 0, none⟩) n cap) n xs) (ht : t ≠ 5) (hb : g ≠ b) : w'.ownsRow base t size (.slice (some ⟨g, 0, none⟩) n cap) n xs := by
  refine ⟨ho.1, ?_⟩
  rcases ho.2 with ⟨hn, _⟩ | ⟨g', cap', cur, hv, hb', hg, rest⟩
  · cases hn
  · have e1 : g = g' := by simp at hv; exact hv.1
    subst e1
    exact .inr ⟨g, cap', cur, hv, hb', h.block hg hb ht, rest⟩
theorem str3 (a b c : Tx) : (⟨a.toArray⟩ : ByteArray) ++ ⟨b.toArray⟩ ++ ⟨c.toArray⟩ = ⟨(a ++ (b ++ c)).toArray⟩ := by
  apply ByteArray.ext
  simp

set_option maxRecDepth 100000 in
set_option maxHeartbeats 8000000 in
/-- writeRanges: the ranges of a row, in brackets. -/
theorem wranges_any {wB : World} {B b : Nat} (hBB : wB.heap.size ≤ B) (hTB0 : Tab1 wB) (l : List (Nat × Nat)) (hl : ∀ r ∈ l, r.1 ≤ 255 ∧ r.2 ≤ 255) (hln : l.length ≤ 256) (T : Tx) (hT : T.length ≤ 100000000000000) (w : World) (hw : Wr wB B b T w)
    (base : Nat) (v : Value) (hv : w.ownsRow base 97 2 v l.length (rcells l)) (hne : v.ownBlock ≠ some b) :
    Calls Tryz.prog 95 #[.pointer (some ⟨b, 0, none⟩), v] w fun e w' => e = .returned (.tuple #[]) ∧ Wr wB B b (T ++ 91 :: (sepB [44] (l.map rg1) ++ [93])) w' ∧ Kpt B b w w' := by
  have hTB := Lib.hid hTB0
  have HL := Lib.hid hl
  have HW := Lib.hid hw
  have HV := Lib.hid hv
  have HNE := Lib.hid hne
  have c1 := wstr_any hw (X := [91]) (S := ⟨#[91]⟩) rfl (by simp; omega)
  obtain ⟨n, hn⟩ : ∃ n, n = l.length := ⟨_, rfl⟩
  have HN := Lib.hid hn
  have hn256 : n ≤ 256 := by omega
  have hbl := hw.b_lt
  rw [← hn] at HV
  have hform := row_forms HV.out
  clear hTB0 hl hw hv hne hn hln
  have hvf : ∃ a cap, v = .slice a n cap := by
    rcases hform with ⟨rfl, rfl⟩ | ⟨g, cap, rfl⟩
    · exact ⟨_, _, rfl⟩
    · exact ⟨_, _, rfl⟩
  obtain ⟨ad, cap, rfl⟩ := hvf
  clear hform
  go_enter Tryz.func95, Tryz.ntmps95
  go_wp2_with fail
  ((with_reducible refine c1.mono ?_))
  rintro _ w1 ⟨rfl, hw1, hk1⟩
  have HW1 := Lib.hid hw1
  have HK1 := Lib.hid hk1
  clear hw1 hk1 c1
  go_wp2
  go_loopg [10] n (fun gk v wr => ∃ i : Nat, v = .int .i64 i ∧ i ≤ n ∧ n - i ≤ gk ∧ Hid (Wr wB B b (T ++ 91 :: sepB [44] ((l.take i).map rg1)) wr) ∧ Hid (Kpt B b w wr))
  case atStart => exact ⟨0, by first | rfl | go_num, by omega, by omega, by simpa [sepB] using HW1, HK1⟩
  case round =>
    obtain ⟨i, rfl, hi, hgk, HWR, HKR⟩ := hrel
    by_cases hlt : i < n
    · have hltz : (i : Int) < (n : Int) := by omega
      obtain ⟨g, hg⟩ : ∃ g, ad = some ⟨g, 0, none⟩ := by
        rcases row_forms HV.out with ⟨h0, h1⟩ | ⟨g, cap', h0⟩
        · omega
        · simp at h0
          exact ⟨g, h0.1⟩
      subst hg
      have hgb : g ≠ b := fun e => HNE.out (by rw [e]; rfl)
      have HVr := Lib.hid (own_kept HKR.out HV.out (by decide) hgb)
      obtain ⟨_, hcap, hcm, hgl⟩ := row_base HVr.out
      obtain ⟨lo, hi', hlh⟩ : ∃ lo hi', l[i]? = some (lo, hi') := ⟨_, _, List.getElem?_eq_getElem (by rw [← HN.out]; exact hlt)⟩
      obtain ⟨hlo, hhi⟩ := HL.out (lo, hi') (List.mem_of_getElem? hlh)
      have hil : i < l.length := by rw [← HN.out]; exact hlt
      have hli : l[i] = (lo, hi') := (List.getElem?_eq_some_iff.1 hlh).2
      have d0 := row_cell HVr.out (j := i * 2) (u := .int .i64 (lo : Int)) (by rw [rcells_lo l i hil, hli])
      have d1 := row_cell HVr.out (j := i * 2 + 1) (u := .int .i64 (hi' : Int)) (by rw [rcells_hi l i hil, hli])
      have HTK := Lib.hid (show (l.take (i + 1)).map rg1 = (l.take i).map rg1 ++ [rg1 (lo, hi')] by rw [List.take_add_one, hlh]; simp)
      have hxl := sepR_len (l.take i)
      have htl : (l.take i).length ≤ i := List.length_take_le _ _
      have hdl := dig_len lo
      have hdh := dig_len hi'
      obtain ⟨X, hX⟩ : ∃ X, X = rg1 (lo, hi') := ⟨_, rfl⟩
      have hXl : X.length ≤ 7 := by
        rw [hX]
        simp only [rg1, List.length_append, List.length_cons]
        omega
      have HXX := Lib.hid hX
      have HXS : Hid ((⟨(dig lo).toArray⟩ : ByteArray) ++ ⟨#[45]⟩ ++ ⟨(dig hi').toArray⟩ = ⟨X.toArray⟩) := by
        rw [hX]
        unfold Hid
        exact str3 _ _ _
      obtain ⟨A1, hA1⟩ : ∃ A : ByteArray, A = ⟨(dig lo).toArray⟩ := ⟨_, rfl⟩
      obtain ⟨A2, hA2⟩ : ∃ A : ByteArray, A = ⟨(dig hi').toArray⟩ := ⟨_, rfl⟩
      have z1 : A1.size ≤ 3 := by rw [hA1]; show (dig lo).toArray.size ≤ 3; simpa using hdl
      have z2 : A2.size ≤ 3 := by rw [hA2]; show (dig hi').toArray.size ≤ 3; simpa using hdh
      rw [← hA1, ← hA2] at HXS
      have HI1 : Hid (∀ W : World, Tab1 W → Calls Tryz.prog 99 #[.int .i64 (lo : Int)] W fun e w' => e = .returned (.string A1) ∧ Below W.heap.size W w') := fun W h => by rw [hA1]; exact itoa_b lo hlo h
      have HI2 : Hid (∀ W : World, Tab1 W → Calls Tryz.prog 99 #[.int .i64 (hi' : Int)] W fun e w' => e = .returned (.string A2) ∧ Below W.heap.size W w') := fun W h => by rw [hA2]; exact itoa_b hi' hhi h
      have sum1 : ∀ W : World, (Op.stringOp .add A1 ⟨#[45]⟩).run Tryz.prog W = .ok (.string (A1 ++ ⟨#[45]⟩)) W := fun W => run_string_add_sum W _ _ (by show A1.size + 1 ≤ _; omega)
      have sum2 : ∀ W : World, (Op.stringOp .add (A1 ++ ⟨#[45]⟩) A2).run Tryz.prog W = .ok (.string (A1 ++ ⟨#[45]⟩ ++ A2)) W := fun W => run_string_add_sum W _ _ (by rw [ByteArray.size_append]; show A1.size + 1 + A2.size ≤ _; omega)
      clear hA1 hA2
      obtain ⟨D, hD⟩ : ∃ D, D = wr.heap.size := ⟨_, rfl⟩
      have hn0 := heap_alloc_new wr (.cells #[.int .i64 (lo : Int), .int .i64 (hi' : Int)] 97)
      rw [← hD] at hn0
      have HN0 := Lib.hid hn0
      have HWA := Lib.hid (HWR.out.under ((Below.refl _ _).alloc (Nat.le_refl _) (.cells #[.int .i64 (lo : Int), .int .i64 (hi' : Int)] 97)))
      have HKA := Lib.hid (HKR.out.under ((Below.refl _ _).alloc (Nat.le_refl _) (.cells #[.int .i64 (lo : Int), .int .i64 (hi' : Int)] 97)) HWR.out.bsize)
      have HDb : Hid (D ≠ b) := fun e => by have := HWR.out.b_lt; omega
      have HDW := Lib.hid hD
      clear hlh hli hX hn0 hD hgl hil
      by_cases hi0 : i = 0
      · have hi0z : ¬ (0 : Int) < (i : Int) := by omega
        have hi0b : decide ((i : Int) > 0) = false := by simp; omega
        have HI0 := Lib.hid hi0
        clear hi0
        go_wp2_with fail
        rw [← HDW.out]
        obtain ⟨W2, hW2⟩ : ∃ W2 : World, W2 = (wr.alloc (.cells #[.int .i64 (lo : Int), .int .i64 (hi' : Int)] 97)) := ⟨_, rfl⟩
        have HWR2 : Hid (Wr wB B b (T ++ 91 :: (sepB [44] ((l.take i).map rg1) ++ [])) W2) := by rw [hW2]; unfold Hid; simpa using HWA.out
        have HK2 : Hid (Kpt B b w W2) := by rw [hW2]; exact HKA.out
        have hbx : W2.heap[D]? = some (.cells #[.int .i64 (lo : Int), .int .i64 (hi' : Int)] 97 (0, 0)) := by rw [hW2]; exact HN0.out
        have hD2 : D < W2.heap.size := (Array.getElem?_eq_some_iff.1 hbx).1
        have HBX := Lib.hid hbx
        have k0 : W2.drew.cell? ⟨D, 0, none⟩ = some (.int .i64 (lo : Int)) := by show W2.cell? _ = _; simp [World.cell?, hbx]
        have k1 : W2.drew.cell? ⟨D, 1, none⟩ = some (.int .i64 (hi' : Int)) := by show W2.cell? _ = _; simp [World.cell?, hbx]
        have HTB : Hid (Tab1 W2.drew) := hTB.out.below (W := W2.drew) HWR2.out.drawn.bel hBB
        have HT1 : Hid (∀ w1, Below W2.drew.heap.size W2.drew w1 → Tab1 w1 ∧ w1.cell? ⟨D, 0, none⟩ = some (.int .i64 (lo : Int)) ∧ w1.cell? ⟨D, 1, none⟩ = some (.int .i64 (hi' : Int)) ∧ Wr wB B b (T ++ 91 :: (sepB [44] ((l.take i).map rg1) ++ [])) w1 ∧ Kpt B b w w1) := fun w1 hb =>
          ⟨HTB.out.stays hb, (hb.cell (p := ⟨D, 0, none⟩) hD2).trans k0, (hb.cell (p := ⟨D, 1, none⟩) hD2).trans k1, (HWR2.out.drawn).under hb, (HK2.out.drawn).under hb HWR2.out.bsize⟩
        clear hbx
        rw [← hW2]
        clear hW2
        go_wp2_with fail
        go_region_law (first
          | (go_simp; go_at_call 99; (with_reducible (refine (HI1.out W2.drew HTB.out).mono ?_)); rintro _ w1 ⟨rfl, hb1⟩; obtain ⟨q1, q2, q3, q4, q5⟩ := HT1.out w1 hb1; have HQ1 := Lib.hid q1; have HQ4 := Lib.hid q4; have HQ5 := Lib.hid q5; have HB1 := Lib.hid hb1; clear q1 q4 q5 hb1)
          | (go_simp; go_at_call 99; (with_reducible (refine (HI2.out W2.drew HTB.out).mono ?_)); rintro _ w1 ⟨rfl, hb1⟩; obtain ⟨q1, q2, q3, q4, q5⟩ := HT1.out w1 hb1; have HQ1 := Lib.hid q1; have HQ4 := Lib.hid q4; have HQ5 := Lib.hid q5; have HB1 := Lib.hid hb1; clear q1 q4 q5 hb1)
          | (go_simp; go_at_call 99; (with_reducible (refine (HI2.out w1 HQ1.out).mono ?_)); rintro _ w2 ⟨rfl, hb2⟩; obtain ⟨r1, r2, r3, r4, r5⟩ := HT1.out w2 (below_then HB1.out hb2); have HR4 := Lib.hid r4; have HR5 := Lib.hid r5; clear r1 r4 r5 hb2)
          | (go_simp; go_at_call 99; (with_reducible (refine (HI1.out w1 HQ1.out).mono ?_)); rintro _ w2 ⟨rfl, hb2⟩; obtain ⟨r1, r2, r3, r4, r5⟩ := HT1.out w2 (below_then HB1.out hb2); have HR4 := Lib.hid r4; have HR5 := Lib.hid r5; clear r1 r4 r5 hb2)
          | (go_simp; go_at_call 88; (with_reducible (refine (wstr_any (W := w2) HR4.out (X := X) HXS.out (by rw [List.length_append, List.length_cons, List.length_append]; first | omega | (simp only [List.length_cons, List.length_nil]; omega))).mono ?_)); rintro _ w3 ⟨rfl, hw3, hk3⟩; have HW3 := Lib.hid hw3; have HK3 := Lib.hid hk3; clear hw3 hk3)
          | fail)
        all_goals go_wp2
        all_goals
          go_roundg (n - (i + 1))
          case measure => omega
          case rel =>
            refine ⟨i + 1, by go_num, by omega, Nat.le_refl _, ?_, HR5.out.trans HK3.out⟩
            have h3 := HW3.out
            unfold Hid
            rw [HTK.out, sepB_snoc, if_pos (by rw [HI0.out]; rfl), ← HXX.out]
            simpa using h3
      · have hi0z : (0 : Int) < (i : Int) := by omega
        have c3 := wstr_any HWA.out (X := [44]) (S := ⟨#[44]⟩) rfl (by rw [List.length_append, List.length_cons]; simp only [List.length_cons, List.length_nil]; omega)
        go_wp2_with fail
        rw [← HDW.out]
        ((with_reducible refine c3.mono ?_))
        rintro _ w4 ⟨rfl, hw4, hk4⟩
        have HW4 := Lib.hid hw4
        have HK4 := Lib.hid hk4
        clear hw4 hk4 c3
        obtain ⟨W2, hW2⟩ : ∃ W2 : World, W2 = w4 := ⟨_, rfl⟩
        have HWR2 : Hid (Wr wB B b (T ++ 91 :: (sepB [44] ((l.take i).map rg1) ++ [44])) W2) := by rw [hW2]; unfold Hid; simpa using HW4.out
        have HK2 : Hid (Kpt B b w W2) := by rw [hW2]; exact HKA.out.trans HK4.out
        have hbx : W2.heap[D]? = some (.cells #[.int .i64 (lo : Int), .int .i64 (hi' : Int)] 97 (0, 0)) := by rw [hW2]; exact HK4.out.block HN0.out HDb.out (by decide)
        have hD2 : D < W2.heap.size := (Array.getElem?_eq_some_iff.1 hbx).1
        have HBX := Lib.hid hbx
        have k0 : W2.drew.cell? ⟨D, 0, none⟩ = some (.int .i64 (lo : Int)) := by show W2.cell? _ = _; simp [World.cell?, hbx]
        have k1 : W2.drew.cell? ⟨D, 1, none⟩ = some (.int .i64 (hi' : Int)) := by show W2.cell? _ = _; simp [World.cell?, hbx]
        have HTB : Hid (Tab1 W2.drew) := hTB.out.below (W := W2.drew) HWR2.out.drawn.bel hBB
        have HT1 : Hid (∀ w1, Below W2.drew.heap.size W2.drew w1 → Tab1 w1 ∧ w1.cell? ⟨D, 0, none⟩ = some (.int .i64 (lo : Int)) ∧ w1.cell? ⟨D, 1, none⟩ = some (.int .i64 (hi' : Int)) ∧ Wr wB B b (T ++ 91 :: (sepB [44] ((l.take i).map rg1) ++ [44])) w1 ∧ Kpt B b w w1) := fun w1 hb =>
          ⟨HTB.out.stays hb, (hb.cell (p := ⟨D, 0, none⟩) hD2).trans k0, (hb.cell (p := ⟨D, 1, none⟩) hD2).trans k1, (HWR2.out.drawn).under hb, (HK2.out.drawn).under hb HWR2.out.bsize⟩
        clear hbx
        rw [← hW2]
        clear hW2
        go_wp2_with fail
        go_region_law (first
          | (go_simp; go_at_call 99; (with_reducible (refine (HI1.out W2.drew HTB.out).mono ?_)); rintro _ w1 ⟨rfl, hb1⟩; obtain ⟨q1, q2, q3, q4, q5⟩ := HT1.out w1 hb1; have HQ1 := Lib.hid q1; have HQ4 := Lib.hid q4; have HQ5 := Lib.hid q5; have HB1 := Lib.hid hb1; clear q1 q4 q5 hb1)
          | (go_simp; go_at_call 99; (with_reducible (refine (HI2.out W2.drew HTB.out).mono ?_)); rintro _ w1 ⟨rfl, hb1⟩; obtain ⟨q1, q2, q3, q4, q5⟩ := HT1.out w1 hb1; have HQ1 := Lib.hid q1; have HQ4 := Lib.hid q4; have HQ5 := Lib.hid q5; have HB1 := Lib.hid hb1; clear q1 q4 q5 hb1)
          | (go_simp; go_at_call 99; (with_reducible (refine (HI2.out w1 HQ1.out).mono ?_)); rintro _ w2 ⟨rfl, hb2⟩; obtain ⟨r1, r2, r3, r4, r5⟩ := HT1.out w2 (below_then HB1.out hb2); have HR4 := Lib.hid r4; have HR5 := Lib.hid r5; clear r1 r4 r5 hb2)
          | (go_simp; go_at_call 99; (with_reducible (refine (HI1.out w1 HQ1.out).mono ?_)); rintro _ w2 ⟨rfl, hb2⟩; obtain ⟨r1, r2, r3, r4, r5⟩ := HT1.out w2 (below_then HB1.out hb2); have HR4 := Lib.hid r4; have HR5 := Lib.hid r5; clear r1 r4 r5 hb2)
          | (go_simp; go_at_call 88; (with_reducible (refine (wstr_any (W := w2) HR4.out (X := X) HXS.out (by rw [List.length_append, List.length_cons, List.length_append]; first | omega | (simp only [List.length_cons, List.length_nil]; omega))).mono ?_)); rintro _ w3 ⟨rfl, hw3, hk3⟩; have HW3 := Lib.hid hw3; have HK3 := Lib.hid hk3; clear hw3 hk3)
          | fail)
        all_goals go_wp2
        all_goals
          go_roundg (n - (i + 1))
          case measure => omega
          case rel =>
            refine ⟨i + 1, by go_num, by omega, Nat.le_refl _, ?_, HR5.out.trans HK3.out⟩
            have h3 := HW3.out
            unfold Hid
            rw [HTK.out, sepB_snoc, if_neg (fun e => by have h9 := congrArg List.length e; rw [List.length_map, List.length_take, List.length_nil, ← HN.out] at h9; omega), ← HXX.out]
            simpa using h3
    · have e : i = n := by omega
      have hxl := sepR_len (l.take i)
      have htl : (l.take i).length ≤ i := List.length_take_le _ _
      have c2 := wstr_any HWR.out (X := [93]) (S := ⟨#[93]⟩) rfl (by rw [List.length_append, List.length_cons]; simp only [List.length_cons, List.length_nil]; omega)
      have E := Lib.hid e
      clear e
      go_wp2_with fail
      ((with_reducible refine c2.mono ?_))
      rintro _ w2 ⟨rfl, hw2, hk2⟩
      have HW2 := Lib.hid hw2
      have HK2 := Lib.hid hk2
      clear hw2 hk2 c2
      go_wp2
      go_end0
      refine ⟨rfl, ?_, HKR.out.trans HK2.out⟩
      have := HW2.out
      rw [E.out, HN.out, List.take_length] at this
      simpa using this

end Go.Proofs.YtclnadjgbpihcaaGreatDoor

