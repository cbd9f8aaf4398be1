/- TellerMade is true for every list of bytes and every two numbers, without any condition: of rules by numbers, also with one thing spoilt, the text is what the document says. -/
import Derived.Test.YtddbaacibdmnaaaDoorTSpoilD
import Derived.Test.YtddbaacibdmnaaaDoorTFrame
import Derived.Deep.CutBlock
import Derived.Deep.CutRange
import Derived.Laws.BytesString
import Derived.Deep.AppendLies
import Derived.Deep.RegionLaw
namespace Go.Proofs.YtddbaacibdmnaaaDoor.tellerMade
open Go.ChangeShapes Go.WideShapes Go.ChangeAt Go.RowKit Go.Proofs.YtddbaacibdmnaaaDoor
open Go.ChangeMaps (open_string shut_string)
set_option linter.unusedVariables false
set_option linter.unusedSimpArgs false

theorem conv_byteD (W : World) (c : Int) (h0 : 0 ≤ c) (h1 : c ≤ 255) :
    (convert 26 9 (.slice (some ⟨W.heap.size, 0, none⟩) 1 1)).run Tryd.prog (W.alloc (.cells #[.int .u8 c] 5)).drew = .ok (.string (strOf [c])) (W.alloc (.cells #[.int .u8 c] 5)).drew := by
  have h := run_convert_bytes_back (P := Tryd.prog) (W.alloc (.cells #[.int .u8 c] 5)).drew 26 9 5 ⟨W.heap.size, 0, none⟩ 1 [byt c] Tryd.underlying26 Tryd.underlying5 Tryd.underlying9 (fun j hj => by
    have hj0 : j = 0 := by simp at hj; exact hj
    subst hj0
    have e : ((byt c).toNat : Int) = c := by unfold byt; simp; omega
    show World.cell? _ ⟨W.heap.size, 0, none⟩ = some (.int .u8 ((byt c).toNat : Int))
    rw [e]
    unfold World.cell?
    show (match (W.alloc _).heap[W.heap.size]? with | some (.cells c elem frozen) => c[0]? | x => none) = _
    rw [heap_alloc_new]
    rfl)
  exact h
theorem len_tw : ∀ (l : List Tree), l.length ≤ (l.map Tree.tw).sum
  | [] => by simp
  | t :: l => by
    have h1 := len_tw l
    have h2 : 1 ≤ t.tw := by cases t; simp [Tree.tw]; omega
    simp
    omega
/-- The cells of the one that was appended. -/
theorem last_cells {W : World} {g n cap : Nat} {xs : List Value} (h : W.ownsRow 0 32 6 (.slice (some ⟨g, 0, none⟩) (n + 1) cap) (n + 1) (xs ++ [.int .i64 0, .string ⟨#[]⟩, .slice none 0 0, .int .i64 0, .int .i64 0, .slice none 0 0])) :
    W.cell? ⟨g, n * 6, none⟩ = some (.int .i64 0) ∧ W.cell? ⟨g, n * 6 + 1, none⟩ = some (.string ⟨#[]⟩) ∧ W.cell? ⟨g, n * 6 + 2, none⟩ = some (.slice none 0 0) ∧ W.cell? ⟨g, n * 6 + 3, none⟩ = some (.int .i64 0) ∧ W.cell? ⟨g, n * 6 + 4, none⟩ = some (.int .i64 0) ∧ W.cell? ⟨g, n * 6 + 5, none⟩ = some (.slice none 0 0) ∧
    W.frozen? ⟨g, n * 6, none⟩ = false ∧ W.frozen? ⟨g, n * 6 + 1, none⟩ = false ∧ W.frozen? ⟨g, n * 6 + 2, none⟩ = false ∧ W.frozen? ⟨g, n * 6 + 3, none⟩ = false ∧ W.frozen? ⟨g, n * 6 + 4, none⟩ = false ∧ W.frozen? ⟨g, n * 6 + 5, none⟩ = false := by
  have hl : xs.length = n * 6 := by have := h.1; simp at this; omega
  have hc : ∀ i u, ([.int .i64 0, .string ⟨#[]⟩, .slice none 0 0, .int .i64 0, .int .i64 0, .slice none 0 0] : List Value)[i]? = some u → W.cell? ⟨g, n * 6 + i, none⟩ = some u := fun i u hu => row_cell h (by rw [List.getElem?_append_right (by omega), hl]; simpa using hu)
  have hf : ∀ j, W.frozen? ⟨g, j, none⟩ = false := fun j => by
    rcases h.2 with ⟨e, _⟩ | ⟨k, c, cur, e, _, e2, _⟩
    · cases e
    · obtain ⟨rfl, _⟩ : g = k ∧ cap = c := by simp at e; exact e
      simp [World.frozen?, e2]
  exact ⟨hc 0 _ rfl, hc 1 _ rfl, hc 2 _ rfl, hc 3 _ rfl, hc 4 _ rfl, hc 5 _ rfl, hf _, hf _, hf _, hf _, hf _, hf _⟩
theorem kept_seven {w2 w3 : World} {B : Nat} {g n cap kn kc : Nat} {ka : Option Addr} {ks : Value} {xs : List Value} {o : Obj} (h : w2.ownsRow 0 32 6 ks kn xs) (hk : ∀ q, ks.ownBlock = some q → B ≤ q ∧ some q ≠ (Value.slice (some ⟨g, 0, none⟩) n cap).ownBlock) (he : ks = .slice ka kn kc) (hg : g < w2.heap.size)
    (hgr : (w2.alloc o).drew.grownBy w3 (Value.slice ka kn kc).ownBlock) (c7 : w2.cell? ⟨g, 7, none⟩ = some (.slice ka kn kc)) (z7 : w2.frozen? ⟨g, 7, none⟩ = false) : w3.cell? ⟨g, 7, none⟩ = some (.slice ka kn kc) ∧ w3.frozen? ⟨g, 7, none⟩ = false := by
  have hge : w3.heap[g]? = w2.heap[g]? := by
    rw [hgr.block g (by show g < (w2.alloc o).heap.size; simp; omega) (fun e => by rw [← he] at e; exact (hk g e.symm).2 rfl)]
    exact Below.heap_alloc _ _ _ hg
  exact ⟨(World.cell?_of_block (w := w2) hge).trans c7, (World.frozen?_of_block (w := w2) hge).trans z7⟩
theorem six_below {w W : World} {g o : Nat} {c0 c1 c2 c3 c4 c5 : Value} (h : Below w.heap.size w W) (hg : w.heap.size ≤ g) : Below w.heap.size w (sixSet W g o c0 c1 c2 c3 c4 c5) := by
  unfold sixSet
  exact (((((h.setCell hg c0).setCell hg c1).setCell hg c2).setCell hg c3).setCell hg c4).setCell hg c5
theorem low_of {w : World} {v : Value} {zs : List Int} (h : BytesAt w v zs) : BytesLow w w.heap.size v zs := by
  obtain ⟨a, cap, h1, h2, h3, h4, h5⟩ := h
  exact ⟨a, cap, h1, h2, h3, h4, fun hn => by
    obtain ⟨b, off, e1, e2, e3⟩ := h5 hn
    exact ⟨b, off, e1, e2, e3⟩⟩
theorem below_set {w W : World} (h : Below w.heap.size w W) {g : Nat} (hg : w.heap.size ≤ g) (i : Nat) (v : Value) : Below w.heap.size w (W.setCell ⟨g, i, none⟩ v) := h.setCell hg v


set_option maxRecDepth 100000 in
set_option maxHeartbeats 8000000 in
theorem walk (x0 : Value) (z0 : List Int) (x1 : Int) (x2 : Int) (w : World) (hT : Tabs w) (h0 : BytesAt w x0 z0) (h1 : 0 ≤ x1 ∧ x1 ≤ 255) (h2 : -9223372036854775808 ≤ x2 ∧ x2 ≤ 9223372036854775807) :
    Calls Tryd.prog 4 #[x0, .int .u8 x1, .int .i64 x2] w (GivesBool true w) := by
  have hlow := low_of h0
  have HMADE := Lib.hid (made_any hlow)
  have HT := Lib.hid hT
  have h8 : x1.tmod 8 = 0 ∨ x1.tmod 8 = 1 ∨ x1.tmod 8 = 2 ∨ x1.tmod 8 = 3 ∨ x1.tmod 8 = 4 ∨ x1.tmod 8 = 5 ∨ x1.tmod 8 = 6 ∨ x1.tmod 8 = 7 := by
    have g1 := Int.tmod_nonneg (b := 8) (a := x1) (by omega)
    have g2 := Int.tmod_lt_of_pos x1 (b := 8) (by omega)
    omega
  have e8 : x1.tmod 8 = x1 % 8 := Int.tmod_eq_emod_of_nonneg (by omega)
  have H8 := Lib.hid h8
  have E8 := Lib.hid e8
  obtain ⟨p, cp, rfl, _⟩ := h0
  clear hT hlow h8 e8
  go_enter Tryd.func4, Tryd.ntmps4
  go_wp2_with fail
  refine HMADE.out.mono ?_
  rintro e w1 ⟨v, l, ys, rfl, hlt, hl1, hl5, hml, hb1⟩
  have HS1 := Lib.hid (same_any (hlt.lines hml) (HT.out.below hb1) (made_short hml hl5))
  obtain ⟨r0, rs, rfl⟩ : ∃ r rs, l = r :: rs := by
    match l, hl1 with
    | r :: rs, _ => exact ⟨r, rs, rfl⟩
  obtain ⟨y0, yr, rfl⟩ : ∃ y yr, ys = y :: yr := by
    have := hlt.1
    match ys, this with
    | y :: yr, _ => exact ⟨y, yr, rfl⟩
  obtain ⟨g, cap, rfl⟩ : ∃ g cap, v = .slice (some ⟨g, 0, none⟩) (r0 :: rs).length cap := (row_forms hlt.2.1).resolve_left (fun h => by have := h.2; simp at this)
  have HLT1 := Lib.hid hlt
  have HML := Lib.hid hml
  have HL5 := Lib.hid hl5
  have HB1 := Lib.hid hb1
  obtain ⟨n, hn⟩ : ∃ n, n = (r0 :: rs).length := ⟨_, rfl⟩
  have hn1 : 1 ≤ n := by rw [hn]; exact hl1
  have hn5 : n ≤ 5 := by rw [hn]; exact hl5
  rw [← hn] at HS1 HLT1 ⊢
  clear hlt hl1 hl5 hml hb1 HMADE hn
  go_wp2_with fail
  refine HS1.out.mono ?_
  rintro e w2 ⟨rfl, hb⟩
  have HB2 := Lib.hid (below_then HB1.out hb)
  have HLT := Lib.hid (HLT1.out.kept (fun b _ hl => hb.block b hl) hb.size)
  clear hb HS1 HLT1
  obtain ⟨f1, f2, f3, f4, cur, f5, f6⟩ := HLT.out.first rfl
  obtain ⟨hp1, _⟩ := HLT.out.2.2.2 y0 r0 rfl rfl
  obtain ⟨l1, l2, l3⟩ := HLT.out.2.2.1 0 y0 r0 rfl rfl
  obtain ⟨m1, m2⟩ := HML.out r0 (by simp)
  obtain ⟨nm, mo, X⟩ := y0
  obtain ⟨rn, rm, T⟩ := r0
  simp only [] at hp1 l1 l2 l3 m1 m2
  have hok := (mk_ok m2).1
  have htw := mk3_tw m2
  revert hp1
  intro hp1
  obtain ⟨k, x, nums, lo, hi, kids, ns, ks, rfl, rfl⟩ : ∃ k x nums lo hi kids ns ks, X = ⟨k, strOf x, ns, lo, hi, ks⟩ ∧ T = .mk k x nums lo hi kids := by
    cases hp1 with
    | mk vs _ _ _ _ _ _ _ => exact ⟨_, _, _, _, _, _, _, _, rfl, rfl⟩
  have HTOP := Lib.hid hp1
  have HOK := Lib.hid hok
  have HTW := Lib.hid htw
  have HNM := Lib.hid l1
  have HMO := Lib.hid l2
  have HWN := Lib.hid (word_ok m1)
  have HXB : Hid (∀ c ∈ x, 0 ≤ c ∧ c ≤ 255) := by cases hok with | mk o1 o2 o3 => exact o1
  have HXL : Hid (x.length ≤ 999) := by unfold Hid; simp [Tree.tw] at htw; omega
  have HGB : Hid (w.heap.size ≤ g) := by unfold Hid; omega
  have HCUR := Lib.hid f5
  have HCS := Lib.hid f6
  obtain ⟨s, hs⟩ : ∃ s, s = strOf x := ⟨_, rfl⟩
  have c0 : w2.cell? ⟨g, 0, none⟩ = some (.string nm) := f4 0 _ rfl
  have c2 : w2.cell? ⟨g, 2, none⟩ = some (.int .i64 k) := f4 2 _ rfl
  have c3 : w2.cell? ⟨g, 3, none⟩ = some (.string s) := by rw [hs]; exact f4 3 _ rfl
  have c4 : w2.cell? ⟨g, 4, none⟩ = some ns := f4 4 _ rfl
  have c5 : w2.cell? ⟨g, 5, none⟩ = some (.int .i64 lo) := f4 5 _ rfl
  have c6 : w2.cell? ⟨g, 6, none⟩ = some (.int .i64 hi) := f4 6 _ rfl
  have c7 : w2.cell? ⟨g, 7, none⟩ = some ks := f4 7 _ rfl
  have z : ∀ j, w2.frozen? ⟨g, j, none⟩ = false := fun j => by simp [World.frozen?, f5]
  have z0 := z 0
  have z2 := z 2
  have z3 := z 3
  have z4 := z 4
  have z5 := z 5
  have z6 := z 6
  have z7 := z 7
  have HSX := Lib.hid hs
  clear f1 f4 f5 f6 hp1 l1 l2 l3 m1 m2 hok htw z hs
  go_upto_block 0 with fail
  go_cut [] from 17 to 92 (fun W => Spoilt w W (.slice (some ⟨g, 0, none⟩) n cap))
  case first =>
    have h8 := H8.out
    rcases h8 with g8 | g8 | g8 | g8 | g8 | g8 | g8 | g8
    · have t8 : x1.tmod 8 = 0 := g8
      have m8 : x1 % 8 = 0 := by have := E8.out; omega
      go_wp2_with fail
      go_meet
      exact ⟨⟨nm, mo, ⟨x2, strOf x, ns, lo, hi, ks⟩⟩ :: yr, ⟨rn, rm, .mk x2 x nums lo hi kids⟩ :: rs, LT.cell (W0 := w2) (i := 2) (val := .int .i64 x2) (y0' := ⟨nm, mo, ⟨x2, strOf x, ns, lo, hi, ks⟩⟩) (r0' := ⟨rn, rm, .mk x2 x nums lo hi kids⟩) HLT.out HML.out rfl (fun b _ _ _ _ => rfl) rfl (Nat.le_refl _) (by omega) rfl (⟨HNM.out, HWN.out.1, by have := HWN.out.2; simp; omega, HMO.out, (TopP.etree HTOP.out HOK.out (fun b hP _ => Below.heap_setCell _ _ _ _ (by show b ≠ g; intro e; subst e; exact hP.2 rfl)) (by simp [World.setCell]) x2 lo hi HXB.out (by have := HXL.out; omega)).1⟩), spoilt_short (r0 := ⟨rn, rm, .mk k x nums lo hi kids⟩) HML.out HL5.out (by have := HWN.out.2; simp; try omega) (by have := HTW.out; simp [Tree.tw] at this ⊢; omega), below_set HB2.out HGB.out _ _⟩
    · have t8 : x1.tmod 8 = 1 := g8
      have m8 : x1 % 8 = 1 := by have := E8.out; omega
      go_wp2_with fail
      go_meet
      exact ⟨⟨nm, mo, ⟨k, strOf x, ns, x2, hi, ks⟩⟩ :: yr, ⟨rn, rm, .mk k x nums x2 hi kids⟩ :: rs, LT.cell (W0 := w2) (i := 5) (val := .int .i64 x2) (y0' := ⟨nm, mo, ⟨k, strOf x, ns, x2, hi, ks⟩⟩) (r0' := ⟨rn, rm, .mk k x nums x2 hi kids⟩) HLT.out HML.out rfl (fun b _ _ _ _ => rfl) rfl (Nat.le_refl _) (by omega) rfl (⟨HNM.out, HWN.out.1, by have := HWN.out.2; simp; omega, HMO.out, (TopP.etree HTOP.out HOK.out (fun b hP _ => Below.heap_setCell _ _ _ _ (by show b ≠ g; intro e; subst e; exact hP.2 rfl)) (by simp [World.setCell]) k x2 hi HXB.out (by have := HXL.out; omega)).1⟩), spoilt_short (r0 := ⟨rn, rm, .mk k x nums lo hi kids⟩) HML.out HL5.out (by have := HWN.out.2; simp; try omega) (by have := HTW.out; simp [Tree.tw] at this ⊢; omega), below_set HB2.out HGB.out _ _⟩
    · have t8 : x1.tmod 8 = 2 := g8
      have m8 : x1 % 8 = 2 := by have := E8.out; omega
      go_wp2_with fail
      go_meet
      exact ⟨⟨nm, mo, ⟨k, strOf x, ns, lo, x2, ks⟩⟩ :: yr, ⟨rn, rm, .mk k x nums lo x2 kids⟩ :: rs, LT.cell (W0 := w2) (i := 6) (val := .int .i64 x2) (y0' := ⟨nm, mo, ⟨k, strOf x, ns, lo, x2, ks⟩⟩) (r0' := ⟨rn, rm, .mk k x nums lo x2 kids⟩) HLT.out HML.out rfl (fun b _ _ _ _ => rfl) rfl (Nat.le_refl _) (by omega) rfl (⟨HNM.out, HWN.out.1, by have := HWN.out.2; simp; omega, HMO.out, (TopP.etree HTOP.out HOK.out (fun b hP _ => Below.heap_setCell _ _ _ _ (by show b ≠ g; intro e; subst e; exact hP.2 rfl)) (by simp [World.setCell]) k lo x2 HXB.out (by have := HXL.out; omega)).1⟩), spoilt_short (r0 := ⟨rn, rm, .mk k x nums lo hi kids⟩) HML.out HL5.out (by have := HWN.out.2; simp; try omega) (by have := HTW.out; simp [Tree.tw] at this ⊢; omega), below_set HB2.out HGB.out _ _⟩
    · have t8 : x1.tmod 8 = 3 := g8
      have m8 : x1 % 8 = 3 := by have := E8.out; omega
      obtain ⟨cb, hcb⟩ : ∃ cb : Int, IntKind.u8.wrap x2 = cb := ⟨_, rfl⟩
      have hcr : 0 ≤ cb ∧ cb ≤ 255 := by rw [← hcb, IntKind.wrap_u8]; omega
      have kc := fun (W : World) => conv_byte W cb hcr.1 hcr.2
      have kd := fun (W : World) => conv_byteD W cb hcr.1 hcr.2
      have hn0 : 0 < n := by omega
      have hz1 : (strOf [cb]).size = 1 := rfl
      have hz2 : s.size ≤ 999 := by rw [HSX.out, strOf_size]; exact HXL.out
      go_wp2_with fail
      go_region
      go_wp2_with fail
      go_meet
      rw [show s ++ strOf [cb] = strOf (x ++ [cb]) by rw [HSX.out, str_app4]]
      have hB := (Below.refl (w2.setCell ⟨g, 3, none⟩ (.string (strOf (x ++ [cb])))).heap.size (w2.setCell ⟨g, 3, none⟩ (.string (strOf (x ++ [cb]))))).alloc (Nat.le_refl _) (.cells #[.int .u8 cb] 5)
      have hD : Below (w2.setCell ⟨g, 3, none⟩ (.string (strOf (x ++ [cb])))).heap.size (w2.setCell ⟨g, 3, none⟩ (.string (strOf (x ++ [cb])))) ((w2.setCell ⟨g, 3, none⟩ (.string (strOf (x ++ [cb])))).alloc (.cells #[.int .u8 cb] 5)).drew := ⟨hB.os, hB.tape, hB.output, hB.size, hB.block⟩
      have hLL := LT.cell (W0 := w2) (i := 3) (val := .string (strOf (x ++ [cb]))) (y0' := ⟨nm, mo, ⟨k, strOf (x ++ [cb]), ns, lo, hi, ks⟩⟩) (r0' := ⟨rn, rm, .mk k (x ++ [cb]) nums lo hi kids⟩) HLT.out HML.out rfl (fun b _ _ _ _ => rfl) rfl (Nat.le_refl _) (by omega) rfl (⟨HNM.out, HWN.out.1, by have := HWN.out.2; simp; omega, HMO.out, (TopP.etree HTOP.out HOK.out (fun b hP _ => Below.heap_setCell _ _ _ _ (by show b ≠ g; intro e; subst e; exact hP.2 rfl)) (by simp [World.setCell]) k lo hi (x' := x ++ [cb]) (by intro c hc; rw [List.mem_append] at hc; rcases hc with hc | hc; exact HXB.out c hc; simp at hc; subst hc; exact hcr) (by have := HXL.out; simp; omega)).1⟩)
      exact ⟨_, _, hLL.below hD, spoilt_short (r0 := ⟨rn, rm, .mk k x nums lo hi kids⟩) HML.out HL5.out (by have := HWN.out.2; simp; try omega) (by have := HTW.out; simp [Tree.tw] at this ⊢; omega), below_then (below_set HB2.out HGB.out _ _) hD⟩
    · have t8 : x1.tmod 8 = 4 := g8
      have m8 : x1 % 8 = 4 := by have := E8.out; omega
      obtain ⟨k1, k2, k3⟩ := HTOP.out.owns
      have HK1 := Lib.hid k1
      have HK2 := Lib.hid k2
      have HOW : Hid ((w2.alloc (.cells #[.int .i64 x2] 3)).ownsRow 0 3 1 ns nums.length (icells nums)) := owns_block k1 (fun q hq hl => Below.heap_alloc _ _ _ hl)
      have HNL : Hid (nums.length ≤ 100000) := by have := HTW.out; unfold Hid; simp [Tree.tw] at this; omega
      clear k1 k2 k3
      go_wp2_with (at_builtin; go_loud (refine push_num rfl _ _ rfl 0 ns nums.length (icells nums) x2 w2.heap.size rfl rfl HOW.out (heap_alloc_new _ _) HNL.out (Nat.zero_le _) ?_))
      intro ns0 w3 hown hgr hat
      obtain ⟨q0, cq, rfl⟩ := (row_forms hown).resolve_left (fun h => by have := h.2; omega)
      obtain ⟨ns', hns'⟩ : ∃ u, u = Value.slice (some ⟨q0, 0, none⟩) (nums.length + 1) cq := ⟨_, rfl⟩
      have hge : w3.heap[g]? = w2.heap[g]? := by
        rw [hgr.block g (by simp; omega) (fun e => (HK2.out g e.symm).2 rfl), Below.heap_alloc _ _ _ f3]
      have d4 : w3.cell? ⟨g, 4, none⟩ = some ns := (World.cell?_of_block (w := w2) hge).trans c4
      have d5 : w3.frozen? ⟨g, 4, none⟩ = false := (World.frozen?_of_block (w := w2) hge).trans z4
      rw [← hns'] at hown hat
      have HNS := Lib.hid hns'
      have HOWN := Lib.hid hown
      have HGR := Lib.hid hgr
      have HAT := Lib.hid hat
      have HGE := Lib.hid hge
      clear hown hgr hat hge hns' c0 c2 c3 c4 c5 c6 c7 z0 z2 z3 z4 z5 z6 z7
      go_wp2_with fail
      go_meet
      rw [← HNS.out]
      have hsz : w2.heap.size ≤ w3.heap.size := by have := HGR.out.size; simp at this; omega
      have hne : ∀ q, ns'.ownBlock = some q → q ≠ g := fun q hq e => by
        subst e
        rcases HAT.out with h | ⟨c, h, hc⟩
        · rw [h] at hq; exact (HK2.out q hq).2 rfl
        · rw [h] at hq; have := Option.some.inj hq; (try simp at hc); omega
      have hkeep : ∀ b, b < w2.heap.size → some b ≠ ns.ownBlock → w3.heap[b]? = w2.heap[b]? := fun b hl hb => by
        rw [HGR.out.block b (by simp; omega) hb, Below.heap_alloc _ _ _ hl]
      have hrow : RowAny (w3.setCell ⟨g, 4, none⟩ ns') ns' (nums ++ [x2]).length (icells (nums ++ [x2])) := by
        have h1 : (w3.setCell ⟨g, 4, none⟩ ns').ownsRow 0 3 1 ns' (nums.length + 1) (icells nums ++ [.int .i64 x2]) := owns_block HOWN.out (fun q hq hl => Below.heap_setCell _ _ _ _ (by show q ≠ g; exact hne q hq))
        have h2 : icells (nums ++ [x2]) = icells nums ++ [.int .i64 x2] := by simp [icells]
        rw [h2, List.length_append]
        exact (RowIn.of_row (P := fun _ => True) h1 (fun _ _ => trivial)).any
      have hE := TopP.etree_nums (W' := w3.setCell ⟨g, 4, none⟩ ns') HTOP.out HOK.out hrow (fun b hP hb hl => by rw [Below.heap_setCell _ _ _ _ (by show b ≠ g; intro e; subst e; exact hP.2 rfl)]; exact hkeep b hl hb) (by simp [World.setCell]; omega)
      have hLL := LT.cell (W0 := w3) (i := 4) (val := ns') (y0' := ⟨nm, mo, ⟨k, strOf x, ns', lo, hi, ks⟩⟩) (r0' := ⟨rn, rm, .mk k x (nums ++ [x2]) lo hi kids⟩) HLT.out HML.out rfl (fun b _ hl hb _ => hkeep b hl hb) HGE.out hsz (by omega) rfl ⟨HNM.out, HWN.out.1, by have := HWN.out.2; simp; omega, HMO.out, hE⟩
      have hbw : Below w.heap.size w w3 := ⟨HGR.out.os.trans HB2.out.os, HGR.out.tape.trans HB2.out.tape, HGR.out.output.trans HB2.out.output, Nat.le_trans HB2.out.size hsz, fun b hb => by
        rw [hkeep b (by have := HB2.out.size; omega) (fun e => by have := (HK2.out b e.symm).1; omega)]
        exact HB2.out.block b hb⟩
      exact ⟨_, _, hLL, spoilt_short (r0 := ⟨rn, rm, .mk k x nums lo hi kids⟩) HML.out HL5.out (by have := HWN.out.2; simp; try omega) (by have := HTW.out; simp [Tree.tw] at this ⊢; omega), below_set hbw HGB.out _ _⟩
    · have t8 : x1.tmod 8 = 5 := g8
      have m8 : x1 % 8 = 5 := by have := E8.out; omega
      obtain ⟨vs, v1, v2, v3⟩ := HTOP.out.etree_kids HOK.out
      obtain ⟨_, _, k3⟩ := HTOP.out.owns
      have HV2 := Lib.hid v2
      have HV3 := Lib.hid v3
      have HK3 := Lib.hid k3
      obtain ⟨kn, hkn⟩ : ∃ kn, kn = kids.length := ⟨_, rfl⟩
      have HKN := Lib.hid hkn
      have HV4 : Hid (w2.ownsRow 0 32 6 ks kn (vs.flatMap XV.cells)) := by rw [hkn]; exact v2
      obtain ⟨ka, kc, hks⟩ : ∃ a c, ks = .slice a kn c := by
        rcases row_forms HV4.out with ⟨rfl, h⟩ | ⟨q, c, rfl⟩
        · exact ⟨none, 0, by rw [h]⟩
        · exact ⟨some ⟨q, 0, none⟩, c, rfl⟩
      have HKS := Lib.hid hks
      have hkl : kn ≤ 1000 := by have := HTW.out; have h2 : kids.length ≤ (kids.map Tree.tw).sum := len_tw kids; simp [Tree.tw] at this; omega
      rw [hks] at c7
      have HOW : Hid (((w2.alloc (.cells #[.int .i64 0, .string ⟨#[]⟩, .slice none 0 0, .int .i64 0, .int .i64 0, .slice none 0 0] 32)).drew).ownsRow 0 32 6 (.slice ka kn kc) kn (vs.flatMap XV.cells)) := by rw [← hks]; exact owns_block HV4.out (fun q hq hl => Below.heap_alloc _ _ _ hl)
      obtain ⟨i0, hi0, hi1⟩ := Option.map_eq_some_iff.1 infoX
      obtain ⟨hy0, hy1, hy2⟩ : i0.zero = some _ ∧ i0.size = 6 ∧ i0.bytes = _ := by simpa using hi1
      have hkk : (kn : Int) < (kn : Int) + 1 := by omega
      have HL1 : Hid (kn + 1 ≤ maxLen) := by unfold Hid maxLen; omega
      have HL2 : Hid ((kn + 1) * 88 ≤ 140737488355328) := by unfold Hid; omega
      clear v1 v2 v3 k3 hkn hks hi1
      go_wp2_with fail
      go_region_law (first
        | (refine step_append_lies _ (by rfl) _ _ _ (by rfl) 0 32 i0 _ 6 88 Tryd.underlying30 hi0 hy0 hy1 hy2 rfl (by omega) (.slice ka kn kc) kn (vs.flatMap XV.cells) (by rfl) HOW.out ⟨w2.heap.size, 0, none⟩ 1 1 [.int .i64 0, .string ⟨#[]⟩, .slice none 0 0, .int .i64 0, .int .i64 0, .slice none 0 0] (by rfl) (by rfl) (World.news_of_block (w := (w2.alloc (.cells #[.int .i64 0, .string ⟨#[]⟩, .slice none 0 0, .int .i64 0, .int .i64 0, .slice none 0 0] 32)).drew) (cs := #[.int .i64 0, .string ⟨#[]⟩, .slice none 0 0, .int .i64 0, .int .i64 0, .slice none 0 0]) (t := 32) (fr := (0, 0)) (heap_alloc_new w2 _)) (by simp [Value.oneCell']) (by omega) HL1.out HL2.out (Nat.zero_le _) (w2.heap.size + 1) (by simp) ?_; intro gg cq w3 hown hgr hat hltg; have HOWN := Lib.hid hown; have HGR := Lib.hid hgr; have HAT := Lib.hid hat; obtain ⟨b0, b1, b2, b3, b4, b5, e0, e1, e2, e3, e4, e5⟩ := last_cells hown; obtain ⟨d7, e7⟩ := kept_seven HV4.out HK3.out HKS.out f3 hgr c7 z7; have hn1 : gg ≠ g := (by intro e; rcases hat with h | h; rw [← HKS.out] at h; exact (HK3.out gg h).2 (by rw [e]; rfl); omega); have hn2 : g ≠ gg := Ne.symm hn1; clear hown hgr hat)
        | fail)
      all_goals
        go_wp2_with fail
        go_meet
        have hfin : Spoilt w ((sixSet w3 gg (kn * 6) (.int .i64 5) (.string ⟨#[]⟩) (.slice none 0 0) (.int .i64 0) (.int .i64 0) (.slice none 0 0)).setCell ⟨g, 7, none⟩ (.slice (some ⟨gg, 0, none⟩) (kn + 1) cq)) (.slice (some ⟨g, 0, none⟩) n cap) := by
          have hsz : w2.heap.size ≤ w3.heap.size := by have := HGR.out.size; have h2 : ((w2.alloc (.cells #[.int .i64 0, .string ⟨#[]⟩, .slice none 0 0, .int .i64 0, .int .i64 0, .slice none 0 0] 32)).drew).heap.size = w2.heap.size + 1 := (by show (w2.alloc _).heap.size = _; simp); omega
          have hkeep : ∀ b, b < w2.heap.size → some b ≠ ks.ownBlock → w3.heap[b]? = w2.heap[b]? := fun b hl hb => by
            rw [HGR.out.block b (by show b < (w2.alloc _).heap.size; simp; omega) (by rw [← HKS.out]; exact hb)]
            exact Below.heap_alloc _ _ _ hl
          have hgg : ∀ b, b < w2.heap.size → some b ≠ ks.ownBlock → b ≠ gg := fun b hl hb e => by
            subst e
            rcases HAT.out with h | h
            · rw [← HKS.out] at h; exact hb h.symm
            · omega
          have hk6 : ∀ b, b < w2.heap.size → some b ≠ ks.ownBlock → (sixSet w3 gg (kn * 6) (.int .i64 5) (.string ⟨#[]⟩) (.slice none 0 0) (.int .i64 0) (.int .i64 0) (.slice none 0 0)).heap[b]? = w2.heap[b]? := fun b hl hb => by
            rw [six_other (hgg b hl hb)]; exact hkeep b hl hb
          have hgk : some g ≠ ks.ownBlock := fun e => (HK3.out g e.symm).2 rfl
          have hrow := kid_row (g := g) (c0 := .int .i64 5) (c1 := .string ⟨#[]⟩) (c2 := .slice none 0 0) (c3 := .int .i64 0) (c4 := .int .i64 0) (c5 := .slice none 0 0) HOWN.out hn1 (.slice (some ⟨gg, 0, none⟩) (kn + 1) cq)
          have hE := HV3.out ((sixSet w3 gg (kn * 6) (.int .i64 5) (.string ⟨#[]⟩) (.slice none 0 0) (.int .i64 0) (.int .i64 0) (.slice none 0 0)).setCell ⟨g, 7, none⟩ (.slice (some ⟨gg, 0, none⟩) (kn + 1) cq)) (.slice (some ⟨gg, 0, none⟩) (kn + 1) cq) ⟨5, strOf [], .slice none 0 0, 0, 0, .slice none 0 0⟩ (.mk 5 [] [] 0 0 []) (by rw [← HKN.out]; exact hrow)
            (ETree.mk (x := []) (nums := []) (kids := []) [] (by simp) (by simp) (RowAny.nil _ _ _ _) (RowAny.nil _ _ _ _) rfl (fun i y t h => by simp at h))
            (fun b hP hb hl => by rw [Below.heap_setCell _ _ _ _ (by show b ≠ g; intro e; subst e; exact hP.2 rfl)]; exact hk6 b hl hb) (by simp [World.setCell, six_size]; exact hsz)
          have hLL := LT.cell (W0 := sixSet w3 gg (kn * 6) (.int .i64 5) (.string ⟨#[]⟩) (.slice none 0 0) (.int .i64 0) (.int .i64 0) (.slice none 0 0)) (i := 7) (val := .slice (some ⟨gg, 0, none⟩) (kn + 1) cq) (y0' := ⟨nm, mo, ⟨k, strOf x, ns, lo, hi, .slice (some ⟨gg, 0, none⟩) (kn + 1) cq⟩⟩) (r0' := ⟨rn, rm, .mk k x nums lo hi (kids ++ [.mk 5 [] [] 0 0 []])⟩) HLT.out HML.out rfl (fun b _ hl _ hb => hk6 b hl hb) (hk6 g f3 hgk) (by rw [six_size]; exact hsz) (by omega) rfl
            ⟨HNM.out, HWN.out.1, by have := HWN.out.2; simp; omega, HMO.out, hE⟩
          have o1 : ((w2.alloc (.cells #[.int .i64 0, .string ⟨#[]⟩, .slice none 0 0, .int .i64 0, .int .i64 0, .slice none 0 0] 32)).drew).os = w2.os := rfl
          have o2 : ((w2.alloc (.cells #[.int .i64 0, .string ⟨#[]⟩, .slice none 0 0, .int .i64 0, .int .i64 0, .slice none 0 0] 32)).drew).tape = w2.tape := rfl
          have o3 : ((w2.alloc (.cells #[.int .i64 0, .string ⟨#[]⟩, .slice none 0 0, .int .i64 0, .int .i64 0, .slice none 0 0] 32)).drew).output = w2.output := rfl
          have hbw3 : Below w.heap.size w w3 := ⟨(HGR.out.os.trans o1).trans HB2.out.os, (HGR.out.tape.trans o2).trans HB2.out.tape, (HGR.out.output.trans o3).trans HB2.out.output, Nat.le_trans HB2.out.size hsz, fun b hb => by
            rw [hkeep b (by have := HB2.out.size; omega) (fun e => by have := (HK3.out b e.symm).1; omega)]
            exact HB2.out.block b hb⟩
          have hggw : w.heap.size ≤ gg := by
            rcases HAT.out with h | h
            · rw [← HKS.out] at h; have := (HK3.out gg h).1; omega
            · have := HB2.out.size; omega
          have hbw := six_below (o := kn * 6) (c0 := .int .i64 5) (c1 := .string ⟨#[]⟩) (c2 := .slice none 0 0) (c3 := .int .i64 0) (c4 := .int .i64 0) (c5 := .slice none 0 0) hbw3 hggw
          exact ⟨_, _, hLL, spoilt_short (r0 := ⟨rn, rm, .mk k x nums lo hi kids⟩) HML.out HL5.out (by have := HWN.out.2; simp; try omega) (by have := HTW.out; simp [Tree.tw] at this ⊢; omega), below_set hbw HGB.out _ _⟩
        first
          | (unfold sixSet at hfin; (with_reducible exact hfin))
          | (have hcomm := six_comm (W := w3) (o := kn * 6) (i := 7) hn2 (.slice (some ⟨gg, 0, none⟩) (kn + 1) cq) (.int .i64 5) (.string ⟨#[]⟩) (.slice none 0 0) (.int .i64 0) (.int .i64 0) (.slice none 0 0); rw [← hcomm] at hfin; unfold sixSet at hfin; (with_reducible exact hfin))
    · have t8 : x1.tmod 8 = 6 := g8
      have m8 : x1 % 8 = 6 := by have := E8.out; omega
      go_wp2_with fail
      go_meet
      exact ⟨⟨nm, mo, ⟨k, strOf x, ns, lo, hi, (.slice none 0 0)⟩⟩ :: yr, ⟨rn, rm, .mk k x nums lo hi []⟩ :: rs, LT.cell (W0 := w2) (i := 7) (val := .slice none 0 0) (y0' := ⟨nm, mo, ⟨k, strOf x, ns, lo, hi, (.slice none 0 0)⟩⟩) (r0' := ⟨rn, rm, .mk k x nums lo hi []⟩) HLT.out HML.out rfl (fun b _ _ _ _ => rfl) rfl (Nat.le_refl _) (by omega) rfl (⟨HNM.out, HWN.out.1, by have := HWN.out.2; simp; omega, HMO.out, (TopP.etree HTOP.out HOK.out (fun b hP _ => Below.heap_setCell _ _ _ _ (by show b ≠ g; intro e; subst e; exact hP.2 rfl)) (by simp [World.setCell]) k lo hi HXB.out (by have := HXL.out; omega)).2⟩), spoilt_short (r0 := ⟨rn, rm, .mk k x nums lo hi kids⟩) HML.out HL5.out (by have := HWN.out.2; simp; try omega) (by have := HTW.out; simp [Tree.tw] at this ⊢; omega), below_set HB2.out HGB.out _ _⟩
    · have t8 : x1.tmod 8 = 7 := g8
      have m8 : x1 % 8 = 7 := by have := E8.out; omega
      obtain ⟨cb, hcb⟩ : ∃ cb : Int, IntKind.u8.wrap x2 = cb := ⟨_, rfl⟩
      have hcr : 0 ≤ cb ∧ cb ≤ 255 := by rw [← hcb, IntKind.wrap_u8]; omega
      have kc := fun (W : World) => conv_byte W cb hcr.1 hcr.2
      have kd := fun (W : World) => conv_byteD W cb hcr.1 hcr.2
      have hn0 : 0 < n := by omega
      have hz1 : (strOf [cb]).size = 1 := rfl
      have hz2 : nm.size ≤ 999 := by rw [HNM.out, strOf_size]; have := HWN.out.2; omega
      go_wp2_with fail
      go_region
      go_wp2_with fail
      go_meet
      rw [show nm ++ strOf [cb] = strOf (rn ++ [cb]) by rw [show nm = strOf rn from HNM.out, str_app4]]
      have hB := (Below.refl (w2.setCell ⟨g, 0, none⟩ (.string (strOf (rn ++ [cb])))).heap.size (w2.setCell ⟨g, 0, none⟩ (.string (strOf (rn ++ [cb]))))).alloc (Nat.le_refl _) (.cells #[.int .u8 cb] 5)
      have hD : Below (w2.setCell ⟨g, 0, none⟩ (.string (strOf (rn ++ [cb])))).heap.size (w2.setCell ⟨g, 0, none⟩ (.string (strOf (rn ++ [cb])))) ((w2.setCell ⟨g, 0, none⟩ (.string (strOf (rn ++ [cb])))).alloc (.cells #[.int .u8 cb] 5)).drew := ⟨hB.os, hB.tape, hB.output, hB.size, hB.block⟩
      have hLL := LT.cell (W0 := w2) (i := 0) (val := .string (strOf (rn ++ [cb]))) (y0' := ⟨strOf (rn ++ [cb]), mo, ⟨k, strOf x, ns, lo, hi, ks⟩⟩) (r0' := ⟨rn ++ [cb], rm, .mk k x nums lo hi kids⟩) HLT.out HML.out rfl (fun b _ _ _ _ => rfl) rfl (Nat.le_refl _) (by omega) rfl (⟨rfl, by intro c hc; simp only [] at hc; rw [List.mem_append] at hc; rcases hc with hc | hc; exact HWN.out.1 c hc; simp at hc; subst hc; exact hcr, by have := HWN.out.2; simp; omega, HMO.out, (TopP.etree HTOP.out HOK.out (fun b hP _ => Below.heap_setCell _ _ _ _ (by show b ≠ g; intro e; subst e; exact hP.2 rfl)) (by simp [World.setCell]) k lo hi HXB.out (by have := HXL.out; omega)).1⟩)
      exact ⟨_, _, hLL.below hD, spoilt_short (r0 := ⟨rn, rm, .mk k x nums lo hi kids⟩) HML.out HL5.out (by have := HWN.out.2; simp; try omega) (by have := HTW.out; simp [Tree.tw] at this ⊢; omega), below_then (below_set HB2.out HGB.out _ _) hD⟩
  case rest =>
    obtain ⟨ys, l', hl, hsh, hb⟩ := hcut
    have HLL := Lib.hid hl
    have HSH := Lib.hid hsh
    have HBW := Lib.hid hb
    clear hl hsh hb
    go_wp2_with fail
    refine (awake_any (HT.out.below HBW.out)).mono ?_
    rintro e w4 ⟨rfl, hb⟩
    have HB4 := Lib.hid (below_then HBW.out hb)
    have HS2 := Lib.hid (same_any (HLL.out.below hb) (HT.out.below HB4.out) HSH.out)
    clear hb
    go_wp2_with fail
    refine HS2.out.mono ?_
    rintro e w5 ⟨rfl, hb⟩
    have HB5 := Lib.hid (below_then HB4.out hb)
    clear hb
    go_wp2_with fail
    go_ret
    exact ⟨rfl, HB5.out⟩

set_option maxRecDepth 100000 in
set_option maxHeartbeats 1000000 in
theorem lifted (os : Os) (started : os.Started) (H : Type) (enc : TypeId × Value → H) :
    ReturnsInHanded {} Tryd.checked os 4 .any (fun w args => (Rows.tellerMadeSpec.pre enc Tryd.prog Tryd.f4 Rows.tellerMadeRow.domain false w args ∧ laidMetH Tryd.prog Rows.tellerMadeRow.laid w) ∧ sizedMet enc Tryd.prog Tryd.f4 (OpenSpec.ofChange Rows.tellerMadeSpec) false w args)
      (Rows.tellerMadeSpec.post enc Tryd.prog Tryd.f4 false true false false) := by
  refine returnsInHanded_of_change_and (C := Tryd.checked) (X := fun w _ => laidMetH Tryd.prog Rows.tellerMadeRow.laid w) (fun _ _ _ hh h => h.of_heap hh) noKnob started (by kernel_rfl) Tryd.func4
    (ChangeSpec.witness_shaped (enc := enc) (C := Tryd.checked) (os := os) (X := fun w _ => laidMetH Tryd.prog Rows.tellerMadeRow.laid w) false (World.laidAll Tryd.prog os Rows.tellerMadeRow.laid) #[.slice none 0 0, .int .u8 0, .int .i64 0] 8 (World.laidAll_os _ _ _)
      (World.shaped_of_ZipB (by kernel_rfl) (by kernel_rfl)) (by kernel_rfl) (by kernel_rfl) (by kernel_rfl)
      (by rw [MakeChecks.laidMetH_plain _ _ _ (by kernel_rfl)]; exact laidMet_laidAll _ (by kernel_rfl) (by kernel_rfl))) ?_
  intro W base args ds gs before hval0 hW hcnd _ hL _
  have hval : ∀ (j : Nat) t v, Tryd.f4.params[j]? = some t → args[j]? = some v → Value.okWide Tryd.prog W .any base t v := hval0
  have hW' := hW
  obtain ⟨p, q, hA0, hV, rfl, hfz, hnd⟩ := hW
  have hA : DataW.TrodAll enc Tryd.prog W 0 (fun _ => true) true Tryd.f4.params.toList args.toList ds p := hA0
  rw [Tryd.params4] at hA hval
  obtain ⟨v0, vs0, d0, ds0, p0, q0, hargs, rfl, rfl, h0, r0⟩ := trodAll_cons hA
  obtain ⟨v1, vs1, d1, ds1, p1, q1, rfl, rfl, rfl, h1, r1⟩ := trodAll_cons r0
  obtain ⟨v2, vs2, d2, ds2, p2, q2, rfl, rfl, rfl, h2, r2⟩ := trodAll_cons r1
  obtain ⟨rfl, rfl, rfl⟩ := trodAll_nil r2
  obtain rfl : args = #[v0, v1, v2] := by cases args; simp_all
  obtain ⟨rfl, rfl⟩ := trodVars_none hV
  clear hA0 hval0 hA
  simp only [List.append_nil] at hW'
  have hlt := hW'.lt
  obtain ⟨z0, b0⟩ := open_bytes (hval 0 26 v0 rfl rfl) h0
  obtain ⟨x1, rfl, rfl, rfl, w1⟩ := open_int Tryd.underlying5 (hval 1 5 v1 rfl rfl) h1
  have b1 := bounds_u8 w1
  obtain ⟨x2, rfl, rfl, rfl, w2⟩ := open_int Tryd.underlying3 (hval 2 3 v2 rfl rfl) h2
  have b2 := bounds_i64 w2
  refine (walk v0 z0 x1 x2 W (tabs_of_laid hL (MakeChecks.laidMetH_plain _ _ _ (by kernel_rfl)) (by kernel_rfl) (by kernel_rfl)) b0 b1 b2).mono fun e W' ⟨he, hg⟩ => ?_
  subst he
  exact ⟨_, rfl, post_of_old (pv := []) hW' (fun _ _ _ => trodAll_cons_mk (shut_bool Tryd.underlying4 _) trodAll_mk0) (trodAll_cons_mk (Below.trod laidOutP (by kernel_rfl) (of_decide_eq_true (by kernel_rfl)) h0 hg (fun x hx => by simpa using hlt x (by simp [hx]))) (trodAll_cons_mk (Below.trod laidOutP (by kernel_rfl) (of_decide_eq_true (by kernel_rfl)) h1 hg (fun x hx => by simp at hx)) (trodAll_cons_mk (Below.trod laidOutP (by kernel_rfl) (of_decide_eq_true (by kernel_rfl)) h2 hg (fun x hx => by simp at hx)) (trodAll_mk0)))) (fun _ => rfl) (by simp) hg⟩

theorem over : Rows.tellerMadeRow.holds Tryd.pinned (OpenSpec.ofChange Rows.tellerMadeSpec) :=
  OpenClaim.holds_of_wide 4 Tryd.f4 rfl rfl rfl rfl rfl rfl rfl ⟨rfl, rfl, rfl, rfl, rfl⟩ rfl rfl rfl rfl rfl (by kernel_rfl) Tryd.func4 (by kernel_rfl)
    (of_decide_eq_true (by kernel_rfl)) (by unfold Func.isWrapper; first | (rw [if_pos (by decide +kernel)]; kernel_rfl) | (rw [if_neg (by decide +kernel)]; exact ⟨rfl, rfl⟩))
    (fun os started H enc _ => lifted os started H enc)

/-- No parameter wants a stand-in. -/
theorem plain (f : FuncId) (fn : Func) (hf : Tryd.pinned.checked.prog.funcNamed "reglet/regletlaw04.TellerMade" = some f) (hfn : Tryd.pinned.checked.prog.funcs[f]? = some fn) :
    false = Tryd.pinned.checked.prog.looks [] ∧ ∀ (j : Nat) t, fn.params[j]? = some t → Tryd.pinned.checked.prog.wantsStandIn t = false := by
  obtain rfl : f = 4 := Option.some.inj ((show Tryd.prog.funcNamed "reglet/regletlaw04.TellerMade" = some 4 by kernel_rfl).symm.trans hf) |>.symm
  obtain rfl : fn = Tryd.f4 := (Option.some.inj (Tryd.func4.symm.trans hfn)).symm
  refine ⟨by kernel_rfl, fun j t ht => ?_⟩
  rw [Tryd.params4] at ht
  have hm : t ∈ [26, 5, 3] := by simpa using Array.mem_of_getElem? ht
  have hall : ([26, 5, 3].all fun u => !Tryd.prog.wantsStandIn u) = true := by kernel_rfl
  exact (show Tryd.prog.wantsStandIn t = false by simpa using List.all_eq_true.1 hall t hm)

/-- The statement. -/
theorem proved : Rows.TellerMadeCardSaid :=
  Claim7.holds_tied_plain_at .later [] _ _ _ _ over (fun _ h => by cases h) (by kernel_rfl) (fun _ h => by cases h) tellerMade_row_tie rfl ⟨rfl, rfl⟩ (by kernel_rfl) rfl plain (by kernel_rfl)

#print axioms proved
end Go.Proofs.YtddbaacibdmnaaaDoor.tellerMade
