/- How much there is in rules, as the law counts it. No condition. -/
import Derived.Test.YtfoohffeccgkeaaDoorTOpen
import Derived.Test.YtfoohffeccgkeaaDoorTTell
import Derived.Deep.RegionLaw
import Derived.StillTailTactics
import Derived.Deep.CutRange
namespace Go.Proofs.YtfoohffeccgkeaaDoor
open Go.RowKit
set_option linter.unusedVariables false
set_option linter.unusedSimpArgs false

def sw (l : List Tree) : Nat := (l.map Tree.tw).sum
theorem tw_pos (t : Tree) : 1 ≤ t.tw := by
  obtain ⟨k, x, ns, lo, hi, kids⟩ := t
  rw [Tree.tw]
  omega
theorem sw_len : ∀ l : List Tree, l.length ≤ sw l
  | [] => by simp [sw]
  | t :: l => by
    have := sw_len l
    have := tw_pos t
    simp only [sw, List.map_cons, List.sum_cons, List.length_cons] at *
    omega
theorem sw_take {l : List Tree} {i : Nat} {t : Tree} (h : l[i]? = some t) : sw (l.take (i + 1)) = sw (l.take i) + t.tw := by
  unfold sw
  rw [List.take_add_one, h]
  simp
theorem sw_le (l : List Tree) (i : Nat) : sw (l.take i) ≤ sw l := by
  have h : sw l = sw (l.take i) + sw (l.drop i) := by
    unfold sw
    rw [← List.sum_append, ← List.map_append, List.take_append_drop]
  omega

def WtS (w : World) (g o : Nat) (s : ByteArray) (ns ks : Value) (W : World) : Prop :=
  (W.cell? ⟨g, o + 1, none⟩ = some (.string s) ∧ W.cell? ⟨g, o + 2, none⟩ = some ns ∧ W.cell? ⟨g, o + 5, none⟩ = some ks) ∧ Below w.heap.size w W
theorem WtS.step {w : World} {g o : Nat} {s : ByteArray} {ns ks : Value} {W W' : World} (hb : Below W.heap.size W W') (h : WtS w g o s ns ks W) : WtS w g o s ns ks W' :=
  ⟨⟨cell_below h.1.1 hb, cell_below h.1.2.1 hb, cell_below h.1.2.2 hb⟩, below_then h.2 hb⟩
theorem WtS.drew {w : World} {g o : Nat} {s : ByteArray} {ns ks : Value} {W : World} (h : WtS w g o s ns ks W) : WtS w g o s ns ks W.drew := ⟨h.1, below_drawn h.2 1⟩

/-- The call counts so much. -/
def Counts (n : Nat) (w : World) (e : Ending) (w' : World) : Prop := e = .returned (.int .i64 (n : Int)) ∧ Below w.heap.size w w'

set_option maxRecDepth 100000 in
set_option maxHeartbeats 8000000 in
theorem weight_all : ∀ (k : Nat) (w : World) (v : Value) (vs : List XV) (l : List Tree), KidsE w v vs l → sw l ≤ k → k ≤ 2000000 → Calls Tryd.prog 10 #[v] w (Counts (sw l) w) := by
  intro k
  induction k using Nat.strongRecOn with
  | _ k ih =>
  intro w v vs l h hk hk2
  obtain ⟨h1, h2, h3⟩ := h
  have H2 := Lib.hid h2
  have H3 := Lib.hid h3
  have IH := Lib.hid ih
  obtain ⟨n, hnn⟩ : ∃ n, n = l.length := ⟨_, rfl⟩
  obtain ⟨N, hN⟩ : ∃ N, N = sw l := ⟨_, rfl⟩
  have hlen := sw_len l
  rw [← hnn] at h1
  rw [← hnn, ← hN] at hlen
  rw [← hN] at hk ⊢
  have HNN := Lib.hid hnn
  have HN := Lib.hid hN
  have hN2 : N ≤ 2000000 := by omega
  clear h2 h3 ih hnn hN
  rcases h1 with ⟨h0, a, cap, rfl⟩ | ⟨g, off, cap, rfl, g1, g2, g3, g4⟩
  · have hx0 : l = [] := List.length_eq_zero_iff.1 (by rw [← HNN.out]; exact h0)
    subst h0
    subst hx0
    obtain rfl : N = 0 := by rw [HN.out]; rfl
    go_enter Tryd.func10, Tryd.ntmps10
    go_wp2_with fail
    go_loop [3, 4] (fun s v => s = .int .i64 0 ∧ v = .int .i64 0) (fun _ _ => 0)
    case atStart => exact ⟨rfl, rfl⟩
    case round =>
      obtain ⟨rfl, rfl⟩ := hrel
      go_wp2_with fail
      go_ret
      exact ⟨rfl, Below.refl _ _⟩
  · have G4 := Lib.hid g4
    unfold maxLen at g2
    clear g4
    have HB0 := Lib.hid (Below.refl w.heap.size w)
    go_enter Tryd.func10, Tryd.ntmps10
    go_wp2_with fail
    go_loopw [3, 4] (fun s v wr => ∃ (i m : Nat), s = .int .i64 m ∧ v = .int .i64 i ∧ i ≤ n ∧ Hid (m + i = n + sw (l.take i)) ∧ Hid (Below w.heap.size w wr)) (fun _ v _ => n - (intOf v).toNat)
    case atStart => exact ⟨0, n, rfl, rfl, by omega, by simp [Hid, sw], HB0⟩
    case round =>
      obtain ⟨i, m, rfl, rfl, hi, HM, HBEL⟩ := hrel
      have hm0 := HM.out
      have hm1 := sw_le l i
      rw [← HN.out] at hm1
      by_cases hlt : i < n
      · obtain ⟨Y, hY⟩ : ∃ y, vs[i]? = some y := ⟨_, List.getElem?_eq_getElem (by rw [H2.out, ← HNN.out]; exact hlt)⟩
        obtain ⟨t, ht⟩ : ∃ y, l[i]? = some y := ⟨_, List.getElem?_eq_getElem (by rw [← HNN.out]; exact hlt)⟩
        have CX : ∀ (j : Nat) (u : Value), j < 6 → Y.cells[j]? = some u → wr.cell? ⟨g, off + (i * 6 + j), none⟩ = some u := fun j u hj hu =>
          (HBEL.out.cell (p := ⟨g, off + (i * 6 + j), none⟩) g3).trans (G4.out _ u ((flat_at vs i j Y hY hj).trans hu))
        have hE := H3.out i Y t hY ht
        have hsw := sw_take ht
        have hs2 := sw_le l (i + 1)
        rw [hsw, ← HN.out] at hs2
        obtain ⟨x, ns, lo, hi', kids, ks, kv, nv, k', hYe, hte, k1, k2, k3⟩ : ∃ (x ns : List Int) (lo hi' : Int) (kids : List Tree) (ks : List XV) (kv nv : Value) (k' : Int), Y = ⟨k', strOf x, nv, lo, hi', kv⟩ ∧ t = .mk k' x ns lo hi' kids ∧ KidsE w kv ks kids ∧ RowAny w nv ns.length (icells ns) ∧ x.length ≤ 9223372036854775807 := by
          cases hE with
          | mk vs a1 a2 a3 a4 a5 a6 => exact ⟨_, _, _, _, _, _, _, _, _, rfl, rfl, ⟨a4, a5, a6⟩, a3, a2⟩
        subst hYe
        have htw : t.tw = 1 + x.length + ns.length + sw kids := by rw [hte, Tree.tw]; rfl
        have e1 := CX 1 _ (by omega) rfl
        have e2 := CX 2 _ (by omega) rfl
        have e5 := CX 5 _ (by omega) rfl
        rw [← Nat.add_assoc] at e1 e2 e5
        simp only [] at e1 e2 e5
        obtain ⟨a3, c3, hnv, _⟩ := k2.slice
        obtain ⟨a5, c5, hkv, _⟩ := k1.1.slice
        have HK := Lib.hid (fun W (hb : Below w.heap.size w W) => IH.out (sw kids) (by omega) W kv ks kids (k1.below hb) (Nat.le_refl _) (by omega))
        have hsz : (strOf x).size = x.length := strOf_size x
        obtain ⟨s, hs⟩ : ∃ s, s = strOf x := ⟨_, rfl⟩
        obtain ⟨K, hK⟩ : ∃ K, K = sw kids := ⟨_, rfl⟩
        obtain ⟨nl, hnl⟩ : ∃ q, q = ns.length := ⟨_, rfl⟩
        obtain ⟨kl, hkl⟩ : ∃ q, q = kids.length := ⟨_, rfl⟩
        rw [← hs] at e1 hsz
        rw [← hsz] at htw
        rw [← hK] at HK htw
        rw [← hnl] at hnv htw
        rw [← hkl] at hkv
        subst hnv hkv
        have hsz2 : s.size ≤ 2000000 := by omega
        have hnl2 : nl ≤ 2000000 := by omega
        have hK2 : K ≤ 2000000 := by omega
        have hm2 : m ≤ 4000000 := by omega
        have HNX := Lib.hid (show (m + s.size + nl + K) + (i + 1) = n + sw (l.take (i + 1)) by omega)
        have HWR := Lib.hid (show IntKind.i64.wrap (IntKind.i64.wrap (IntKind.i64.wrap ((m : Int) + (s.size : Int)) + (nl : Int)) + (K : Int)) = ((m + s.size + nl + K : Nat) : Int) by
          rw [IntWalk.i64_in ((m : Int) + (s.size : Int)) ⟨by omega, by omega⟩, IntWalk.i64_in ((m : Int) + (s.size : Int) + (nl : Int)) ⟨by omega, by omega⟩, IntWalk.i64_in ((m : Int) + (s.size : Int) + (nl : Int) + (K : Int)) ⟨by omega, by omega⟩]
          omega)
        clear CX hY ht hE k1 k2 k3 hte htw hsw hs2 hm0 hm1 hs hK hnl hkl hsz
        go_wp2_with fail
        go_region_held3 (fun W' => (W'.cell? ⟨g, off + i * 6 + 1, none⟩ = some (.string s) ∧ W'.cell? ⟨g, off + i * 6 + 2, none⟩ = some (.slice a3 nl c3) ∧ W'.cell? ⟨g, off + i * 6 + 5, none⟩ = some (.slice a5 kl c5)) ∧ Below w.heap.size w W')
          (first | exact WtS.step (by assumption) (by assumption) | exact WtS.drew (by assumption) | exact ⟨⟨by assumption, by assumption, by assumption⟩, below_drawn HBEL.out 1⟩)
          (first | (go_at_call 10; refine (HK.out _ (And.right (by assumption))).mono ?_; rintro e w' ⟨rfl, hb'⟩))
        rename_i hS
        have HB2 := Lib.hid hS.2
        clear hS e1 e2 e5
        go_wp2_with fail
        go_roundw
        case rel => exact ⟨i + 1, m + s.size + nl + K, by first | (exact congrArg (Value.int .i64) HWR.out) | go_num, by go_num, by omega, HNX, HB2⟩
        case measure => simp [intOf]; omega
      · have hin : i = n := by omega
        subst hin
        have hmN : m = N := by
          rw [HN.out]
          have e : l.take i = l := List.take_of_length_le (by rw [← HNN.out]; omega)
          rw [e] at hm0
          omega
        subst hmN
        go_wp2_with fail
        go_ret
        exact ⟨rfl, HBEL.out⟩


def lw (l : List Rule) : Nat := (l.map ruleW).sum
theorem lw_take {l : List Rule} {i : Nat} {t : Rule} (h : l[i]? = some t) : lw (l.take (i + 1)) = lw (l.take i) + ruleW t := by
  unfold lw
  rw [List.take_add_one, h]
  simp
theorem lw_le (l : List Rule) (i : Nat) : lw (l.take i) ≤ lw l := by
  have h : lw l = lw (l.take i) + lw (l.drop i) := by
    unfold lw
    rw [← List.sum_append, ← List.map_append, List.take_append_drop]
  omega

/-- One expression in a block just made. -/
theorem kids_one {W : World} {X : XV} {t : Tree} (hE : ETree W X t) : KidsE ((W.alloc (xobj X.kind X.lo X.hi X.text X.ns X.ks)).drew) (.slice (some ⟨W.heap.size, 0, none⟩) 1 1) [X] [t] := by
  have hb : Below W.heap.size W ((W.alloc (xobj X.kind X.lo X.hi X.text X.ns X.ks)).drew) := below_drawn ((Below.refl _ _).alloc (Nat.le_refl _) _) 1
  refine ⟨?_, rfl, fun i y u hy hu => ?_⟩
  · have h := RowAny.of_block (W := (W.alloc (xobj X.kind X.lo X.hi X.text X.ns X.ks)).drew) (g := W.heap.size) (n := 1) (cs := #[.int .i64 X.kind, .string X.text, X.ns, .int .i64 X.lo, .int .i64 X.hi, X.ks]) (t := 29) (heap_alloc_new W _) (by omega)
    exact h
  · cases i with
    | zero =>
      simp at hy hu
      subst hy hu
      exact hE.under hb
    | succ i => simp at hy

set_option maxRecDepth 100000 in
set_option maxHeartbeats 8000000 in
theorem Weight_any {w : World} {v : Value} {vs : List LV} {l : List Rule} (h : LinesE w v vs l) (hN2 : lw l ≤ 1048576) : Calls Tryd.prog 5 #[v] w (Counts (lw l) w) := by
  obtain ⟨h1, h2, h3⟩ := h
  have H2 := Lib.hid h2
  have H3 := Lib.hid h3
  obtain ⟨n, hnn⟩ : ∃ n, n = l.length := ⟨_, rfl⟩
  obtain ⟨N, hN⟩ : ∃ N, N = lw l := ⟨_, rfl⟩
  rw [← hnn] at h1
  rw [← hN] at hN2 ⊢
  have HNN := Lib.hid hnn
  have HN := Lib.hid hN
  clear h2 h3 hnn hN
  rcases h1 with ⟨h0, a, cap, rfl⟩ | ⟨g, off, cap, rfl, g1, g2, g3, g4⟩
  · have hx0 : l = [] := List.length_eq_zero_iff.1 (by rw [← HNN.out]; exact h0)
    subst h0
    subst hx0
    obtain rfl : N = 0 := by rw [HN.out]; rfl
    go_enter Tryd.func5, Tryd.ntmps5
    go_wp2_with fail
    go_loop [3, 4] (fun s v => s = .int .i64 0 ∧ v = .int .i64 0) (fun _ _ => 0)
    case atStart => exact ⟨rfl, rfl⟩
    case round =>
      obtain ⟨rfl, rfl⟩ := hrel
      go_wp2_with fail
      go_ret
      exact ⟨rfl, Below.refl _ _⟩
  · have G4 := Lib.hid g4
    unfold maxLen at g2
    clear g4
    have HB0 := Lib.hid (Below.refl w.heap.size w)
    go_enter Tryd.func5, Tryd.ntmps5
    go_wp2_with fail
    go_loopw [3, 4] (fun s v wr => ∃ (i m : Nat), s = .int .i64 m ∧ v = .int .i64 i ∧ i ≤ n ∧ Hid (m = lw (l.take i)) ∧ Hid (Below w.heap.size w wr)) (fun _ v _ => n - (intOf v).toNat)
    case atStart => exact ⟨0, 0, rfl, rfl, by omega, by simp [Hid, lw], HB0⟩
    case round =>
      obtain ⟨i, m, rfl, rfl, hi, HM, HBEL⟩ := hrel
      have hm0 := HM.out
      have hm1 := lw_le l i
      rw [← HN.out] at hm1
      by_cases hlt : i < n
      · obtain ⟨Y, hY⟩ : ∃ y, vs[i]? = some y := ⟨_, List.getElem?_eq_getElem (by rw [H2.out, ← HNN.out]; exact hlt)⟩
        obtain ⟨t, ht⟩ : ∃ y, l[i]? = some y := ⟨_, List.getElem?_eq_getElem (by rw [← HNN.out]; exact hlt)⟩
        have CX : ∀ (j : Nat) (u : Value), j < 8 → Y.cells[j]? = some u → wr.cell? ⟨g, off + (i * 8 + j), none⟩ = some u := fun j u hj hu =>
          (HBEL.out.cell (p := ⟨g, off + (i * 8 + j), none⟩) g3).trans (G4.out _ u ((flatL4_at vs i j Y hY hj).trans hu))
        have hL := (H3.out i Y t hY ht).under HBEL.out
        have hgw : g < wr.heap.size := Nat.lt_of_lt_of_le g3 HBEL.out.size
        have hsw := lw_take ht
        have hs2 := lw_le l (i + 1)
        rw [hsw, ← HN.out] at hs2
        have htw : ruleW t = 1 + t.name.length + t.expr.tw := rfl
        obtain ⟨en, hc, hl, em, hE⟩ := hL
        have hsz : Y.name.size = t.name.length := by rw [en, strOf_size]
        rw [← hsz] at htw
        obtain ⟨K, hK⟩ : ∃ K, K = t.expr.tw := ⟨_, rfl⟩
        have HK := Lib.hid (weight_all 2000000 _ _ _ _ (kids_one hE) (by simp [sw]; omega) (Nat.le_refl _))
        have hKs : sw [t.expr] = K := by rw [hK]; simp [sw]
        rw [hKs] at HK
        rw [← hK] at htw
        obtain ⟨nm, mo, ⟨k, s, nv, lo, hi', kv⟩⟩ := Y
        simp only [] at hsz htw HK
        have e0 := CX 0 _ (by omega) rfl
        have e2 := CX 2 _ (by omega) rfl
        have e3 := CX 3 _ (by omega) rfl
        have e4 := CX 4 _ (by omega) rfl
        have e5 := CX 5 _ (by omega) rfl
        have e6 := CX 6 _ (by omega) rfl
        have e7 := CX 7 _ (by omega) rfl
        rw [← Nat.add_assoc] at e0 e2 e3 e4 e5 e6 e7
        rw [Nat.add_zero] at e0
        simp only [] at e0 e2 e3 e4 e5 e6 e7
        have hb1 : Below w.heap.size w ((wr.alloc (xobj k lo hi' s nv kv)).drew) := below_drawn (HBEL.out.alloc HBEL.out.size _) 1
        have HB1 := Lib.hid hb1
        have f0 : (wr.alloc (xobj k lo hi' s nv kv)).cell? ⟨g, off + i * 8, none⟩ = some (.string nm) := cell_alloc e0 _
        have F0 : Hid (((wr.alloc (xobj k lo hi' s nv kv)).drew).cell? ⟨g, off + i * 8, none⟩ = some (.string nm)) := f0
        unfold xobj at f0
        have hnm2 : nm.size ≤ 2000000 := by omega
        have hK2 : K ≤ 2000000 := by omega
        have hm2 : m ≤ 2000000 := by omega
        have HNX := Lib.hid (show m + 1 + nm.size + K = lw (l.take (i + 1)) by omega)
        have HWR := Lib.hid (show IntKind.i64.wrap (IntKind.i64.wrap (IntKind.i64.wrap ((m : Int) + 1) + (nm.size : Int)) + (K : Int)) = ((m + 1 + nm.size + K : Nat) : Int) by
          rw [IntWalk.i64_in ((m : Int) + 1) ⟨by omega, by omega⟩, IntWalk.i64_in ((m : Int) + 1 + (nm.size : Int)) ⟨by omega, by omega⟩, IntWalk.i64_in ((m : Int) + 1 + (nm.size : Int) + (K : Int)) ⟨by omega, by omega⟩]
          omega)
        obtain ⟨M, hM⟩ : ∃ M, M = m + 1 + nm.size + K := ⟨_, rfl⟩
        rw [← hM] at HNX HWR
        unfold xobj at HK HB1 F0
        clear CX hY ht en hc hl em hE htw hsw hs2 hm0 hm1 hK hKs hsz hb1
        go_wp2_with fail
        go_region_law (first
          | ((try go_simp); go_at_call 10; (with_reducible (refine HK.out.mono ?_)); rintro e w2 ⟨rfl, hb'⟩; have F2 : w2.cell? ⟨g, off + i * 8, none⟩ = some (.string nm) := cell_below (j := off + i * 8) F0.out hb'; have HB2 := Lib.hid (below_then HB1.out hb'); clear hb')
          | fail)
        all_goals
          trace_state
          go_wp2_with fail
          go_roundw
          case rel => exact ⟨i + 1, M, by first | (exact congrArg (Value.int .i64) HWR.out) | go_num, by go_num, by omega, HNX, HB2⟩
          case measure => simp [intOf]; omega
      · have hin : i = n := by omega
        subst hin
        have hmN : m = N := by
          rw [HN.out]
          have e : l.take i = l := List.take_of_length_le (by rw [← HNN.out]; omega)
          rw [e] at hm0
          exact hm0
        subst hmN
        go_wp2_with fail
        go_ret
        exact ⟨rfl, HBEL.out⟩

end Go.Proofs.YtfoohffeccgkeaaDoor
