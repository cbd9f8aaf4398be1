/- The document's teller: the text of every expression that may be. -/
import Derived.Test.YtfoohffeccgkeaaDoorTRefText
import Derived.Deep.RegionHeld3
namespace Go.Proofs.YtfoohffeccgkeaaDoor
open Go.RowKit
set_option linter.unusedVariables false
set_option linter.unusedSimpArgs false

def FewS (w : World) (k : Int) (kv : Value) (g o : Nat) (k' lo' hi' : Int) (s : ByteArray) (ns' ks' : Value) (W : World) : Prop :=
  (W.cell? ⟨w.heap.size, 0, none⟩ = some (.int .i64 k) ∧ W.cell? ⟨w.heap.size, 5, none⟩ = some kv) ∧
  (W.cell? ⟨g, o, none⟩ = some (.int .i64 k') ∧ W.cell? ⟨g, o + 1, none⟩ = some (.string s) ∧ W.cell? ⟨g, o + 2, none⟩ = some ns' ∧ W.cell? ⟨g, o + 3, none⟩ = some (.int .i64 lo') ∧ W.cell? ⟨g, o + 4, none⟩ = some (.int .i64 hi') ∧ W.cell? ⟨g, o + 5, none⟩ = some ks') ∧ Below w.heap.size w W
theorem FewS.step {w : World} {k : Int} {kv : Value} {g o : Nat} {k' lo' hi' : Int} {s : ByteArray} {ns' ks' : Value} {W W' : World} (hb : Below W.heap.size W W') (h : FewS w k kv g o k' lo' hi' s ns' ks' W) : FewS w k kv g o k' lo' hi' s ns' ks' W' :=
  ⟨⟨cell_below h.1.1 hb, cell_below h.1.2 hb⟩, ⟨cell_below h.2.1.1 hb, cell_below h.2.1.2.1 hb, cell_below h.2.1.2.2.1 hb, cell_below h.2.1.2.2.2.1 hb, cell_below h.2.1.2.2.2.2.1 hb, cell_below h.2.1.2.2.2.2.2 hb⟩, below_then h.2.2 hb⟩
theorem FewS.drew {w : World} {k : Int} {kv : Value} {g o : Nat} {k' lo' hi' : Int} {s : ByteArray} {ns' ks' : Value} {W : World} (h : FewS w k kv g o k' lo' hi' s ns' ks' W) : FewS w k kv g o k' lo' hi' s ns' ks' W.drew := ⟨h.1, h.2.1, below_drawn h.2.2 1⟩
theorem FewS.bel {w : World} {k : Int} {kv : Value} {g o : Nat} {k' lo' hi' : Int} {s : ByteArray} {ns' ks' : Value} {W : World} (h : FewS w k kv g o k' lo' hi' s ns' ks' W) : Below w.heap.size w W := h.2.2
theorem RowAny.at4 {W : World} {c : Option Addr} {n cap : Nat} {xs : List Value} (h : RowAny W (.slice c n cap) n xs) (hn : 0 < n) : ∃ g off, c = some ⟨g, off, none⟩ ∧ n ≤ cap ∧ g < W.heap.size ∧ ∀ (j : Nat) (u : Value), xs[j]? = some u → W.cell? ⟨g, off + j, none⟩ = some u := by
  rcases h with ⟨h0, _⟩ | ⟨g, off, cap', hv, h1, h2, h3, h4⟩
  · omega
  · injection hv with e1 e2 e3
    subst e1 e3
    exact ⟨g, off, rfl, h1, h3, h4⟩

set_option maxRecDepth 100000 in
set_option maxHeartbeats 8000000 in
theorem few4_1 {d : Nat} (ih : Text4To d) {w : World} {S0 : ByteArray} {kids : List Tree} {vs : List XV} {lo hi : Int} {a c : Option Addr} {m ca n0 cc : Nat} (h2 : KidsE w (.slice c kids.length cc) vs kids) (hr : ∀ t ∈ kids, rightF d t = true) (hn1 : 2 ≤ kids.length) (hn2 : kids.length ≤ 9223372036854775807)
    (hl : ([] ++ sepT [32, 47, 32] (kids.map (fun t : Tree => brT (t.kind == 1) (textF d t)))).length ≤ 1000000000000) :
    Calls Tryd.prog 22 #[.agg #[.int .i64 1, .string S0, .slice a m ca, .int .i64 lo, .int .i64 hi, .slice c kids.length cc]] w (GivesS ([] ++ sepT [32, 47, 32] (kids.map (fun t : Tree => brT (t.kind == 1) (textF d t)))) w) := by
  obtain ⟨r1, r2, r3⟩ := h2
  obtain ⟨g, off, rfl, g1, g3, g4⟩ := r1.at4 (by omega)
  obtain ⟨n, hnn⟩ : ∃ n, n = kids.length := ⟨_, rfl⟩
  rw [← hnn] at g1 hn1 hn2 r2 ⊢
  have HNN := Lib.hid hnn
  have G4 := Lib.hid g4
  have HR2 := Lib.hid r2
  have HR3 := Lib.hid r3
  have HR := Lib.hid hr
  have HL := Lib.hid hl
  have HIH := Lib.hid ih
  have hA := BoxIn.new w 1 lo hi S0 (.slice a m ca) (.slice (some ⟨g, off, none⟩) n cc)
  unfold xobj at hA
  have HA0 := Lib.hid hA
  clear hnn g4 hr hl hA r1 r2 r3 ih
  go_enter Tryd.func22, Tryd.ntmps22
  go_wp2_with fail
  go_loopw [3, 4] (fun s v wr => ∃ (i : Nat) (T : ByteArray), s = .string T ∧ v = .int .i64 i ∧ i ≤ n ∧ T.size ≤ 1000000000000 ∧ Hid (T = strOf ([] ++ sepT [32, 47, 32] ((kids.map (fun t : Tree => brT (t.kind == 1) (textF d t))).take i))) ∧ Hid (BoxIn w wr 1 lo hi S0 (.slice a m ca) (.slice (some ⟨g, off, none⟩) n cc))) (fun _ v _ => n - (intOf v).toNat)
  case atStart => exact ⟨0, _, rfl, rfl, by omega, by decide, rfl, HA0⟩
  case round =>
    obtain ⟨i, T, rfl, rfl, hi', hT, HT, HA⟩ := hrel
    obtain ⟨a0, a1, a2, a3, a4, a5⟩ := HA.out.arg.cells
    by_cases hlt : i < n
    · obtain ⟨Y, hY⟩ : ∃ y, vs[i]? = some y := ⟨_, List.getElem?_eq_getElem (by rw [HR2.out]; exact hlt)⟩
      obtain ⟨t, ht⟩ : ∃ y, kids[i]? = some y := ⟨_, List.getElem?_eq_getElem (by rw [← HNN.out]; exact hlt)⟩
      have CX : ∀ (j : Nat) (u : Value), j < 6 → Y.cells[j]? = some u → wr.cell? ⟨g, off + (i * 6 + j), none⟩ = some u := fun j u hj hu =>
        (HA.out.below.cell (p := ⟨g, off + (i * 6 + j), none⟩) g3).trans (G4.out _ u ((flat_at vs i j Y hY hj).trans hu))
      have hYt := HR3.out i Y t hY ht
      have hx : (kids.map (fun t : Tree => brT (t.kind == 1) (textF d t)))[i]? = some (brT (t.kind == 1) (textF d t)) := by rw [List.getElem?_map, ht]; rfl
      have hnx := pre_next [] [32, 47, 32] _ i _ hx
      have hle := pre_le [] [32, 47, 32] (kids.map (fun t : Tree => brT (t.kind == 1) (textF d t))) (i + 1)
      have hel : (brT (t.kind == 1) (textF d t)).length ≤ 1000000000000 := by
        have h1 := Nat.le_trans hle HL.out
        rw [hnx] at h1
        simp only [List.length_append] at h1
        omega
      have htl := Nat.le_trans (le_br (t.kind == 1) (textF d t)) hel
      have HI := Lib.hid (fun W' (hb : Below w.heap.size w W') => inner4_any HIH.out (hYt.under hb) (HR.out t (List.mem_of_getElem? ht)) htl true false false)
      have ebr : ((t.kind == 1 && true) || (t.kind == 2 && false) || (t.kind == 3 && false)) = (t.kind == 1) := by cases (t.kind == 1) <;> cases (t.kind == 2) <;> cases (t.kind == 3) <;> rfl
      rw [ebr] at HI
      obtain ⟨E, hE⟩ : ∃ E, E = strOf (brT (t.kind == 1) (textF d t)) := ⟨_, rfl⟩
      have hEs : E.size ≤ 1000000000000 := by rw [hE, strOf_size]; exact hel
      have HI2 : Hid (∀ W', Below w.heap.size w W' → Calls Tryd.prog 37 #[Y.val, .bool true, .bool false, .bool false] W' (fun e w' => e = .returned (.string E) ∧ Below W'.heap.size W' w')) := by rw [hE]; exact HI
      obtain ⟨k', s', nv', lo', hi'', kv'⟩ := Y
      have e0 := CX 0 _ (by omega) rfl
      have e1 := CX 1 _ (by omega) rfl
      have e2 := CX 2 _ (by omega) rfl
      have e3 := CX 3 _ (by omega) rfl
      have e4 := CX 4 _ (by omega) rfl
      have e5 := CX 5 _ (by omega) rfl
      rw [← Nat.add_assoc] at e0 e1 e2 e3 e4 e5
      rw [Nat.add_zero] at e0
      clear CX ebr htl hel
      by_cases hi0 : i = 0
      · subst hi0
        rw [Nat.zero_mul, Nat.add_zero] at e0 e1 e2 e3 e4 e5
        have HNX := Lib.hid (show T ++ E = strOf ([] ++ sepT [32, 47, 32] ((kids.map (fun t : Tree => brT (t.kind == 1) (textF d t))).take (0 + 1))) by
          rw [HT.out, hE, hnx, str_app4, if_pos rfl, List.append_nil])
        have HSZ := Lib.hid (show (T ++ E).size ≤ 1000000000000 by rw [HNX.out, strOf_size]; exact Nat.le_trans hle HL.out)
        have hsz2 : T.size ≤ 1000000000003 := by omega
        have hadd : ∀ W : World, (Op.stringOp .add T E).run Tryd.prog W = .ok (.string (T ++ E)) W := fun W => run_string_add_sum W _ _ (by omega)
        clear hx hnx hle hE HI hY ht hYt
        go_wp2_with fail
        go_region_held3 (fun W => (W.cell? ⟨w.heap.size, 0, none⟩ = some (.int .i64 1) ∧ W.cell? ⟨w.heap.size, 5, none⟩ = some (.slice (some ⟨g, off, none⟩) n cc)) ∧
            (W.cell? ⟨g, off, none⟩ = some (.int .i64 k') ∧ W.cell? ⟨g, off + 1, none⟩ = some (.string s') ∧ W.cell? ⟨g, off + 2, none⟩ = some nv' ∧ W.cell? ⟨g, off + 3, none⟩ = some (.int .i64 lo') ∧ W.cell? ⟨g, off + 4, none⟩ = some (.int .i64 hi'') ∧ W.cell? ⟨g, off + 5, none⟩ = some kv') ∧ Below w.heap.size w W)
          (first | exact FewS.step (by assumption) (by assumption) | exact FewS.drew (by assumption) | exact ⟨⟨by assumption, by assumption⟩, ⟨by assumption, by assumption, by assumption, by assumption, by assumption, by assumption⟩, below_drawn HA.out.below 1⟩)
          (first | (go_at_call 37; refine (HI2.out _ (FewS.bel (by assumption))).mono ?_; rintro e w' ⟨rfl, hb'⟩; have HBX := Lib.hid hb'))
        rename_i hS
        have HA2 : Hid (BoxIn w _ 1 lo hi S0 (.slice a m ca) (.slice (some ⟨g, off, none⟩) n cc)) := ((HA.out.under (below_drawn (Below.refl _ _) 1)).under HBX.out)
        clear hS a0 a1 a2 a3 a4 a5 e0 e1 e2 e3 e4 e5 hb'
        go_wp2_with fail
        go_roundw
        case rel => exact ⟨0 + 1, _, rfl, by go_num, by omega, HSZ.out, HNX, HA2⟩
        case measure => simp [intOf]; omega
      · have hip : 0 < i := by omega
        have qip : decide ((0 : Int) < (i : Int)) = true := decide_eq_true (by omega)
        have qip2 : decide (0 < i) = true := decide_eq_true hip
        have HNX := Lib.hid (show ((T ++ (⟨#[32, 47]⟩ : ByteArray)) ++ (⟨#[32]⟩ : ByteArray)) ++ E = strOf ([] ++ sepT [32, 47, 32] ((kids.map (fun t : Tree => brT (t.kind == 1) (textF d t))).take (i + 1))) by
          rw [HT.out, hE, hnx, show (⟨#[32, 47]⟩ : ByteArray) = strOf [32, 47] from rfl, show (⟨#[32]⟩ : ByteArray) = strOf [32] from rfl, str_app4, str_app4, str_app4, if_neg hi0, List.append_assoc _ [32, 47] [32]]; rfl)
        have HSZ := Lib.hid (show (((T ++ (⟨#[32, 47]⟩ : ByteArray)) ++ (⟨#[32]⟩ : ByteArray)) ++ E).size ≤ 1000000000000 by rw [HNX.out, strOf_size]; exact Nat.le_trans hle HL.out)
        have hsz2 : ((T ++ (⟨#[32, 47]⟩ : ByteArray)) ++ (⟨#[32]⟩ : ByteArray)).size ≤ 1000000000003 := by rw [ByteArray.size_append, ByteArray.size_append]; show T.size + 2 + 1 ≤ _; omega
        have hadd : ∀ W : World, (Op.stringOp .add ((T ++ (⟨#[32, 47]⟩ : ByteArray)) ++ (⟨#[32]⟩ : ByteArray)) E).run Tryd.prog W = .ok (.string (((T ++ (⟨#[32, 47]⟩ : ByteArray)) ++ (⟨#[32]⟩ : ByteArray)) ++ E)) W := fun W => run_string_add_sum W _ _ (by omega)
        have hsz3 : (T ++ (⟨#[32, 47]⟩ : ByteArray)).size ≤ 1000000000002 := by rw [ByteArray.size_append]; show T.size + 2 ≤ _; omega
        clear hx hnx hle hE HI hY ht hYt
        go_wp2_with fail
        go_region_held3 (fun W => (W.cell? ⟨w.heap.size, 0, none⟩ = some (.int .i64 1) ∧ W.cell? ⟨w.heap.size, 5, none⟩ = some (.slice (some ⟨g, off, none⟩) n cc)) ∧
            (W.cell? ⟨g, off + i * 6, none⟩ = some (.int .i64 k') ∧ W.cell? ⟨g, off + i * 6 + 1, none⟩ = some (.string s') ∧ W.cell? ⟨g, off + i * 6 + 2, none⟩ = some nv' ∧ W.cell? ⟨g, off + i * 6 + 3, none⟩ = some (.int .i64 lo') ∧ W.cell? ⟨g, off + i * 6 + 4, none⟩ = some (.int .i64 hi'') ∧ W.cell? ⟨g, off + i * 6 + 5, none⟩ = some kv') ∧ Below w.heap.size w W)
          (first | exact FewS.step (by assumption) (by assumption) | exact FewS.drew (by assumption) | exact ⟨⟨by assumption, by assumption⟩, ⟨by assumption, by assumption, by assumption, by assumption, by assumption, by assumption⟩, below_drawn HA.out.below 1⟩)
          (first | (go_at_call 37; refine (HI2.out _ (FewS.bel (by assumption))).mono ?_; rintro e w' ⟨rfl, hb'⟩; have HBX := Lib.hid hb'))
        rename_i hS
        have HA2 : Hid (BoxIn w _ 1 lo hi S0 (.slice a m ca) (.slice (some ⟨g, off, none⟩) n cc)) := ((HA.out.under (below_drawn (Below.refl _ _) 1)).under HBX.out)
        clear hS a0 a1 a2 a3 a4 a5 e0 e1 e2 e3 e4 e5 hb'
        go_wp2_with fail
        go_roundw
        case rel => exact ⟨i + 1, _, rfl, by go_num, by omega, HSZ.out, HNX, HA2⟩
        case measure => simp [intOf]; omega
    · have HFIN := Lib.hid (show T = strOf ([] ++ sepT [32, 47, 32] (kids.map (fun t : Tree => brT (t.kind == 1) (textF d t)))) by
        have := HT.out
        rwa [List.take_of_length_le (by rw [List.length_map, ← HNN.out]; omega)] at this)
      go_wp2_with fail
      go_ret
      exact ⟨congrArg (fun u => Ending.returned (Value.string u)) HFIN.out, HA.out.below⟩

set_option maxRecDepth 100000 in
set_option maxHeartbeats 8000000 in
theorem few4_2 {d : Nat} (ih : Text4To d) {w : World} {S0 : ByteArray} {kids : List Tree} {vs : List XV} {lo hi : Int} {a c : Option Addr} {m ca n0 cc : Nat} (h2 : KidsE w (.slice c kids.length cc) vs kids) (hr : ∀ t ∈ kids, rightF d t = true) (hn1 : 2 ≤ kids.length) (hn2 : kids.length ≤ 9223372036854775807)
    (hl : ([] ++ sepT [32] (kids.map (fun t : Tree => brT (t.kind == 1 || t.kind == 2) (textF d t)))).length ≤ 1000000000000) :
    Calls Tryd.prog 22 #[.agg #[.int .i64 2, .string S0, .slice a m ca, .int .i64 lo, .int .i64 hi, .slice c kids.length cc]] w (GivesS ([] ++ sepT [32] (kids.map (fun t : Tree => brT (t.kind == 1 || t.kind == 2) (textF d t)))) w) := by
  obtain ⟨r1, r2, r3⟩ := h2
  obtain ⟨g, off, rfl, g1, g3, g4⟩ := r1.at4 (by omega)
  obtain ⟨n, hnn⟩ : ∃ n, n = kids.length := ⟨_, rfl⟩
  rw [← hnn] at g1 hn1 hn2 r2 ⊢
  have HNN := Lib.hid hnn
  have G4 := Lib.hid g4
  have HR2 := Lib.hid r2
  have HR3 := Lib.hid r3
  have HR := Lib.hid hr
  have HL := Lib.hid hl
  have HIH := Lib.hid ih
  have hA := BoxIn.new w 2 lo hi S0 (.slice a m ca) (.slice (some ⟨g, off, none⟩) n cc)
  unfold xobj at hA
  have HA0 := Lib.hid hA
  clear hnn g4 hr hl hA r1 r2 r3 ih
  go_enter Tryd.func22, Tryd.ntmps22
  go_wp2_with fail
  go_loopw [3, 4] (fun s v wr => ∃ (i : Nat) (T : ByteArray), s = .string T ∧ v = .int .i64 i ∧ i ≤ n ∧ T.size ≤ 1000000000000 ∧ Hid (T = strOf ([] ++ sepT [32] ((kids.map (fun t : Tree => brT (t.kind == 1 || t.kind == 2) (textF d t))).take i))) ∧ Hid (BoxIn w wr 2 lo hi S0 (.slice a m ca) (.slice (some ⟨g, off, none⟩) n cc))) (fun _ v _ => n - (intOf v).toNat)
  case atStart => exact ⟨0, _, rfl, rfl, by omega, by decide, rfl, HA0⟩
  case round =>
    obtain ⟨i, T, rfl, rfl, hi', hT, HT, HA⟩ := hrel
    obtain ⟨a0, a1, a2, a3, a4, a5⟩ := HA.out.arg.cells
    by_cases hlt : i < n
    · obtain ⟨Y, hY⟩ : ∃ y, vs[i]? = some y := ⟨_, List.getElem?_eq_getElem (by rw [HR2.out]; exact hlt)⟩
      obtain ⟨t, ht⟩ : ∃ y, kids[i]? = some y := ⟨_, List.getElem?_eq_getElem (by rw [← HNN.out]; exact hlt)⟩
      have CX : ∀ (j : Nat) (u : Value), j < 6 → Y.cells[j]? = some u → wr.cell? ⟨g, off + (i * 6 + j), none⟩ = some u := fun j u hj hu =>
        (HA.out.below.cell (p := ⟨g, off + (i * 6 + j), none⟩) g3).trans (G4.out _ u ((flat_at vs i j Y hY hj).trans hu))
      have hYt := HR3.out i Y t hY ht
      have hx : (kids.map (fun t : Tree => brT (t.kind == 1 || t.kind == 2) (textF d t)))[i]? = some (brT (t.kind == 1 || t.kind == 2) (textF d t)) := by rw [List.getElem?_map, ht]; rfl
      have hnx := pre_next [] [32] _ i _ hx
      have hle := pre_le [] [32] (kids.map (fun t : Tree => brT (t.kind == 1 || t.kind == 2) (textF d t))) (i + 1)
      have hel : (brT (t.kind == 1 || t.kind == 2) (textF d t)).length ≤ 1000000000000 := by
        have h1 := Nat.le_trans hle HL.out
        rw [hnx] at h1
        simp only [List.length_append] at h1
        omega
      have htl := Nat.le_trans (le_br (t.kind == 1 || t.kind == 2) (textF d t)) hel
      have HI := Lib.hid (fun W' (hb : Below w.heap.size w W') => inner4_any HIH.out (hYt.under hb) (HR.out t (List.mem_of_getElem? ht)) htl true true false)
      have ebr : ((t.kind == 1 && true) || (t.kind == 2 && true) || (t.kind == 3 && false)) = (t.kind == 1 || t.kind == 2) := by cases (t.kind == 1) <;> cases (t.kind == 2) <;> cases (t.kind == 3) <;> rfl
      rw [ebr] at HI
      obtain ⟨E, hE⟩ : ∃ E, E = strOf (brT (t.kind == 1 || t.kind == 2) (textF d t)) := ⟨_, rfl⟩
      have hEs : E.size ≤ 1000000000000 := by rw [hE, strOf_size]; exact hel
      have HI2 : Hid (∀ W', Below w.heap.size w W' → Calls Tryd.prog 37 #[Y.val, .bool true, .bool true, .bool false] W' (fun e w' => e = .returned (.string E) ∧ Below W'.heap.size W' w')) := by rw [hE]; exact HI
      obtain ⟨k', s', nv', lo', hi'', kv'⟩ := Y
      have e0 := CX 0 _ (by omega) rfl
      have e1 := CX 1 _ (by omega) rfl
      have e2 := CX 2 _ (by omega) rfl
      have e3 := CX 3 _ (by omega) rfl
      have e4 := CX 4 _ (by omega) rfl
      have e5 := CX 5 _ (by omega) rfl
      rw [← Nat.add_assoc] at e0 e1 e2 e3 e4 e5
      rw [Nat.add_zero] at e0
      clear CX ebr htl hel
      by_cases hi0 : i = 0
      · subst hi0
        rw [Nat.zero_mul, Nat.add_zero] at e0 e1 e2 e3 e4 e5
        have HNX := Lib.hid (show T ++ E = strOf ([] ++ sepT [32] ((kids.map (fun t : Tree => brT (t.kind == 1 || t.kind == 2) (textF d t))).take (0 + 1))) by
          rw [HT.out, hE, hnx, str_app4, if_pos rfl, List.append_nil])
        have HSZ := Lib.hid (show (T ++ E).size ≤ 1000000000000 by rw [HNX.out, strOf_size]; exact Nat.le_trans hle HL.out)
        have hsz2 : T.size ≤ 1000000000003 := by omega
        have hadd : ∀ W : World, (Op.stringOp .add T E).run Tryd.prog W = .ok (.string (T ++ E)) W := fun W => run_string_add_sum W _ _ (by omega)
        clear hx hnx hle hE HI hY ht hYt
        go_wp2_with fail
        go_region_held3 (fun W => (W.cell? ⟨w.heap.size, 0, none⟩ = some (.int .i64 2) ∧ W.cell? ⟨w.heap.size, 5, none⟩ = some (.slice (some ⟨g, off, none⟩) n cc)) ∧
            (W.cell? ⟨g, off, none⟩ = some (.int .i64 k') ∧ W.cell? ⟨g, off + 1, none⟩ = some (.string s') ∧ W.cell? ⟨g, off + 2, none⟩ = some nv' ∧ W.cell? ⟨g, off + 3, none⟩ = some (.int .i64 lo') ∧ W.cell? ⟨g, off + 4, none⟩ = some (.int .i64 hi'') ∧ W.cell? ⟨g, off + 5, none⟩ = some kv') ∧ Below w.heap.size w W)
          (first | exact FewS.step (by assumption) (by assumption) | exact FewS.drew (by assumption) | exact ⟨⟨by assumption, by assumption⟩, ⟨by assumption, by assumption, by assumption, by assumption, by assumption, by assumption⟩, below_drawn HA.out.below 1⟩)
          (first | (go_at_call 37; refine (HI2.out _ (FewS.bel (by assumption))).mono ?_; rintro e w' ⟨rfl, hb'⟩; have HBX := Lib.hid hb'))
        rename_i hS
        have HA2 : Hid (BoxIn w _ 2 lo hi S0 (.slice a m ca) (.slice (some ⟨g, off, none⟩) n cc)) := ((HA.out.under (below_drawn (Below.refl _ _) 1)).under HBX.out)
        clear hS a0 a1 a2 a3 a4 a5 e0 e1 e2 e3 e4 e5 hb'
        go_wp2_with fail
        go_roundw
        case rel => exact ⟨0 + 1, _, rfl, by go_num, by omega, HSZ.out, HNX, HA2⟩
        case measure => simp [intOf]; omega
      · have hip : 0 < i := by omega
        have qip : decide ((0 : Int) < (i : Int)) = true := decide_eq_true (by omega)
        have qip2 : decide (0 < i) = true := decide_eq_true hip
        have HNX := Lib.hid (show (T ++ (⟨#[32]⟩ : ByteArray)) ++ E = strOf ([] ++ sepT [32] ((kids.map (fun t : Tree => brT (t.kind == 1 || t.kind == 2) (textF d t))).take (i + 1))) by
          rw [HT.out, hE, hnx, show (⟨#[32]⟩ : ByteArray) = strOf [32] from rfl, str_app4, str_app4, if_neg hi0])
        have HSZ := Lib.hid (show ((T ++ (⟨#[32]⟩ : ByteArray)) ++ E).size ≤ 1000000000000 by rw [HNX.out, strOf_size]; exact Nat.le_trans hle HL.out)
        have hsz2 : (T ++ (⟨#[32]⟩ : ByteArray)).size ≤ 1000000000003 := by rw [ByteArray.size_append]; show T.size + 1 ≤ _; omega
        have hadd : ∀ W : World, (Op.stringOp .add (T ++ (⟨#[32]⟩ : ByteArray)) E).run Tryd.prog W = .ok (.string ((T ++ (⟨#[32]⟩ : ByteArray)) ++ E)) W := fun W => run_string_add_sum W _ _ (by omega)
        clear hx hnx hle hE HI hY ht hYt
        go_wp2_with fail
        go_region_held3 (fun W => (W.cell? ⟨w.heap.size, 0, none⟩ = some (.int .i64 2) ∧ W.cell? ⟨w.heap.size, 5, none⟩ = some (.slice (some ⟨g, off, none⟩) n cc)) ∧
            (W.cell? ⟨g, off + i * 6, none⟩ = some (.int .i64 k') ∧ W.cell? ⟨g, off + i * 6 + 1, none⟩ = some (.string s') ∧ W.cell? ⟨g, off + i * 6 + 2, none⟩ = some nv' ∧ W.cell? ⟨g, off + i * 6 + 3, none⟩ = some (.int .i64 lo') ∧ W.cell? ⟨g, off + i * 6 + 4, none⟩ = some (.int .i64 hi'') ∧ W.cell? ⟨g, off + i * 6 + 5, none⟩ = some kv') ∧ Below w.heap.size w W)
          (first | exact FewS.step (by assumption) (by assumption) | exact FewS.drew (by assumption) | exact ⟨⟨by assumption, by assumption⟩, ⟨by assumption, by assumption, by assumption, by assumption, by assumption, by assumption⟩, below_drawn HA.out.below 1⟩)
          (first | (go_at_call 37; refine (HI2.out _ (FewS.bel (by assumption))).mono ?_; rintro e w' ⟨rfl, hb'⟩; have HBX := Lib.hid hb'))
        rename_i hS
        have HA2 : Hid (BoxIn w _ 2 lo hi S0 (.slice a m ca) (.slice (some ⟨g, off, none⟩) n cc)) := ((HA.out.under (below_drawn (Below.refl _ _) 1)).under HBX.out)
        clear hS a0 a1 a2 a3 a4 a5 e0 e1 e2 e3 e4 e5 hb'
        go_wp2_with fail
        go_roundw
        case rel => exact ⟨i + 1, _, rfl, by go_num, by omega, HSZ.out, HNX, HA2⟩
        case measure => simp [intOf]; omega
    · have HFIN := Lib.hid (show T = strOf ([] ++ sepT [32] (kids.map (fun t : Tree => brT (t.kind == 1 || t.kind == 2) (textF d t)))) by
        have := HT.out
        rwa [List.take_of_length_le (by rw [List.length_map, ← HNN.out]; omega)] at this)
      go_wp2_with fail
      go_ret
      exact ⟨congrArg (fun u => Ending.returned (Value.string u)) HFIN.out, HA.out.below⟩

end Go.Proofs.YtfoohffeccgkeaaDoor
