/- The program's teller: Tell. -/
import Derived.Test.YtfoohffeccgkeaaDoorTLine
namespace Go.Proofs.YtfoohffeccgkeaaDoor
open Go.RowKit
set_option linter.unusedVariables false
set_option linter.unusedSimpArgs false

theorem sep_nil : ∀ l : List (List Int), sepT [] l = l.flatten
  | [] => rfl
  | [x] => by simp [sepT]
  | x :: y :: l => by
    have := sep_nil (y :: l)
    rw [sepT, this]
    simp
theorem mem_flat : ∀ (l : List (List Int)) (x : List Int), x ∈ l → x.length ≤ l.flatten.length
  | [], x, h => by simp at h
  | y :: l, x, h => by
    rw [List.mem_cons] at h
    rw [List.flatten_cons, List.length_append]
    rcases h with rfl | h
    · omega
    · have := mem_flat l x h
      omega
theorem line_pos (r : Rule) : 1 ≤ (lineT r).length := by unfold lineT; rw [List.length_append]; exact Nat.le_add_left 1 _
theorem count_flat : ∀ (l : List Rule), l.length ≤ ((l.map lineT).flatten).length
  | [] => by simp
  | r :: l => by
    have h1 := line_pos r
    have h2 := count_flat l
    simp only [List.map_cons, List.flatten_cons, List.length_append, List.length_cons]
    omega

set_option maxRecDepth 100000 in
set_option maxHeartbeats 4000000 in
theorem joinL_any {w : World} {v : Value} {vs : List LV} {l : List Rule} (h : LinesE w v vs l) (hr : l.all rlB = true) (hT : Tabs w) (hs : ((l.map lineT).flatten).length ≤ 1000000000000) :
    Calls Tryd.prog 16 #[v, .string ⟨#[]⟩, .func (Fn.func 17) #[] #[]] w (GivesS ((l.map lineT).flatten) w) := by
  obtain ⟨h1, h2, h3⟩ := h
  have HT := Lib.hid hT
  have H2 := Lib.hid h2
  have H3 := Lib.hid h3
  have HR := Lib.hid hr
  have HS := Lib.hid hs
  have hn := Nat.le_trans (count_flat l) hs
  obtain ⟨n, hnn⟩ : ∃ n, n = l.length := ⟨_, rfl⟩
  rw [← hnn] at h1 hn
  have HNN := Lib.hid hnn
  have hmk := make_texts n (by omega) w
  have HB0 := Lib.hid ((Below.refl w.heap.size w).alloc (Nat.le_refl _) (.cells (tcells n []) 9))
  have HX0 : Hid (TX w.heap.size n [] (w.alloc (.cells (tcells n []) 9))) := heap_alloc_new w _
  obtain ⟨W0, hW0⟩ : ∃ W0, W0 = w.alloc (.cells (tcells n []) 9) := ⟨_, rfl⟩
  rw [← hW0] at hmk HB0 HX0
  clear hW0 hT h2 h3 hr hs hnn
  have HJE : Hid (∀ wr, TX w.heap.size n (l.map lineT) wr → Calls Tryd.prog 29 #[.slice (some ⟨w.heap.size, 0, none⟩) n n, .string ⟨#[]⟩] wr (GivesS ((l.map lineT).flatten) wr)) := fun wr hX => by
    have hle : (l.map lineT).length = n := by rw [List.length_map, ← HNN.out]
    have := join_row (B := w.heap.size) (xs := l.map lineT) (W := wr) (by rw [hle]; exact hX) [] (by rw [sep_nil]; exact HS.out) (by rw [hle]; omega)
    rw [sep_nil, hle, strOf_nil] at this
    exact this
  rcases h1 with ⟨h0, a, cap, rfl⟩ | ⟨g, off, cap, rfl, g1, g2, g3, g4⟩
  · have hx0 : l = [] := List.length_eq_zero_iff.1 (by rw [← HNN.out]; exact h0)
    subst h0
    have HJ := Lib.hid (HJE.out W0 (by rw [hx0]; exact HX0.out))
    rw [show ((0 : Nat) : Int) = 0 from rfl] at hmk
    clear hx0
    go_enter Tryd.func16, Tryd.ntmps16
    go_wp2_with fail
    go_loop [15] (fun v => v = .int .i64 0) (fun v => 0)
    case atStart => rfl
    case round =>
      subst hrel
      clear hmk
      go_wp2_with fail
      refine HJ.out.mono ?_
      rintro e w1 ⟨rfl, hb⟩
      have HB1 := Lib.hid (below_then HB0.out hb)
      clear hb
      go_wp2_with fail
      go_ret
      exact ⟨rfl, HB1.out⟩
  · have G4 := Lib.hid g4
    unfold maxLen at g2
    clear g4
    go_enter Tryd.func16, Tryd.ntmps16
    go_wp2_with fail
    go_loopw [15] (fun v wr => ∃ i : Nat, v = .int .i64 i ∧ i ≤ n ∧ Hid (Below w.heap.size w wr) ∧ Hid (TX w.heap.size n ((l.take i).map lineT) wr)) (fun v _ => n - (intOf v).toNat)
    case atStart => exact ⟨0, rfl, by omega, HB0, HX0⟩
    case round =>
      obtain ⟨i, rfl, hi, HBEL, HX⟩ := hrel
      clear hmk
      by_cases hlt : i < n
      · obtain ⟨Y, hY⟩ : ∃ y, vs[i]? = some y := ⟨_, List.getElem?_eq_getElem (by rw [H2.out, ← HNN.out]; exact hlt)⟩
        obtain ⟨t, ht⟩ : ∃ y, l[i]? = some y := ⟨_, List.getElem?_eq_getElem (by rw [← HNN.out]; exact hlt)⟩
        have CX : ∀ (j : Nat) (u : Value), j < 8 → Y.cells[j]? = some u → wr.cell? ⟨g, off + (i * 8 + j), none⟩ = some u := fun j u hj hu =>
          (HBEL.out.cell (p := ⟨g, off + (i * 8 + j), none⟩) g3).trans (G4.out _ u ((flatL4_at vs i j Y hY hj).trans hu))
        obtain ⟨aa, am, ac, ca, cm, cc, en, ek⟩ := (H3.out i Y t hY ht).2.2.2.2.slices
        have hlen1 : (lineT t).length ≤ 1000000000000 := Nat.le_trans (mem_flat _ _ (List.mem_map.2 ⟨t, List.mem_of_getElem? ht, rfl⟩)) HS.out
        have HH := Lib.hid (fun W' (hb : Below w.heap.size w W') => ltext_any ((H3.out i Y t hY ht).under hb) (List.all_eq_true.1 HR.out t (List.mem_of_getElem? ht)) (HT.out.below hb) hlen1)
        have hlen : ((l.take i).map lineT).length = i := by rw [List.length_map, List.length_take, ← HNN.out]; omega
        have HTK := Lib.hid (show (l.take (i + 1)).map lineT = ((l.take i).map lineT) ++ [lineT t] by
          rw [List.take_add_one, ht]; simp)
        have HLEN := Lib.hid hlen
        obtain ⟨nm, mo, ⟨k, sx, nv, lo, hi', kv⟩⟩ := Y
        simp only [] at en ek
        subst en ek
        have e0 := CX 0 _ (by omega) rfl
        have e1 := CX 1 _ (by omega) rfl
        have e2 := CX 2 _ (by omega) rfl
        have e3 := CX 3 _ (by omega) rfl
        have e4 := CX 4 _ (by omega) rfl
        have e5 := CX 5 _ (by omega) rfl
        have e6 := CX 6 _ (by omega) rfl
        have e7 := CX 7 _ (by omega) rfl
        rw [← Nat.add_assoc] at e0 e1 e2 e3 e4 e5 e6 e7
        rw [Nat.add_zero] at e0
        have hxb := HX.out.lt
        have hne : wr.heap.size ≠ w.heap.size := by omega
        have HA := Lib.hid (below_new HBEL.out (lobj ⟨nm, mo, ⟨k, sx, .slice aa am ac, lo, hi', .slice ca cm cc⟩⟩))
        have HXA := Lib.hid (HX.out.under ((Below.refl wr.heap.size wr).alloc (Nat.le_refl _) (lobj ⟨nm, mo, ⟨k, sx, .slice aa am ac, lo, hi', .slice ca cm cc⟩⟩)))
        unfold lobj LV.arr at HA HXA
        clear hY ht hlen CX hlen1
        go_wp2_with fail
        refine (HH.out _ HA.out).mono ?_
        rintro e w1 ⟨rfl, hb⟩
        have HB1 := Lib.hid (below_then HA.out hb)
        have hX1 := HXA.out.under hb
        have k0 := hX1.cell (by rw [HLEN.out]; exact hlt)
        have k1 := hX1.frozen i
        rw [HLEN.out] at k0
        have HX2 := Lib.hid (hX1.set (by rw [HLEN.out]; exact hlt) (lineT t))
        clear hb hX1 e0 e1 e2 e3 e4 e5 e6 e7
        go_wp2_with fail
        go_roundw
        case rel => exact ⟨i + 1, by go_num, by omega, HB1.out.setCell (Nat.le_refl _) _, by unfold Hid; have := HX2.out; rw [HLEN.out, ← HTK.out] at this; exact this⟩
        case measure => simp [intOf]; omega
      · have hin : i = n := by omega
        subst hin
        have HJ := Lib.hid (HJE.out wr (by have := HX.out; rw [List.take_of_length_le (by rw [← HNN.out]; omega)] at this; exact this))
        go_wp2_with fail
        refine HJ.out.mono ?_
        rintro e w1 ⟨rfl, hb⟩
        have HB1 := Lib.hid (below_then HBEL.out hb)
        clear hb
        go_wp2_with fail
        go_ret
        exact ⟨rfl, HB1.out⟩

/-- What Tell answers. -/
def tellV (l : List Rule) : Value := if l.all rlB = true then .tuple #[.string (strOf ((l.map lineT).flatten)), .int .i64 0] else .tuple #[.string ⟨#[]⟩, .int .i64 1]
def GivesTell (l : List Rule) (w : World) (e : Ending) (w' : World) : Prop := e = .returned (tellV l) ∧ Below w.heap.size w w'

set_option maxRecDepth 100000 in
theorem tell_any {w : World} {v : Value} {vs : List LV} {l : List Rule} (h : LinesE w v vs l) (hT : Tabs w) (hs : l.all rlB = true → ((l.map lineT).flatten).length ≤ 1000000000000) :
    Calls Tryd.prog 7 #[v] w (GivesTell l w) := by
  have HA := Lib.hid (allL_any h)
  cases hp : l.all rlB
  · have hv : tellV l = .tuple #[.string ⟨#[]⟩, .int .i64 1] := by unfold tellV; rw [hp, if_neg (by simp)]
    unfold GivesTell
    rw [hv]
    rw [hp] at HA
    clear hp hs h hT hv
    go_enter Tryd.func7, Tryd.ntmps7
    go_wp2_with fail
    refine HA.out.mono ?_
    rintro e w1 ⟨rfl, hb⟩
    have HB1 := Lib.hid hb
    clear hb
    go_wp2_with fail
    go_ret2
    exact ⟨rfl, HB1.out⟩
  · have hv : tellV l = .tuple #[.string (strOf ((l.map lineT).flatten)), .int .i64 0] := by unfold tellV; rw [hp, if_pos rfl]
    unfold GivesTell
    rw [hv]
    rw [hp] at HA
    have HJ := Lib.hid (fun W' (hb : Below w.heap.size w W') => joinL_any (h.below hb) hp (hT.below hb) (hs hp))
    clear hp hs h hT hv
    go_enter Tryd.func7, Tryd.ntmps7
    go_wp2_with fail
    refine HA.out.mono ?_
    rintro e w1 ⟨rfl, hb⟩
    have HB1 := Lib.hid hb
    clear hb
    go_wp2_with fail
    refine (HJ.out _ HB1.out).mono ?_
    rintro e w2 ⟨rfl, hb⟩
    have HB2 := Lib.hid (below_then HB1.out hb)
    clear hb
    go_wp2_with fail
    go_ret2
    exact ⟨rfl, HB2.out⟩

end Go.Proofs.YtfoohffeccgkeaaDoor
