/- The program's teller: texts with another one between each two. -/
import Derived.Test.YtfoohffeccgkeaaDoorTHexa
import Derived.Laws.MakeOwn
namespace Go.Proofs.YtfoohffeccgkeaaDoor
open Go.RowKit
set_option linter.unusedVariables false
set_option linter.unusedSimpArgs false

/-- A row of n texts, of which the first ones are there. -/
def tcells (n : Nat) (xs : List (List Int)) : Array Value := (xs.map (fun x => Value.string (strOf x)) ++ List.replicate (n - xs.length) (Value.string ⟨#[]⟩)).toArray
theorem tcells_set {n : Nat} {xs : List (List Int)} (h : xs.length < n) (x : List Int) : (tcells n xs).setIfInBounds xs.length (.string (strOf x)) = tcells n (xs ++ [x]) := by
  unfold tcells
  obtain ⟨m, hm⟩ : ∃ m, n - xs.length = m + 1 := ⟨n - xs.length - 1, by omega⟩
  have e2 : n - (xs ++ [x]).length = m := by simp; omega
  rw [hm, e2, List.setIfInBounds_toArray]
  congr 1
  rw [List.set_append_right _ _ (by simp)]
  simp [List.replicate_succ]
theorem tcells_next {n : Nat} {xs : List (List Int)} (h : xs.length < n) : (tcells n xs)[xs.length]? = some (.string ⟨#[]⟩) := by
  unfold tcells
  rw [List.getElem?_toArray, List.getElem?_append_right (by simp), List.length_map, Nat.sub_self, List.getElem?_replicate, if_pos (by omega)]
def TX (B n : Nat) (xs : List (List Int)) (W : World) : Prop := W.heap[B]? = some (.cells (tcells n xs) 9 (0, 0))
theorem TX.lt {B n : Nat} {xs : List (List Int)} {W : World} (h : TX B n xs W) : B < W.heap.size := (Array.getElem?_eq_some_iff.1 h).1
theorem TX.under {B n : Nat} {xs : List (List Int)} {W W' : World} (h : TX B n xs W) (hb : Below W.heap.size W W') : TX B n xs W' := (hb.block B h.lt).trans h
theorem TX.cell {B n : Nat} {xs : List (List Int)} {W : World} (h : TX B n xs W) (hl : xs.length < n) : W.cell? ⟨B, xs.length, none⟩ = some (.string ⟨#[]⟩) := by
  unfold TX at h
  simp only [World.cell?, h]
  exact tcells_next hl
theorem TX.frozen {B n : Nat} {xs : List (List Int)} {W : World} (h : TX B n xs W) (j : Nat) : W.frozen? ⟨B, j, none⟩ = false := by
  unfold TX at h
  simp [World.frozen?, h]
theorem TX.set {B n : Nat} {xs : List (List Int)} {W : World} (h : TX B n xs W) (hl : xs.length < n) (x : List Int) : TX B n (xs ++ [x]) (W.setCell ⟨B, xs.length, none⟩ (.string (strOf x))) := by
  unfold TX at h ⊢
  rw [setCell_eq_setRow _ _ _ _ _ _ _ h, tcells_set hl]
  exact setRow_heap _ _ _ _ _ _ h
theorem TX.read {B : Nat} {xs : List (List Int)} {W : World} (h : TX B xs.length xs W) (j : Nat) (x : List Int) (hx : xs[j]? = some x) : W.cell? ⟨B, j, none⟩ = some (.string (strOf x)) := by
  unfold TX at h
  simp only [World.cell?, h]
  unfold tcells
  rw [List.getElem?_toArray, List.getElem?_append_left (by simpa using (List.getElem?_eq_some_iff.1 hx).1)]
  simp [hx]

theorem join_sep (s : List Int) : ∀ l : List (List Int), Lib.join (l.map (·.map byt)) (s.map byt) = (sepT s l).map byt := by
  intro l
  induction l with
  | nil => rfl
  | cons x l ih =>
    cases l with
    | nil => simp [sepT, Lib.join]
    | cons y l =>
      rw [sepT, List.map_append, List.map_append, ← ih]
      simp [Lib.join]

/-- The library's Join of a row that was made so. -/
theorem join_row {B : Nat} {xs : List (List Int)} {W : World} (h : TX B xs.length xs W) (s : List Int) (hl : (sepT s xs).length ≤ 1000000000000) (hn : xs.length ≤ 2000000000000) :
    Calls Tryd.prog 29 #[.slice (some ⟨B, 0, none⟩) xs.length xs.length, .string (strOf s)] W (GivesS (sepT s xs) W) := by
  have e : xs.length = (xs.map strOf).length := by simp
  have hm : (xs.map strOf).map (·.data.toList) = xs.map (·.map byt) := by
    rw [List.map_map]
    exact List.map_congr_left fun x _ => strOf_data x
  have hj : Lib.join ((xs.map strOf).map (·.data.toList)) (strOf s).data.toList = (sepT s xs).map byt := by rw [hm, strOf_data, join_sep]
  have := Tryd.strings_Join B 0 xs.length (xs.map strOf) (strOf s) W (fun j y hy => by
    rw [List.getElem?_map] at hy
    cases hx : xs[j]? with
    | none => rw [hx] at hy; cases hy
    | some x =>
      rw [hx] at hy
      cases hy
      rw [Nat.zero_add]
      exact h.read j x hx) h.lt (by rw [← e]; omega) (by rw [← e]; exact Nat.le_refl _) (by rw [hj, List.length_map]; omega)
  rw [hj, ← e] at this
  exact this

theorem infoStr : (Tryd.prog.info? 9).map (fun i => (i.zero, i.size, i.bytes)) = some (some (.string ⟨#[]⟩), 1, 16) := by kernel_rfl
theorem made_texts (n : Nat) : madeCells (Value.string ⟨#[]⟩).cells (n * 1) = tcells n [] := by
  unfold madeCells tcells
  apply Array.ext
  · simp
  · intro i h1 h2
    simp [Value.cells, Nat.mod_one]
theorem make_texts (n : Nat) (hn : n ≤ 2000000000000) (w : World) : (Instr.makeSlice 48 (.int .i64 (n : Int)) (.int .i64 (n : Int))).run Tryd.prog w = .ok (.slice (some ⟨w.heap.size, 0, none⟩) n n) (w.alloc (.cells (tcells n []) 9)) := by
  have hi := infoStr
  cases h : Tryd.prog.info? 9 with
  | none => rw [h] at hi; cases hi
  | some i =>
    rw [h] at hi
    simp only [Option.map_some, Option.some.injEq, Prod.mk.injEq] at hi
    obtain ⟨h1, h2, h3⟩ := hi
    have := run_make (P := Tryd.prog) w 48 9 i (.string ⟨#[]⟩) Tryd.underlying48 h h1 .i64 .i64 (n : Int) (n : Int) (by omega) (by omega) (by rw [h3]; omega) (by omega)
    rw [h2, Int.toNat_natCast, made_texts] at this
    exact this

set_option maxRecDepth 100000 in
set_option maxHeartbeats 4000000 in
theorem joinI_any {nums : List Int} {v : Value} {w : World} (hv : RowAny w v nums.length (icells nums)) (hn : nums.all numB = true) (h1 : 1 ≤ nums.length) (h2 : nums.length ≤ 10000) (hT : Tabs w) (s : List Int) (hs : s.length = 1) :
    Calls Tryd.prog 47 #[v, .string (strOf s), .func (Fn.func 48) #[] #[]] w (GivesS (sepT s (nums.map fun n => hexT n.toNat)) w) := by
  rcases hv with ⟨h0, _⟩ | ⟨g, off, cap, rfl, g1, g2, g3, g4⟩
  · omega
  · have HT := Lib.hid hT
    have G4 := Lib.hid g4
    have HN := Lib.hid hn
    obtain ⟨n, hnn⟩ : ∃ n, n = nums.length := ⟨_, rfl⟩
    rw [← hnn] at g1 h1 h2 ⊢
    have HNN := Lib.hid hnn
    unfold maxLen at g2
    clear hT g4 hn hnn
    go_enter Tryd.func47, Tryd.ntmps47
    have hmk := make_texts n (by omega) w
    have HB0 := Lib.hid ((Below.refl w.heap.size w).alloc (Nat.le_refl _) (.cells (tcells n []) 9))
    have HX0 : Hid (TX w.heap.size n [] (w.alloc (.cells (tcells n []) 9))) := heap_alloc_new w _
    obtain ⟨W0, hW0⟩ : ∃ W0, W0 = w.alloc (.cells (tcells n []) 9) := ⟨_, rfl⟩
    rw [← hW0] at hmk HB0 HX0
    clear hW0
    go_wp2_with fail
    go_loopw [15] (fun v wr => ∃ i : Nat, v = .int .i64 i ∧ i ≤ n ∧ Hid (Below w.heap.size w wr) ∧ Hid (TX w.heap.size n ((nums.take i).map fun n => hexT n.toNat) wr)) (fun v _ => n - (intOf v).toNat)
    case atStart => exact ⟨0, rfl, by omega, HB0, HX0⟩
    case round =>
      obtain ⟨i, rfl, hi, HBEL, HX⟩ := hrel
      clear hmk
      by_cases hlt : i < n
      · obtain ⟨Z, hZ⟩ : ∃ z, nums[i]? = some z := ⟨_, List.getElem?_eq_getElem (by rw [← HNN.out]; exact hlt)⟩
        have c0 := (HBEL.out.cell (p := ⟨g, off + i, none⟩) g3).trans (G4.out i _ (icells_at4 hZ))
        have hz := List.all_eq_true.1 HN.out Z (List.mem_of_getElem? hZ)
        unfold numB at hz
        simp at hz
        have HH := Lib.hid (hexa_any Z hz.1 hz.2 (HT.out.1.below HBEL.out))
        have hlen : ((nums.take i).map fun n : Int => hexT n.toNat).length = i := by rw [List.length_map, List.length_take, ← HNN.out]; omega
        have HTK := Lib.hid (show (nums.take (i + 1)).map (fun n : Int => hexT n.toNat) = ((nums.take i).map fun n : Int => hexT n.toNat) ++ [hexT Z.toNat] by
          rw [List.take_add_one, hZ]; simp)
        have HLEN := Lib.hid hlen
        clear hZ hz hlen
        go_wp2_with fail
        refine HH.out.mono ?_
        rintro e w1 ⟨rfl, hb⟩
        have HB1 := Lib.hid (below_then HBEL.out hb)
        have hX1 := HX.out.under hb
        have k0 := hX1.cell (by rw [HLEN.out]; exact hlt)
        have k1 := hX1.frozen i
        rw [HLEN.out] at k0
        have HX2 := Lib.hid (hX1.set (by rw [HLEN.out]; exact hlt) (hexT Z.toNat))
        clear hb hX1
        go_wp2_with fail
        go_roundw
        case rel => exact ⟨i + 1, by go_num, by omega, HB1.out.setCell (Nat.le_refl _) _, by unfold Hid; have := HX2.out; rw [HLEN.out, ← HTK.out] at this; exact this⟩
        case measure => simp [intOf]; omega
      · have hin : i = n := by omega
        subst hin
        have HTX : Hid (TX w.heap.size (nums.map fun n : Int => hexT n.toNat).length (nums.map fun n : Int => hexT n.toNat) wr) := by
          have := HX.out
          rw [List.take_of_length_le (by rw [← HNN.out]; omega)] at this
          rw [Hid, List.length_map, ← HNN.out]
          exact this
        have hle : (nums.map fun n : Int => hexT n.toNat).length = i := by rw [List.length_map, ← HNN.out]
        have hsl : (sepT s (nums.map fun n : Int => hexT n.toNat)).length ≤ 1000000000000 := by
          have a := sep_len s (nums.map fun n : Int => hexT n.toNat)
          rw [List.map_map] at a
          have b : (nums.map ((fun x : List Int => x.length + s.length) ∘ fun n : Int => hexT n.toNat)).sum ≤ (nums.map fun _ => 7).sum := sum_le nums fun u hu => by
            have := hexT_len u.toNat
            simp
            omega
          rw [sum_const, ← HNN.out] at b
          omega
        have HJ := Lib.hid (join_row HTX.out s hsl (by rw [hle]; omega))
        rw [hle] at HJ
        clear hsl hle
        go_wp2_with fail
        refine HJ.out.mono ?_
        rintro e w1 ⟨rfl, hb⟩
        have HB1 := Lib.hid (below_then HBEL.out hb)
        clear hb
        go_wp2_with fail
        go_ret
        exact ⟨rfl, HB1.out⟩

end Go.Proofs.YtfoohffeccgkeaaDoor
