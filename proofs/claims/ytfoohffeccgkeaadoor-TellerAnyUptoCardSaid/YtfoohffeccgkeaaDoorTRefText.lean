/- The document's teller: an expression's text. -/
import Derived.Test.YtfoohffeccgkeaaDoorTRep
namespace Go.Proofs.YtfoohffeccgkeaaDoor
open Go.RowKit
set_option linter.unusedVariables false
set_option linter.unusedSimpArgs false

def Text4To (d : Nat) : Prop := ∀ (W : World) (X : XV) (t : Tree), ETree W X t → rightF d t = true → (textF d t).length ≤ 1000000000000 → Calls Tryd.prog 22 #[X.val] W (GivesS (textF d t) W)

theorem hex4_T {n : Int} (h0 : 0 ≤ n) (h : n ≤ 1114111) (w : World) : Calls Tryd.prog 39 #[.int .i64 n] w (GivesS (hexT n.toNat) w) := by
  obtain ⟨m, rfl⟩ : ∃ m : Nat, n = m := ⟨n.toNat, by omega⟩
  have := hex4_any 2 m w (by rw [show (256 : Nat) ^ (2 + 1) = 16777216 by decide]; omega) (by omega)
  rw [hexD_T m (by omega)] at this
  exact this
theorem dig4_T {n : Int} (h0 : 0 ≤ n) (h : n ≤ 200) (w : World) : Calls Tryd.prog 38 #[.int .i64 n] w (GivesS (decT n.toNat) w) := by
  obtain ⟨m, rfl⟩ : ∃ m : Nat, n = m := ⟨n.toNat, by omega⟩
  have hm : m < 10 ^ (2 + 1) := by rw [show (10 : Nat) ^ (2 + 1) = 1000 by decide]; omega
  have := digits4_any 2 m w hm (by omega)
  rw [decF_T hm (by omega)] at this
  exact this

theorem sep_snoc (s x : List Int) : ∀ (l : List (List Int)), l ≠ [] → sepT s (l ++ [x]) = sepT s l ++ s ++ x
  | [], h => absurd rfl h
  | [y], _ => by simp [sepT]
  | y :: z :: l, _ => by
    have := sep_snoc s x (z :: l) (by simp)
    show y ++ s ++ sepT s (z :: l ++ [x]) = _
    rw [this]
    simp [sepT]
theorem sep_take (s : List Int) (l : List (List Int)) (i : Nat) : (sepT s (l.take i)).length ≤ (sepT s l).length := by
  induction l generalizing i with
  | nil => simp
  | cons y l ih =>
    cases i with
    | zero => simp [sepT]
    | succ i =>
      cases l with
      | nil => simp
      | cons z l =>
        cases i with
        | zero => simp [sepT]
        | succ i =>
          have := ih (i + 1)
          simp only [List.take_succ_cons, sepT, List.length_append] at this ⊢
          omega

set_option maxRecDepth 100000 in
set_option maxHeartbeats 4000000 in
theorem inner4_any {d : Nat} (ih : Text4To d) {W : World} {X : XV} {t : Tree} (h : ETree W X t) (hr : rightF d t = true) (hl : (textF d t).length ≤ 1000000000000) (a s r : Bool) :
    Calls Tryd.prog 37 #[X.val, .bool a, .bool s, .bool r] W (GivesS (brT ((t.kind == 1 && a) || (t.kind == 2 && s) || (t.kind == 3 && r)) (textF d t)) W) := by
  obtain ⟨o1, o2⟩ := h.ones
  have ek : t.kind = X.kind := by obtain ⟨_, _, _, _, _, rfl⟩ := h.size; rfl
  rw [ek]
  have hb := (Below.refl W.heap.size W).alloc (Nat.le_refl _) (xobj X.kind X.lo X.hi X.text X.ns X.ks)
  have hX := X6.new W X.kind X.lo X.hi X.text X.ns X.ks
  have HTX := Lib.hid (fun W' (hb' : Below W.heap.size W W') => ih W' X t (h.under hb') hr hl)
  have hsz : (strOf (textF d t)).size ≤ 1000000000000 := by rw [strOf_size]; exact hl
  obtain ⟨S, hS⟩ : ∃ S, S = strOf (textF d t) := ⟨_, rfl⟩
  have HBR := Lib.hid (show ((⟨#[40]⟩ : ByteArray) ++ S) ++ ⟨#[41]⟩ = strOf (brT true (textF d t)) by
    rw [hS, show (⟨#[40]⟩ : ByteArray) = strOf [40] from rfl, show (⟨#[41]⟩ : ByteArray) = strOf [41] from rfl, str_app4, str_app4]; rfl)
  have HNB := Lib.hid (show S = strOf (brT false (textF d t)) by rw [hS]; rfl)
  have HTX2 : Hid (∀ W', Below W.heap.size W W' → Calls Tryd.prog 22 #[X.val] W' (fun e w' => e = .returned (.string S) ∧ Below W'.heap.size W' w')) := by rw [hS]; exact HTX
  rw [← hS] at hsz
  obtain ⟨k, s', nv, lo, hi, kv⟩ := X
  unfold xobj at hb hX
  obtain ⟨a0, a1, a2, a3, a4, a5⟩ := hX.cells
  have HB := Lib.hid hb
  show Calls _ _ #[.agg #[.int .i64 k, .string s', nv, .int .i64 lo, .int .i64 hi, kv], .bool a, .bool s, .bool r] W _
  clear hb h hS hr hl ek HTX hX
  by_cases k1 : k = 1
  · subst k1
    cases a
    all_goals
      go_enter Tryd.func37, Tryd.ntmps37
      go_wp2_with fail
      refine (HTX2.out _ HB.out).mono ?_
      rintro e w2 ⟨rfl, hb⟩
      have HB2 := Lib.hid (below_then HB.out hb)
      clear hb a0 a1 a2 a3 a4 a5
      go_wp2_with fail
      go_ret
      first
        | exact ⟨congrArg (fun u => Ending.returned (Value.string u)) HBR.out, HB2.out⟩
        | exact ⟨congrArg (fun u => Ending.returned (Value.string u)) HNB.out, HB2.out⟩
  by_cases k2 : k = 2
  · subst k2
    cases s
    all_goals
      go_enter Tryd.func37, Tryd.ntmps37
      go_wp2_with fail
      refine (HTX2.out _ HB.out).mono ?_
      rintro e w2 ⟨rfl, hb⟩
      have HB2 := Lib.hid (below_then HB.out hb)
      clear hb a0 a1 a2 a3 a4 a5
      go_wp2_with fail
      go_ret
      first
        | exact ⟨congrArg (fun u => Ending.returned (Value.string u)) HBR.out, HB2.out⟩
        | exact ⟨congrArg (fun u => Ending.returned (Value.string u)) HNB.out, HB2.out⟩
  by_cases k3 : k = 3
  · subst k3
    cases r
    all_goals
      go_enter Tryd.func37, Tryd.ntmps37
      go_wp2_with fail
      refine (HTX2.out _ HB.out).mono ?_
      rintro e w2 ⟨rfl, hb⟩
      have HB2 := Lib.hid (below_then HB.out hb)
      clear hb a0 a1 a2 a3 a4 a5
      go_wp2_with fail
      go_ret
      first
        | exact ⟨congrArg (fun u => Ending.returned (Value.string u)) HBR.out, HB2.out⟩
        | exact ⟨congrArg (fun u => Ending.returned (Value.string u)) HNB.out, HB2.out⟩
  have z1 : (k == 1) = false := by simp; omega
  have z2 : (k == 2) = false := by simp; omega
  have z3 : (k == 3) = false := by simp; omega
  rw [z1, z2, z3, Bool.false_and, Bool.false_and, Bool.false_and]
  clear k1 k2 k3
  go_enter Tryd.func37, Tryd.ntmps37
  go_wp2_with fail
  refine (HTX2.out _ HB.out).mono ?_
  rintro e w2 ⟨rfl, hb⟩
  have HB2 := Lib.hid (below_then HB.out hb)
  clear hb a0 a1 a2 a3 a4 a5
  go_wp2_with fail
  go_ret
  exact ⟨congrArg (fun u => Ending.returned (Value.string u)) HNB.out, HB2.out⟩

theorem pre_next (p sp : List Int) (L : List (List Int)) (i : Nat) (x : List Int) (hx : L[i]? = some x) : p ++ sepT sp (L.take (i + 1)) = (p ++ sepT sp (L.take i)) ++ (if i = 0 then [] else sp) ++ x := by
  rw [List.take_add_one, hx]
  by_cases h : i = 0
  · subst h
    simp [sepT]
  · have hne : L.take i ≠ [] := by
      intro e
      have h1 := congrArg List.length e
      rw [List.length_take] at h1
      have h2 := (List.getElem?_eq_some_iff.1 hx).1
      have h3 : min i L.length = 0 := h1
      omega
    rw [if_neg h]
    show p ++ sepT sp (L.take i ++ [x]) = _
    rw [sep_snoc sp x _ hne]
    simp
theorem pre_le (p sp : List Int) (L : List (List Int)) (i : Nat) : (p ++ sepT sp (L.take i)).length ≤ (p ++ sepT sp L).length := by
  have := sep_take sp L i
  simp only [List.length_append]
  omega

/-- Where the argument lies. -/
structure BoxIn (w W : World) (k lo hi : Int) (s : ByteArray) (ns ks : Value) : Prop where
  arg : X6 W w.heap.size k lo hi s ns ks
  below : Below w.heap.size w W
theorem BoxIn.under {w W W1 : World} {k lo hi : Int} {s : ByteArray} {ns ks : Value} (h : BoxIn w W k lo hi s ns ks) (hb : Below W.heap.size W W1) : BoxIn w W1 k lo hi s ns ks := ⟨h.arg.under hb, below_then h.below hb⟩
theorem BoxIn.new (w : World) (k lo hi : Int) (s : ByteArray) (ns ks : Value) : BoxIn w (w.alloc (xobj k lo hi s ns ks)) k lo hi s ns ks := ⟨X6.new w k lo hi s ns ks, (Below.refl _ _).alloc (Nat.le_refl _) _⟩

set_option maxRecDepth 100000 in
set_option maxHeartbeats 8000000 in
theorem list4_6 {w : World} {S0 : ByteArray} {ns : List Int} {lo hi : Int} {a : Option Addr} {ca n0 cc : Nat} {c : Option Addr} (h1 : RowAny w (.slice a ns.length ca) ns.length (icells ns)) (hn : ns.all numB = true) (hn1 : 1 ≤ ns.length)
    (hl : ([37, 120] ++ sepT [46] (ns.map fun n : Int => hexT n.toNat)).length ≤ 1000000000000) :
    Calls Tryd.prog 22 #[.agg #[.int .i64 6, .string S0, .slice a ns.length ca, .int .i64 lo, .int .i64 hi, .slice c n0 cc]] w (GivesS ([37, 120] ++ sepT [46] (ns.map fun n : Int => hexT n.toNat)) w) := by
  obtain ⟨g, off, rfl, g1, g3, g4⟩ : ∃ g off, a = some ⟨g, off, none⟩ ∧ ns.length ≤ 9223372036854775807 ∧ g < w.heap.size ∧ ∀ (j : Nat) (u : Value), (icells ns)[j]? = some u → w.cell? ⟨g, off + j, none⟩ = some u := by
    rcases h1 with ⟨h0, _⟩ | ⟨g, off, cap', hv, f1, f2, f3, f4⟩
    · omega
    · injection hv with e1 e2 e3
      unfold maxLen at f2
      exact ⟨g, off, e1, by omega, f3, f4⟩
  obtain ⟨n, hnn⟩ : ∃ n, n = ns.length := ⟨_, rfl⟩
  rw [← hnn] at g1 hn1 ⊢
  have HNN := Lib.hid hnn
  have G4 := Lib.hid g4
  have HN := Lib.hid hn
  have HL := Lib.hid hl
  have hA := BoxIn.new w 6 lo hi S0 (.slice (some ⟨g, off, none⟩) n ca) (.slice c n0 cc)
  unfold xobj at hA
  have HA0 := Lib.hid hA
  clear hnn g4 hn hl hA h1
  go_enter Tryd.func22, Tryd.ntmps22
  go_wp2_with fail
  go_loopw [3, 5] (fun s v wr => ∃ (i : Nat) (T : ByteArray), s = .string T ∧ v = .int .i64 i ∧ i ≤ n ∧ T.size ≤ 1000000000000 ∧ Hid (T = strOf ([37, 120] ++ sepT [46] ((ns.map fun n : Int => hexT n.toNat).take i))) ∧ Hid (BoxIn w wr 6 lo hi S0 (.slice (some ⟨g, off, none⟩) n ca) (.slice c n0 cc))) (fun _ v _ => n - (intOf v).toNat)
  case atStart => exact ⟨0, _, rfl, rfl, by omega, by decide, rfl, HA0⟩
  case round =>
    obtain ⟨i, T, rfl, rfl, hi', hT, HT, HA⟩ := hrel
    obtain ⟨a0, a1, a2, a3, a4, a5⟩ := HA.out.arg.cells
    by_cases hlt : i < n
    · obtain ⟨Z, hZ⟩ : ∃ z, ns[i]? = some z := ⟨_, List.getElem?_eq_getElem (by rw [← HNN.out]; exact hlt)⟩
      have c0 := (HA.out.below.cell (p := ⟨g, off + i, none⟩) g3).trans (G4.out i _ (icells_at4 hZ))
      have hz := List.all_eq_true.1 HN.out Z (List.mem_of_getElem? hZ)
      unfold numB at hz
      simp at hz
      have hx : (ns.map fun n : Int => hexT n.toNat)[i]? = some (hexT Z.toNat) := by rw [List.getElem?_map, hZ]; rfl
      have hnx := pre_next [37, 120] [46] _ i _ hx
      have hle := pre_le [37, 120] [46] (ns.map fun n : Int => hexT n.toNat) (i + 1)
      have HH := Lib.hid (fun W => hex4_T hz.1 hz.2 W)
      have hl6 := hexT_len Z.toNat
      obtain ⟨H, hH⟩ : ∃ H, H = strOf (hexT Z.toNat) := ⟨_, rfl⟩
      have hHs : H.size ≤ 6 := by rw [hH, strOf_size]; exact hl6
      have HH2 : Hid (∀ W, Calls Tryd.prog 39 #[.int .i64 Z] W (fun e w' => e = .returned (.string H) ∧ Below W.heap.size W w')) := by rw [hH]; exact HH
      by_cases hi0 : i = 0
      · subst hi0
        have HNX := Lib.hid (show T ++ H = strOf ([37, 120] ++ sepT [46] ((ns.map fun n : Int => hexT n.toNat).take (0 + 1))) by
          rw [HT.out, hH, hnx, str_app4, if_pos rfl, List.append_nil])
        have HSZ := Lib.hid (show (T ++ H).size ≤ 1000000000000 by rw [HNX.out, strOf_size]; exact Nat.le_trans hle HL.out)
        have c1 := c0
        rw [Nat.add_zero] at c1
        clear hZ hz hx hnx hle hH hl6 HH
        go_wp2_with fail
        refine (HH2.out _).mono ?_
        rintro e w1 ⟨rfl, hb⟩
        have HA2 := Lib.hid (HA.out.under hb)
        clear hb a0 a1 a2 a3 a4 a5
        go_wp2_with fail
        go_roundw
        case rel => exact ⟨0 + 1, _, rfl, by go_num, by omega, HSZ.out, HNX, HA2⟩
        case measure => simp [intOf]; omega
      · have hip : 0 < i := by omega
        have qip : decide ((0 : Int) < (i : Int)) = true := decide_eq_true (by omega)
        have qip2 : decide (0 < i) = true := decide_eq_true hip
        have HNX := Lib.hid (show (T ++ (⟨#[46]⟩ : ByteArray)) ++ H = strOf ([37, 120] ++ sepT [46] ((ns.map fun n : Int => hexT n.toNat).take (i + 1))) by
          rw [HT.out, hH, hnx, show (⟨#[46]⟩ : ByteArray) = strOf [46] from rfl, str_app4, str_app4, if_neg hi0])
        have HSZ := Lib.hid (show ((T ++ (⟨#[46]⟩ : ByteArray)) ++ H).size ≤ 1000000000000 by rw [HNX.out, strOf_size]; exact Nat.le_trans hle HL.out)
        have hsz1 : (T ++ (⟨#[46]⟩ : ByteArray)).size ≤ 1000000000001 := by rw [ByteArray.size_append]; show T.size + 1 ≤ _; omega
        clear hZ hz hx hnx hle hH hl6 HH
        go_wp2_with fail
        refine (HH2.out _).mono ?_
        rintro e w1 ⟨rfl, hb⟩
        have HA2 := Lib.hid (HA.out.under hb)
        clear hb a0 a1 a2 a3 a4 a5
        go_wp2_with fail
        go_roundw
        case rel => exact ⟨i + 1, _, rfl, by go_num, by omega, HSZ.out, HNX, HA2⟩
        case measure => simp [intOf]; omega
    · have HFIN := Lib.hid (show T = strOf ([37, 120] ++ sepT [46] (ns.map fun n : Int => hexT n.toNat)) by
        have := HT.out
        rwa [List.take_of_length_le (by rw [List.length_map, ← HNN.out]; omega)] at this)
      go_wp2_with fail
      go_ret
      exact ⟨congrArg (fun u => Ending.returned (Value.string u)) HFIN.out, HA.out.below⟩

set_option maxRecDepth 100000 in
set_option maxHeartbeats 8000000 in
theorem list4_7 {w : World} {S0 : ByteArray} {ns : List Int} {lo hi : Int} {a : Option Addr} {ca n0 cc : Nat} {c : Option Addr} (h1 : RowAny w (.slice a ns.length ca) ns.length (icells ns)) (hn : ns.all numB = true) (hn1 : 1 ≤ ns.length)
    (hl : ([37, 120] ++ sepT [45] (ns.map fun n : Int => hexT n.toNat)).length ≤ 1000000000000) :
    Calls Tryd.prog 22 #[.agg #[.int .i64 7, .string S0, .slice a ns.length ca, .int .i64 lo, .int .i64 hi, .slice c n0 cc]] w (GivesS ([37, 120] ++ sepT [45] (ns.map fun n : Int => hexT n.toNat)) w) := by
  obtain ⟨g, off, rfl, g1, g3, g4⟩ : ∃ g off, a = some ⟨g, off, none⟩ ∧ ns.length ≤ 9223372036854775807 ∧ g < w.heap.size ∧ ∀ (j : Nat) (u : Value), (icells ns)[j]? = some u → w.cell? ⟨g, off + j, none⟩ = some u := by
    rcases h1 with ⟨h0, _⟩ | ⟨g, off, cap', hv, f1, f2, f3, f4⟩
    · omega
    · injection hv with e1 e2 e3
      unfold maxLen at f2
      exact ⟨g, off, e1, by omega, f3, f4⟩
  obtain ⟨n, hnn⟩ : ∃ n, n = ns.length := ⟨_, rfl⟩
  rw [← hnn] at g1 hn1 ⊢
  have HNN := Lib.hid hnn
  have G4 := Lib.hid g4
  have HN := Lib.hid hn
  have HL := Lib.hid hl
  have hA := BoxIn.new w 7 lo hi S0 (.slice (some ⟨g, off, none⟩) n ca) (.slice c n0 cc)
  unfold xobj at hA
  have HA0 := Lib.hid hA
  clear hnn g4 hn hl hA h1
  go_enter Tryd.func22, Tryd.ntmps22
  go_wp2_with fail
  go_loopw [3, 5] (fun s v wr => ∃ (i : Nat) (T : ByteArray), s = .string T ∧ v = .int .i64 i ∧ i ≤ n ∧ T.size ≤ 1000000000000 ∧ Hid (T = strOf ([37, 120] ++ sepT [45] ((ns.map fun n : Int => hexT n.toNat).take i))) ∧ Hid (BoxIn w wr 7 lo hi S0 (.slice (some ⟨g, off, none⟩) n ca) (.slice c n0 cc))) (fun _ v _ => n - (intOf v).toNat)
  case atStart => exact ⟨0, _, rfl, rfl, by omega, by decide, rfl, HA0⟩
  case round =>
    obtain ⟨i, T, rfl, rfl, hi', hT, HT, HA⟩ := hrel
    obtain ⟨a0, a1, a2, a3, a4, a5⟩ := HA.out.arg.cells
    by_cases hlt : i < n
    · obtain ⟨Z, hZ⟩ : ∃ z, ns[i]? = some z := ⟨_, List.getElem?_eq_getElem (by rw [← HNN.out]; exact hlt)⟩
      have c0 := (HA.out.below.cell (p := ⟨g, off + i, none⟩) g3).trans (G4.out i _ (icells_at4 hZ))
      have hz := List.all_eq_true.1 HN.out Z (List.mem_of_getElem? hZ)
      unfold numB at hz
      simp at hz
      have hx : (ns.map fun n : Int => hexT n.toNat)[i]? = some (hexT Z.toNat) := by rw [List.getElem?_map, hZ]; rfl
      have hnx := pre_next [37, 120] [45] _ i _ hx
      have hle := pre_le [37, 120] [45] (ns.map fun n : Int => hexT n.toNat) (i + 1)
      have HH := Lib.hid (fun W => hex4_T hz.1 hz.2 W)
      have hl6 := hexT_len Z.toNat
      obtain ⟨H, hH⟩ : ∃ H, H = strOf (hexT Z.toNat) := ⟨_, rfl⟩
      have hHs : H.size ≤ 6 := by rw [hH, strOf_size]; exact hl6
      have HH2 : Hid (∀ W, Calls Tryd.prog 39 #[.int .i64 Z] W (fun e w' => e = .returned (.string H) ∧ Below W.heap.size W w')) := by rw [hH]; exact HH
      by_cases hi0 : i = 0
      · subst hi0
        have HNX := Lib.hid (show T ++ H = strOf ([37, 120] ++ sepT [45] ((ns.map fun n : Int => hexT n.toNat).take (0 + 1))) by
          rw [HT.out, hH, hnx, str_app4, if_pos rfl, List.append_nil])
        have HSZ := Lib.hid (show (T ++ H).size ≤ 1000000000000 by rw [HNX.out, strOf_size]; exact Nat.le_trans hle HL.out)
        have c1 := c0
        rw [Nat.add_zero] at c1
        clear hZ hz hx hnx hle hH hl6 HH
        go_wp2_with fail
        refine (HH2.out _).mono ?_
        rintro e w1 ⟨rfl, hb⟩
        have HA2 := Lib.hid (HA.out.under hb)
        clear hb a0 a1 a2 a3 a4 a5
        go_wp2_with fail
        go_roundw
        case rel => exact ⟨0 + 1, _, rfl, by go_num, by omega, HSZ.out, HNX, HA2⟩
        case measure => simp [intOf]; omega
      · have hip : 0 < i := by omega
        have qip : decide ((0 : Int) < (i : Int)) = true := decide_eq_true (by omega)
        have qip2 : decide (0 < i) = true := decide_eq_true hip
        have HNX := Lib.hid (show (T ++ (⟨#[45]⟩ : ByteArray)) ++ H = strOf ([37, 120] ++ sepT [45] ((ns.map fun n : Int => hexT n.toNat).take (i + 1))) by
          rw [HT.out, hH, hnx, show (⟨#[45]⟩ : ByteArray) = strOf [45] from rfl, str_app4, str_app4, if_neg hi0])
        have HSZ := Lib.hid (show ((T ++ (⟨#[45]⟩ : ByteArray)) ++ H).size ≤ 1000000000000 by rw [HNX.out, strOf_size]; exact Nat.le_trans hle HL.out)
        have hsz1 : (T ++ (⟨#[45]⟩ : ByteArray)).size ≤ 1000000000001 := by rw [ByteArray.size_append]; show T.size + 1 ≤ _; omega
        clear hZ hz hx hnx hle hH hl6 HH
        go_wp2_with fail
        refine (HH2.out _).mono ?_
        rintro e w1 ⟨rfl, hb⟩
        have HA2 := Lib.hid (HA.out.under hb)
        clear hb a0 a1 a2 a3 a4 a5
        go_wp2_with fail
        go_roundw
        case rel => exact ⟨i + 1, _, rfl, by go_num, by omega, HSZ.out, HNX, HA2⟩
        case measure => simp [intOf]; omega
    · have HFIN := Lib.hid (show T = strOf ([37, 120] ++ sepT [45] (ns.map fun n : Int => hexT n.toNat)) by
        have := HT.out
        rwa [List.take_of_length_le (by rw [List.length_map, ← HNN.out]; omega)] at this)
      go_wp2_with fail
      go_ret
      exact ⟨congrArg (fun u => Ending.returned (Value.string u)) HFIN.out, HA.out.below⟩

end Go.Proofs.YtfoohffeccgkeaaDoor
