/- TellerDeep is true for every two numbers, without any condition: of expressions that stand in one another, very deeply, the text is what the document says. -/
import Derived.Test.YtddbaacibdmnaaaDoorTOne
import Derived.Test.YtddbaacibdmnaaaDoorTOwn
import Derived.Test.YtddbaacibdmnaaaDoorRes
namespace Go.Proofs.YtddbaacibdmnaaaDoor.tellerDeep
open Go.ChangeShapes Go.WideShapes Go.ChangeAt Go.RowKit Go.Proofs.YtddbaacibdmnaaaDoor
open Go.ChangeMaps (open_string shut_string)
set_option linter.unusedVariables false
set_option linter.unusedSimpArgs false

/-- In the loop: the box in the first block, the expression that it holds in blocks behind it. -/
def InDeep (w wr : World) (i : Nat) (X : XV) (t : Tree) : Prop :=
  wr.heap[w.heap.size]? = some (.cells X.arr 32 (0, 0)) ∧ TreeAt wr (fun b => w.heap.size + 1 ≤ b) X t ∧ TreeOk t ∧ t.tw ≤ 5 * (i + 1) ∧ Below w.heap.size w wr

theorem InDeep.res {w wr : World} {i : Nat} {X : XV} {t : Tree} (h : InDeep w wr i X t) (o : Obj) : Res0 (wr.alloc o) w.heap.size := res_alloc ⟨_, rfl, h.1⟩ o
theorem InDeep.ones {w wr : World} {i : Nat} {X : XV} {t : Tree} (h : InDeep w wr i X t) : X.ns.oneCell' = true ∧ X.ks.oneCell' = true := ⟨one_cell_ns h.2.1, one_cell_ks h.2.1⟩

def deepA (g : Nat) : XV := ⟨3, ⟨#[]⟩, .slice none 0 0, 0, -1, .slice (some ⟨g, 0, none⟩) 1 1⟩
def deepB (g : Nat) : XV := ⟨1, ⟨#[]⟩, .slice none 0 0, 0, 0, .slice (some ⟨g, 0, none⟩) 2 2⟩
def deepC (g : Nat) : XV := ⟨2, ⟨#[]⟩, .slice none 0 0, 0, 0, .slice (some ⟨g, 0, none⟩) 2 2⟩
def leaf5 : XV := ⟨5, ⟨#[]⟩, .slice none 0 0, 0, 0, .slice none 0 0⟩
def two (X Y : XV) : Array Value := #[.int .i64 X.kind, .string X.text, X.ns, .int .i64 X.lo, .int .i64 X.hi, X.ks, .int .i64 Y.kind, .string Y.text, Y.ns, .int .i64 Y.lo, .int .i64 Y.hi, Y.ks]

theorem deep_frame {w wr : World} {i : Nat} {X : XV} {t : Tree} (h : InDeep w wr i X t) (o : Obj) (Y : XV) (u : Tree)
    (hu : ∀ W : World, W.heap[wr.heap.size]? = some o → TreeAt W (fun b => w.heap.size + 1 ≤ b) X t → TreeAt W (fun b => w.heap.size + 1 ≤ b) Y u) (hok : TreeOk u) (hw : u.tw ≤ t.tw + 5) :
    InDeep w ((wr.alloc o).setRow w.heap.size Y.arr) (i + 1) Y u := by
  obtain ⟨h1, h2, h3, h4, h5⟩ := h
  have hl : w.heap.size < wr.heap.size := (Array.getElem?_eq_some_iff.1 h1).1
  refine ⟨setRow_heap _ _ _ _ _ _ ((Below.heap_alloc wr o _ hl).trans h1), hu _ ?_ ?_, hok, by omega, ?_⟩
  · rw [setRow_other _ _ _ _ (by omega)]
    exact heap_alloc_new wr o
  · exact (h2.under ((Below.refl wr.heap.size wr).alloc (Nat.le_refl _) o)).set_row (fun b hb => by omega) _
  · have hb := h5.alloc (Nat.le_of_lt hl) o
    exact ⟨hb.os, hb.tape, hb.output, by simpa [World.setRow] using hb.size, fun k hk => (setRow_other _ _ _ _ (by omega)).trans (hb.block k hk)⟩

theorem deep_a {w wr : World} {i : Nat} {X : XV} {t : Tree} (h : InDeep w wr i X t) : ∃ u, InDeep w ((wr.alloc (.cells X.arr 32)).setRow w.heap.size (deepA wr.heap.size).arr) (i + 1) (deepA wr.heap.size) u := by
  have hl : w.heap.size < wr.heap.size := (Array.getElem?_eq_some_iff.1 h.1).1
  exact ⟨_, deep_frame h _ _ _ (fun W hW ht => wrap1_at (k := 3) (lo := 0) (hi := -1) hW (by omega) ht) (wrap1_ok h.2.2.1) (by rw [wrap1_tw]; omega)⟩
theorem leaf5_at (W : World) (P : Nat → Prop) : TreeAt W P leaf5 (.mk 5 [] [] 0 0 []) := leaf_at W P 5 []
theorem leaf5_ok : TreeOk (.mk 5 [] [] 0 0 []) := leaf_ok 5 (by simp) (by simp)
theorem deep_b {w wr : World} {i : Nat} {X : XV} {t : Tree} (h : InDeep w wr i X t) : ∃ u, InDeep w ((wr.alloc (.cells (two X leaf5) 32)).setRow w.heap.size (deepB wr.heap.size).arr) (i + 1) (deepB wr.heap.size) u := by
  have hl : w.heap.size < wr.heap.size := (Array.getElem?_eq_some_iff.1 h.1).1
  exact ⟨_, deep_frame h _ _ _ (fun W hW ht => wrap2_at (k := 1) (lo := 0) (hi := 0) (Y := leaf5) hW (by omega) ht (leaf5_at W _)) (wrap2_ok h.2.2.1 leaf5_ok) (by rw [wrap2_tw]; simp [Tree.tw]; omega)⟩
theorem deep_c {w wr : World} {i : Nat} {X : XV} {t : Tree} (h : InDeep w wr i X t) : ∃ u, InDeep w ((wr.alloc (.cells (two leaf5 X) 32)).setRow w.heap.size (deepC wr.heap.size).arr) (i + 1) (deepC wr.heap.size) u := by
  have hl : w.heap.size < wr.heap.size := (Array.getElem?_eq_some_iff.1 h.1).1
  exact ⟨_, deep_frame h _ _ _ (fun W hW ht => wrap2_at (k := 2) (lo := 0) (hi := 0) (X := leaf5) hW (by omega) (leaf5_at W _) ht) (wrap2_ok leaf5_ok h.2.2.1) (by rw [wrap2_tw]; simp [Tree.tw]; omega)⟩

theorem row_slice {W : World} {P : Nat → Prop} {v : Value} {n : Nat} {xs : List Value} (h : RowIn W P v n xs) : ∃ a n c, v = .slice a n c := by
  rcases h with ⟨rfl, _⟩ | ⟨g, cap, rfl, _⟩ <;> exact ⟨_, _, _, rfl⟩
theorem fill_two (X Y : XV) (h1 : X.ns.oneCell' = true) (h2 : X.ks.oneCell' = true) (h3 : Y.ns.oneCell' = true) (h4 : Y.ks.oneCell' = true) :
    Instr.fill (fun i => some (i * 6, 6)) ((Array.range (2 * 6)).map ((Value.agg #[.int .i64 0, .string ⟨#[]⟩, .slice none 0 0, .int .i64 0, .int .i64 0, .slice none 0 0]).cells[· % 6]!)) [(0, X.val), (1, Y.val)] = some (two X Y) := by
  cases X
  cases Y
  kernel_rfl
/-- A slice of two expressions. -/
theorem build_two {ops : Array Oper} {rest : List Oper} {o : Oper} {a : Act} {w : World} {Q : Exit → Act → World → Prop} (hgd : o.guard = none) (y z : Operand) (ho : o.op = .buildSlice 30 2 #[(0, y), (1, z)])
    (X Y : XV) (hy : a.eval y = X.val) (hz : a.eval z = Y.val) (h1 : X.ns.oneCell' = true) (h2 : X.ks.oneCell' = true) (h3 : Y.ns.oneCell' = true) (h4 : Y.ks.oneCell' = true)
    (h : wpList Tryd.prog ops Q rest (a.put o.dst (.slice (some ⟨w.heap.size, 0, none⟩) 2 2)) (w.alloc (.cells (two X Y) 32))) : wpList Tryd.prog ops Q (o :: rest) a w := by
  obtain ⟨i0, hi0, hi1⟩ := Option.map_eq_some_iff.1 infoX
  obtain ⟨hz0, hz1, hz2⟩ : i0.zero = some _ ∧ i0.size = 6 ∧ i0.bytes = _ := by simpa using hi1
  refine wpList_buildSlice hgd 30 32 2 #[(0, y), (1, z)] ho (two X Y) i0 _ Tryd.underlying30 hi0 hz0 (by rw [hz1]; decide) (by rw [hz1]; decide) ?_ h
  rw [hz1]
  simp only [List.map_toArray, List.map_cons, List.map_nil, hy, hz]
  exact fill_two X Y h1 h2 h3 h4


set_option maxRecDepth 100000 in
set_option maxHeartbeats 8000000 in
theorem walk (x0 : Int) (x1 : Int) (w : World) (hT : Tabs w) (h0 : 0 ≤ x0 ∧ x0 ≤ 255) (h1 : 0 ≤ x1 ∧ x1 ≤ 255) :
    Calls Tryd.prog 5 #[.int .u8 x0, .int .u8 x1] w (GivesBool true w) := by
  obtain ⟨m, hm, hm20⟩ : ∃ m : Nat, x0.tmod 21 = m ∧ m ≤ 20 := by
    have g1 := Int.tmod_nonneg (b := 21) (a := x0) (by omega)
    have g2 := Int.tmod_lt_of_pos x0 (b := 21) (by omega)
    exact ⟨(x0.tmod 21).toNat, by omega, by omega⟩
  have h3 : x1.tmod 3 = 0 ∨ x1.tmod 3 = 1 ∨ x1.tmod 3 = 2 := by
    have g1 := Int.tmod_nonneg (b := 3) (a := x1) (by omega)
    have g2 := Int.tmod_lt_of_pos x1 (b := 3) (by omega)
    omega
  have HT := Lib.hid hT
  have H0 : Hid (InDeep w ((w.alloc (.cells #[.int .i64 0, .string ⟨#[]⟩, .slice none 0 0, .int .i64 0, .int .i64 0, .slice none 0 0] 32)).setRow w.heap.size #[.int .i64 5, .string ⟨#[120]⟩, .slice none 0 0, .int .i64 0, .int .i64 0, .slice none 0 0]) 0 ⟨5, ⟨#[120]⟩, .slice none 0 0, 0, 0, .slice none 0 0⟩ (.mk 5 [120] [] 0 0 [])) := by
    refine ⟨setRow_heap _ _ _ _ _ _ (heap_alloc_new w _), leaf_at _ _ 5 [120], leaf_ok 5 (by simp) (by simp), by simp [Tree.tw], ?_⟩
    have hb := (Below.refl w.heap.size w).alloc (Nat.le_refl _) (.cells #[.int .i64 0, .string ⟨#[]⟩, .slice none 0 0, .int .i64 0, .int .i64 0, .slice none 0 0] 32)
    exact ⟨hb.os, hb.tape, hb.output, by simp [World.setRow], fun k hk => (setRow_other _ _ _ _ (by omega)).trans (hb.block k hk)⟩
  clear hT
  obtain ⟨h01, h02⟩ := h0
  obtain ⟨h11, h12⟩ := h1
  have e0 : wrap64 x0 = x0 := Go.IntWalk.wrap64_in _ (by omega)
  have e1 : wrap64 (40 + (m : Int)) = 40 + (m : Int) := Go.IntWalk.wrap64_in _ (by omega)
  rcases h3 with h3 | h3 | h3
  · go_enter Tryd.func5, Tryd.ntmps5
    go_wp2_with (refine store_res rfl _ _ rfl w.heap.size ⟨5, ⟨#[120]⟩, .slice none 0 0, 0, 0, .slice none 0 0⟩ rfl rfl (res_new w) rfl rfl ?_)
    go_loopw [6] (fun v wr => ∃ i : Nat, v = .int .i64 i ∧ i ≤ 40 + m ∧ ∃ X t, Hid (InDeep w wr i X t)) (fun v _ => 40 + m - (intOf v).toNat)
    case atStart => exact ⟨0, rfl, by omega, _, _, H0⟩
    case round =>
      obtain ⟨i, rfl, hi, X, t, HI⟩ := hrel
      by_cases hlt : i < 40 + m
      · have q1 : decide ((i : Int) < 40 + (m : Int)) = true := decide_eq_true (by omega)
        have HR := Lib.hid (HI.out.res (.cells (X.arr) 32))
        have HB := Lib.hid HI.out.1
        have HO := Lib.hid HI.out.ones
        obtain ⟨u, hu⟩ := deep_a HI.out
        have HU := Lib.hid hu
        clear hu
        go_wp2_with (first
          | (refine load_res rfl _ rfl w.heap.size X rfl HB.out ?_)
          | (refine build_one rfl _ rfl X rfl HO.out.1 HO.out.2 ?_)
          | (refine store_res rfl _ _ rfl w.heap.size (deepA wr.heap.size) rfl rfl HR.out rfl rfl ?_))
        go_roundw
        case rel => exact ⟨i + 1, by go_num, by omega, _, _, HU⟩
        case measure => simp [intOf]; omega
      · have q1 : decide ((i : Int) < 40 + (m : Int)) = false := decide_eq_false (by omega)
        have HB1 := Lib.hid HI.out.2.2.2.2
        go_wp2_with fail
        refine (awake_any (HT.out.below HB1.out)).mono ?_
        rintro e w2 ⟨rfl, hb⟩
        obtain ⟨b1, b2, b3, b4, b5⟩ := HI.out
        have HB2 := Lib.hid (below_then HB1.out hb)
        obtain ⟨k, s, nv, lo, hj, kv⟩ := X
        obtain ⟨a1, n1, c1, rfl⟩ : ∃ a n c, nv = .slice a n c := by
          cases b2 with
          | mk vs h1 h2 h3 h4 => exact row_slice h1
        obtain ⟨a2, n2, c2, rfl⟩ : ∃ a n c, kv = .slice a n c := by
          cases b2 with
          | mk vs h1 h2 h3 h4 => exact row_slice h2
        have HX := Lib.hid (X6.under (W := wr) (W1 := w2) (g := w.heap.size) (k := k) (lo := lo) (hi := hj) (s := s) (ns := .slice a1 n1 c1) (ks := .slice a2 n2 c2) b1 hb)
        have HE := Lib.hid ((b2.under hb).tree b3)
        have HS := Lib.hid (line_same HE.out (by omega) (HT.out.below HB2.out))
        clear b1 b2 b3 b4 b5 hb HI
        obtain ⟨a0, a1, a2, a3, a4, a5⟩ := HX.out.cells
        go_wp2_with fail
        refine HS.out.mono ?_
        rintro e w3 ⟨rfl, hb⟩
        have HB3 := Lib.hid (below_then HB2.out hb)
        clear hb
        go_wp2_with fail
        go_ret
        exact ⟨rfl, HB3.out⟩
  · go_enter Tryd.func5, Tryd.ntmps5
    go_wp2_with (refine store_res rfl _ _ rfl w.heap.size ⟨5, ⟨#[120]⟩, .slice none 0 0, 0, 0, .slice none 0 0⟩ rfl rfl (res_new w) rfl rfl ?_)
    go_loopw [6] (fun v wr => ∃ i : Nat, v = .int .i64 i ∧ i ≤ 40 + m ∧ ∃ X t, Hid (InDeep w wr i X t)) (fun v _ => 40 + m - (intOf v).toNat)
    case atStart => exact ⟨0, rfl, by omega, _, _, H0⟩
    case round =>
      obtain ⟨i, rfl, hi, X, t, HI⟩ := hrel
      by_cases hlt : i < 40 + m
      · have q1 : decide ((i : Int) < 40 + (m : Int)) = true := decide_eq_true (by omega)
        have HR := Lib.hid (HI.out.res (.cells (two X leaf5) 32))
        have HB := Lib.hid HI.out.1
        have HO := Lib.hid HI.out.ones
        obtain ⟨u, hu⟩ := deep_b HI.out
        have HU := Lib.hid hu
        clear hu
        go_wp2_with (first
          | (refine load_res rfl _ rfl w.heap.size X rfl HB.out ?_)
          | (refine build_two rfl _ _ rfl X leaf5 rfl rfl HO.out.1 HO.out.2 rfl rfl ?_)
          | (refine store_res rfl _ _ rfl w.heap.size (deepB wr.heap.size) rfl rfl HR.out rfl rfl ?_))
        go_roundw
        case rel => exact ⟨i + 1, by go_num, by omega, _, _, HU⟩
        case measure => simp [intOf]; omega
      · have q1 : decide ((i : Int) < 40 + (m : Int)) = false := decide_eq_false (by omega)
        have HB1 := Lib.hid HI.out.2.2.2.2
        go_wp2_with fail
        refine (awake_any (HT.out.below HB1.out)).mono ?_
        rintro e w2 ⟨rfl, hb⟩
        obtain ⟨b1, b2, b3, b4, b5⟩ := HI.out
        have HB2 := Lib.hid (below_then HB1.out hb)
        obtain ⟨k, s, nv, lo, hj, kv⟩ := X
        obtain ⟨a1, n1, c1, rfl⟩ : ∃ a n c, nv = .slice a n c := by
          cases b2 with
          | mk vs h1 h2 h3 h4 => exact row_slice h1
        obtain ⟨a2, n2, c2, rfl⟩ : ∃ a n c, kv = .slice a n c := by
          cases b2 with
          | mk vs h1 h2 h3 h4 => exact row_slice h2
        have HX := Lib.hid (X6.under (W := wr) (W1 := w2) (g := w.heap.size) (k := k) (lo := lo) (hi := hj) (s := s) (ns := .slice a1 n1 c1) (ks := .slice a2 n2 c2) b1 hb)
        have HE := Lib.hid ((b2.under hb).tree b3)
        have HS := Lib.hid (line_same HE.out (by omega) (HT.out.below HB2.out))
        clear b1 b2 b3 b4 b5 hb HI
        obtain ⟨a0, a1, a2, a3, a4, a5⟩ := HX.out.cells
        go_wp2_with fail
        refine HS.out.mono ?_
        rintro e w3 ⟨rfl, hb⟩
        have HB3 := Lib.hid (below_then HB2.out hb)
        clear hb
        go_wp2_with fail
        go_ret
        exact ⟨rfl, HB3.out⟩
  · go_enter Tryd.func5, Tryd.ntmps5
    go_wp2_with (refine store_res rfl _ _ rfl w.heap.size ⟨5, ⟨#[120]⟩, .slice none 0 0, 0, 0, .slice none 0 0⟩ rfl rfl (res_new w) rfl rfl ?_)
    go_loopw [6] (fun v wr => ∃ i : Nat, v = .int .i64 i ∧ i ≤ 40 + m ∧ ∃ X t, Hid (InDeep w wr i X t)) (fun v _ => 40 + m - (intOf v).toNat)
    case atStart => exact ⟨0, rfl, by omega, _, _, H0⟩
    case round =>
      obtain ⟨i, rfl, hi, X, t, HI⟩ := hrel
      by_cases hlt : i < 40 + m
      · have q1 : decide ((i : Int) < 40 + (m : Int)) = true := decide_eq_true (by omega)
        have HR := Lib.hid (HI.out.res (.cells (two leaf5 X) 32))
        have HB := Lib.hid HI.out.1
        have HO := Lib.hid HI.out.ones
        obtain ⟨u, hu⟩ := deep_c HI.out
        have HU := Lib.hid hu
        clear hu
        go_wp2_with (first
          | (refine load_res rfl _ rfl w.heap.size X rfl HB.out ?_)
          | (refine build_two rfl _ _ rfl leaf5 X rfl rfl rfl rfl HO.out.1 HO.out.2 ?_)
          | (refine store_res rfl _ _ rfl w.heap.size (deepC wr.heap.size) rfl rfl HR.out rfl rfl ?_))
        go_roundw
        case rel => exact ⟨i + 1, by go_num, by omega, _, _, HU⟩
        case measure => simp [intOf]; omega
      · have q1 : decide ((i : Int) < 40 + (m : Int)) = false := decide_eq_false (by omega)
        have HB1 := Lib.hid HI.out.2.2.2.2
        go_wp2_with fail
        refine (awake_any (HT.out.below HB1.out)).mono ?_
        rintro e w2 ⟨rfl, hb⟩
        obtain ⟨b1, b2, b3, b4, b5⟩ := HI.out
        have HB2 := Lib.hid (below_then HB1.out hb)
        obtain ⟨k, s, nv, lo, hj, kv⟩ := X
        obtain ⟨a1, n1, c1, rfl⟩ : ∃ a n c, nv = .slice a n c := by
          cases b2 with
          | mk vs h1 h2 h3 h4 => exact row_slice h1
        obtain ⟨a2, n2, c2, rfl⟩ : ∃ a n c, kv = .slice a n c := by
          cases b2 with
          | mk vs h1 h2 h3 h4 => exact row_slice h2
        have HX := Lib.hid (X6.under (W := wr) (W1 := w2) (g := w.heap.size) (k := k) (lo := lo) (hi := hj) (s := s) (ns := .slice a1 n1 c1) (ks := .slice a2 n2 c2) b1 hb)
        have HE := Lib.hid ((b2.under hb).tree b3)
        have HS := Lib.hid (line_same HE.out (by omega) (HT.out.below HB2.out))
        clear b1 b2 b3 b4 b5 hb HI
        obtain ⟨a0, a1, a2, a3, a4, a5⟩ := HX.out.cells
        go_wp2_with fail
        refine HS.out.mono ?_
        rintro e w3 ⟨rfl, hb⟩
        have HB3 := Lib.hid (below_then HB2.out hb)
        clear hb
        go_wp2_with fail
        go_ret
        exact ⟨rfl, HB3.out⟩

set_option maxRecDepth 100000 in
set_option maxHeartbeats 1000000 in
theorem lifted (os : Os) (started : os.Started) (H : Type) (enc : TypeId × Value → H) :
    ReturnsInHanded {} Tryd.checked os 5 .any (fun w args => (Rows.tellerDeepSpec.pre enc Tryd.prog Tryd.f5 Rows.tellerDeepRow.domain false w args ∧ laidMetH Tryd.prog Rows.tellerDeepRow.laid w) ∧ sizedMet enc Tryd.prog Tryd.f5 (OpenSpec.ofChange Rows.tellerDeepSpec) false w args)
      (Rows.tellerDeepSpec.post enc Tryd.prog Tryd.f5 false true false false) := by
  refine returnsInHanded_of_change_and (C := Tryd.checked) (X := fun w _ => laidMetH Tryd.prog Rows.tellerDeepRow.laid w) (fun _ _ _ hh h => h.of_heap hh) noKnob started (by kernel_rfl) Tryd.func5
    (ChangeSpec.witness_shaped (enc := enc) (C := Tryd.checked) (os := os) (X := fun w _ => laidMetH Tryd.prog Rows.tellerDeepRow.laid w) false (World.laidAll Tryd.prog os Rows.tellerDeepRow.laid) #[.int .u8 0, .int .u8 0] 8 (World.laidAll_os _ _ _)
      (World.shaped_of_ZipB (by kernel_rfl) (by kernel_rfl)) (by kernel_rfl) (by kernel_rfl) (by kernel_rfl)
      (by rw [MakeChecks.laidMetH_plain _ _ _ (by kernel_rfl)]; exact laidMet_laidAll _ (by kernel_rfl) (by kernel_rfl))) ?_
  intro W base args ds gs before hval0 hW hcnd _ hL _
  have hval : ∀ (j : Nat) t v, Tryd.f5.params[j]? = some t → args[j]? = some v → Value.okWide Tryd.prog W .any base t v := hval0
  have hW' := hW
  obtain ⟨p, q, hA0, hV, rfl, hfz, hnd⟩ := hW
  have hA : DataW.TrodAll enc Tryd.prog W 0 (fun _ => true) true Tryd.f5.params.toList args.toList ds p := hA0
  rw [Tryd.params5] at hA hval
  obtain ⟨v0, vs0, d0, ds0, p0, q0, hargs, rfl, rfl, h0, r0⟩ := trodAll_cons hA
  obtain ⟨v1, vs1, d1, ds1, p1, q1, rfl, rfl, rfl, h1, r1⟩ := trodAll_cons r0
  obtain ⟨rfl, rfl, rfl⟩ := trodAll_nil r1
  obtain rfl : args = #[v0, v1] := by cases args; simp_all
  obtain ⟨rfl, rfl⟩ := trodVars_none hV
  clear hA0 hval0 hA
  simp only [List.append_nil] at hW'
  have hlt := hW'.lt
  obtain ⟨x0, rfl, rfl, rfl, w0⟩ := open_int Tryd.underlying5 (hval 0 5 v0 rfl rfl) h0
  have b0 := bounds_u8 w0
  obtain ⟨x1, rfl, rfl, rfl, w1⟩ := open_int Tryd.underlying5 (hval 1 5 v1 rfl rfl) h1
  have b1 := bounds_u8 w1
  refine (walk x0 x1 W (tabs_of_laid hL (MakeChecks.laidMetH_plain _ _ _ (by kernel_rfl)) (by kernel_rfl) (by kernel_rfl)) b0 b1).mono fun e W' ⟨he, hg⟩ => ?_
  subst he
  exact ⟨_, rfl, post_of_old (pv := []) hW' (fun _ _ _ => trodAll_cons_mk (shut_bool Tryd.underlying4 _) trodAll_mk0) (trodAll_cons_mk (Below.trod laidOutP (by kernel_rfl) (of_decide_eq_true (by kernel_rfl)) h0 hg (fun x hx => by simp at hx)) (trodAll_cons_mk (Below.trod laidOutP (by kernel_rfl) (of_decide_eq_true (by kernel_rfl)) h1 hg (fun x hx => by simp at hx)) (trodAll_mk0))) (fun _ => rfl) (by simp) hg⟩

theorem over : Rows.tellerDeepRow.holds Tryd.pinned (OpenSpec.ofChange Rows.tellerDeepSpec) :=
  OpenClaim.holds_of_wide 5 Tryd.f5 rfl rfl rfl rfl rfl rfl rfl ⟨rfl, rfl, rfl, rfl, rfl⟩ rfl rfl rfl rfl rfl (by kernel_rfl) Tryd.func5 (by kernel_rfl)
    (of_decide_eq_true (by kernel_rfl)) (by unfold Func.isWrapper; first | (rw [if_pos (by decide +kernel)]; kernel_rfl) | (rw [if_neg (by decide +kernel)]; exact ⟨rfl, rfl⟩))
    (fun os started H enc _ => lifted os started H enc)

/-- No parameter wants a stand-in. -/
theorem plain (f : FuncId) (fn : Func) (hf : Tryd.pinned.checked.prog.funcNamed "reglet/regletlaw04.TellerDeep" = some f) (hfn : Tryd.pinned.checked.prog.funcs[f]? = some fn) :
    false = Tryd.pinned.checked.prog.looks [] ∧ ∀ (j : Nat) t, fn.params[j]? = some t → Tryd.pinned.checked.prog.wantsStandIn t = false := by
  obtain rfl : f = 5 := Option.some.inj ((show Tryd.prog.funcNamed "reglet/regletlaw04.TellerDeep" = some 5 by kernel_rfl).symm.trans hf) |>.symm
  obtain rfl : fn = Tryd.f5 := (Option.some.inj (Tryd.func5.symm.trans hfn)).symm
  refine ⟨by kernel_rfl, fun j t ht => ?_⟩
  rw [Tryd.params5] at ht
  have hm : t ∈ [5, 5] := by simpa using Array.mem_of_getElem? ht
  have hall : ([5, 5].all fun u => !Tryd.prog.wantsStandIn u) = true := by kernel_rfl
  exact (show Tryd.prog.wantsStandIn t = false by simpa using List.all_eq_true.1 hall t hm)

/-- The statement. -/
theorem proved : Rows.TellerDeepCardSaid :=
  Claim7.holds_tied_plain_at .later [] _ _ _ _ over (fun _ h => by cases h) (by kernel_rfl) (fun _ h => by cases h) tellerDeep_row_tie rfl ⟨rfl, rfl⟩ (by kernel_rfl) rfl plain (by kernel_rfl)

#print axioms proved
end Go.Proofs.YtddbaacibdmnaaaDoor.tellerDeep
