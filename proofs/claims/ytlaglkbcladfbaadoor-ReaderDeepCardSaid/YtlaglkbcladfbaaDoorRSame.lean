/- Same and SameLines answer true where both sides are one expression, one list of rules. -/
import Derived.Test.YtlaglkbcladfbaaDoorRRead
import Derived.StillTailTactics
import Derived.MapKept
namespace Go.Proofs.YtlaglkbcladfbaaDoor
open Go.RowKit
set_option linter.unusedVariables false
set_option linter.unusedSimpArgs false

/-- A slice that reads as these cells, its head open. -/
def RowOf (W : World) (a : Option Addr) (n : Nat) (xs : List Value) : Prop := 0 < n → ∃ g, a = some ⟨g, 0, none⟩ ∧ g < W.heap.size ∧ ∀ (j : Nat) (u : Value), xs[j]? = some u → W.cell? ⟨g, j, none⟩ = some u
theorem RowIn.open {W : World} {P : Nat → Prop} {v : Value} {n : Nat} {xs : List Value} (h : RowIn W P v n xs) : ∃ a cap, v = .slice a n cap ∧ n ≤ cap ∧ n ≤ 9223372036854775807 ∧ RowOf W a n xs := by
  rcases h with ⟨rfl, rfl⟩ | ⟨g, cap, rfl, hc, hm, _, hg, h⟩
  · exact ⟨none, 0, rfl, Nat.le_refl _, by omega, fun h => absurd h (by omega)⟩
  · unfold maxLen at hm
    exact ⟨some ⟨g, 0, none⟩, cap, rfl, hc, by omega, fun _ => ⟨g, rfl, hg, h⟩⟩
theorem RowOf.below {W W' : World} {a : Option Addr} {n : Nat} {xs : List Value} (h : RowOf W a n xs) (hb : Below W.heap.size W W') : RowOf W' a n xs := by
  intro hn
  obtain ⟨g, ha, hg, hc⟩ := h hn
  exact ⟨g, ha, Nat.lt_of_lt_of_le hg hb.size, fun j u hj => (hb.cell (p := ⟨g, j, none⟩) hg).trans (hc j u hj)⟩

theorem str_same (s : ByteArray) : (s == s) = true := (Go.MapKept.bytes_beq s s).2 rfl
theorem str_same' (s : ByteArray) : (s != s) = false := by
  show (!(s == s)) = false
  rw [str_same]; rfl

/-- The cells of an expression in a block. -/
def CellsX (W : World) (g : Nat) (k : Int) (s : ByteArray) (ns : Value) (lo hi : Int) (ks : Value) : Prop :=
  W.cell? ⟨g, 0, none⟩ = some (.int .i64 k) ∧ W.cell? ⟨g, 1, none⟩ = some (.string s) ∧ W.cell? ⟨g, 2, none⟩ = some ns ∧ W.cell? ⟨g, 3, none⟩ = some (.int .i64 lo) ∧ W.cell? ⟨g, 4, none⟩ = some (.int .i64 hi) ∧ W.cell? ⟨g, 5, none⟩ = some ks
/-- Both expressions lie in the call's own blocks; nothing else has changed. -/
def Boxed (w : World) (k lo hi : Int) (s : ByteArray) (a b c d : Option Addr) (n m ca cb cc cd : Nat) (wr : World) : Prop :=
  CellsX wr w.heap.size k s (.slice a n ca) lo hi (.slice c m cc) ∧ CellsX wr (w.heap.size + 1) k s (.slice b n cb) lo hi (.slice d m cd) ∧ Below w.heap.size w wr

theorem boxed_new (w : World) (k lo hi : Int) (s : ByteArray) (a b c d : Option Addr) (n m ca cb cc cd : Nat) :
    Boxed w k lo hi s a b c d n m ca cb cc cd ((w.alloc (.cells #[.int .i64 k, .string s, .slice a n ca, .int .i64 lo, .int .i64 hi, .slice c m cc] 43)).alloc (.cells #[.int .i64 k, .string s, .slice b n cb, .int .i64 lo, .int .i64 hi, .slice d m cd] 43)) := by
  refine ⟨?_, ?_, ((Below.refl _ _).alloc (Nat.le_refl _) _).alloc (by simp) _⟩
  · unfold CellsX; simp [go_sem]
  · unfold CellsX; simp [go_sem]

theorem Boxed.drew {w : World} {k lo hi : Int} {s : ByteArray} {a b c d : Option Addr} {n m ca cb cc cd : Nat} {wr : World} (h : Boxed w k lo hi s a b c d n m ca cb cc cd wr) (q : Nat) : Boxed w k lo hi s a b c d n m ca cb cc cd (wr.drewN q) := ⟨h.1, h.2.1, below_drawn h.2.2 q⟩

theorem CellsX.under {W W1 : World} {g : Nat} {k lo hi : Int} {s : ByteArray} {ns ks : Value} (h : CellsX W g k s ns lo hi ks) (hb : Below W.heap.size W W1) : CellsX W1 g k s ns lo hi ks := by
  have hg : g < W.heap.size := World.block_lt_of_cell? W ⟨g, 0, none⟩ h.1
  obtain ⟨h0, h1, h2, h3, h4, h5⟩ := h
  exact ⟨(hb.cell (p := ⟨g, 0, none⟩) hg).trans h0, (hb.cell (p := ⟨g, 1, none⟩) hg).trans h1, (hb.cell (p := ⟨g, 2, none⟩) hg).trans h2, (hb.cell (p := ⟨g, 3, none⟩) hg).trans h3, (hb.cell (p := ⟨g, 4, none⟩) hg).trans h4, (hb.cell (p := ⟨g, 5, none⟩) hg).trans h5⟩
theorem Boxed.under {w : World} {k lo hi : Int} {s : ByteArray} {a b c d : Option Addr} {n m ca cb cc cd : Nat} {wr w1 : World} (h : Boxed w k lo hi s a b c d n m ca cb cc cd wr) (hb : Below wr.heap.size wr.drew w1) : Boxed w k lo hi s a b c d n m ca cb cc cd w1 := by
  have h2 : Below wr.heap.size wr w1 := ⟨hb.os, hb.tape, hb.output, hb.size, hb.block⟩
  exact ⟨h.1.under h2, h.2.1.under h2, h.2.2.trans (h2.mono h.2.2.size)⟩

set_option maxRecDepth 100000 in
set_option maxHeartbeats 8000000 in
theorem same_any {W : World} {P : Nat → Prop} {x : XV} {t : Tree} (h : TreeAt W P x t) : ∀ (W' : World) (P' : Nat → Prop) (y : XV), Below W.heap.size W W' → TreeAt W' P' y t →
    Calls Tryd.prog 42 #[x.val, y.val] W' (GivesBool true W') := by
  induction h with
  | @mk k lo hi ns ks tx nums kids vs h1 h2 h3 h4 ih =>
    intro w P' y hb hy
    cases hy with
    | @mk _ _ _ ns' ks' _ _ _ us g1 g2 g3 g4 =>
    obtain ⟨a, ca, rfl, hca, hna, ra⟩ := h1.open
    obtain ⟨b, cb, rfl, hcb, hnb, rb⟩ := g1.open
    obtain ⟨c, cc, rfl, hcc, hnc, rc⟩ := h2.open
    obtain ⟨d, cd, rfl, hcd, hnd, rd0⟩ := g2.open
    obtain ⟨s, hs⟩ : ∃ s, s = strOf tx := ⟨_, rfl⟩
    rw [← hs]
    have RA := Lib.hid (ra.below hb)
    have RB := Lib.hid rb
    have RC := Lib.hid (rc.below hb)
    have RD := Lib.hid rd0
    obtain ⟨n, hn⟩ : ∃ n, n = nums.length := ⟨_, rfl⟩
    obtain ⟨m, hm⟩ : ∃ m, m = kids.length := ⟨_, rfl⟩
    rw [← hn] at RA RB hca hcb hna ⊢
    rw [← hm] at RC RD hcc hcd hnc ⊢
    have IH : Hid (∀ (i : Nat) (y : XV) (t : Tree), vs[i]? = some y → kids[i]? = some t → ∀ (W' : World) (P' : Nat → Prop) (y_1 : XV), Below W.heap.size W W' → TreeAt W' P' y_1 t → Calls Tryd.prog 42 #[y.val, y_1.val] W' (GivesBool true W')) := ih
    have HB := Lib.hid hb
    have G4 := Lib.hid g4
    have HN := Lib.hid hn
    have HM := Lib.hid hm
    have H3 := Lib.hid h3
    have G3 := Lib.hid g3
    have es := str_same' s
    have es2 := str_same s
    clear h1 h2 h3 h4 ih hb g1 g2 g3 g4 ra rb rc rd0 hs hn hm hnb hnd
    show Calls _ _ #[.agg #[.int .i64 k, .string s, .slice a n ca, .int .i64 lo, .int .i64 hi, .slice c m cc], .agg #[.int .i64 k, .string s, .slice b n cb, .int .i64 lo, .int .i64 hi, .slice d m cd]] w _
    go_enter Tryd.func42, Tryd.ntmps42
    go_wp2_with fail
    go_loopw [5] (fun v wr => ∃ j : Nat, v = .int .i64 j ∧ j ≤ n ∧ Boxed w k lo hi s a b c d n m ca cb cc cd wr) (fun v _ => n - (intOf v).toNat)
    case atStart => exact ⟨0, rfl, by omega, boxed_new w k lo hi s a b c d n m ca cb cc cd⟩
    case round =>
      obtain ⟨j, rfl, hj, hbx⟩ := hrel
      have HBX := Lib.hid hbx
      obtain ⟨⟨p0, p1, p2, p3, p4, p5⟩, ⟨q0, q1, q2, q3, q4, q5⟩, hbel⟩ := hbx
      have HBEL := Lib.hid hbel
      by_cases hlt : j < n
      · obtain ⟨g, rfl, hg, hca'⟩ := RA.out (by omega)
        obtain ⟨g', rfl, hg', hcb'⟩ := RB.out (by omega)
        have hjn : j < nums.length := by rw [← HN.out]; exact hlt
        have e0 := (hbel.cell (p := ⟨g, j, none⟩) hg).trans (hca' j _ (icells_at nums j hjn))
        have e1 := (hbel.cell (p := ⟨g', j, none⟩) hg').trans (hcb' j _ (icells_at nums j hjn))
        obtain ⟨u, hu⟩ : ∃ u, u = nums[j] := ⟨_, rfl⟩
        rw [← hu] at e0 e1
        have eu : (u != u) = false := by simp
        have q6 : decide ((j : Int) < (n : Int)) = true := decide_eq_true (by omega)
        clear hca' hcb' hu hbel hg hg' p0 p1 p3 p4 p5 q0 q1 q3 q4 q5
        have HP := p2
        go_wp2_with fail
        go_quiet (fail)
        go_wp2_with fail
        go_roundw
        case rel => exact ⟨j + 1, by go_num, by omega, HBX.out.drew _⟩
        case measure => simp [intOf]; omega
      · have q6 : decide ((j : Int) < (n : Int)) = false := decide_eq_false (by omega)
        obtain ⟨w0, hw0⟩ : ∃ y, y = wr := ⟨_, rfl⟩
        subst hw0
        clear hbel p0 p1 p3 p4 p5 q0 q1 q3 q4 q5
        go_wp2_with fail
        clear p2 q2 q6 hlt hj HBEL
        go_loopw [6] (fun v wr => ∃ j : Nat, v = .int .i64 j ∧ j ≤ m ∧ Boxed w k lo hi s a b c d n m ca cb cc cd wr) (fun v _ => m - (intOf v).toNat)
        case atStart => exact ⟨0, rfl, by omega, HBX.out⟩
        case round =>
          clear HBX
          obtain ⟨j, rfl, hj, hbx⟩ := hrel
          have HBX := Lib.hid hbx
          obtain ⟨⟨p0, p1, p2, p3, p4, p5⟩, ⟨q0, q1, q2, q3, q4, q5⟩, hbel⟩ := hbx
          by_cases hlt : j < m
          · obtain ⟨g, rfl, hg, hca'⟩ := RC.out (by omega)
            obtain ⟨g', rfl, hg', hcb'⟩ := RD.out (by omega)
            obtain ⟨vx, hvx⟩ : ∃ y, vs[j]? = some y := ⟨_, List.getElem?_eq_getElem (by rw [H3.out, ← HM.out]; exact hlt)⟩
            obtain ⟨uy, huy⟩ : ∃ y, us[j]? = some y := ⟨_, List.getElem?_eq_getElem (by rw [G3.out, ← HM.out]; exact hlt)⟩
            obtain ⟨tt, htt⟩ : ∃ y, kids[j]? = some y := ⟨_, List.getElem?_eq_getElem (by rw [← HM.out]; exact hlt)⟩
            have CX : ∀ (i : Nat) (u : Value), i < 6 → vx.cells[i]? = some u → wr.cell? ⟨g, j * 6 + i, none⟩ = some u := fun i u hi hu =>
              (hbel.cell (p := ⟨g, j * 6 + i, none⟩) hg).trans (hca' _ u ((flat_at vs j i vx hvx hi).trans hu))
            have CY : ∀ (i : Nat) (u : Value), i < 6 → uy.cells[i]? = some u → wr.cell? ⟨g', j * 6 + i, none⟩ = some u := fun i u hi hu =>
              (hbel.cell (p := ⟨g', j * 6 + i, none⟩) hg').trans (hcb' _ u ((flat_at us j i uy huy hi).trans hu))
            have e0 := CX 0 _ (by omega) rfl
            have e1 := CX 1 _ (by omega) rfl
            have e2 := CX 2 _ (by omega) rfl
            have e3 := CX 3 _ (by omega) rfl
            have e4 := CX 4 _ (by omega) rfl
            have e5 := CX 5 _ (by omega) rfl
            have f0 := CY 0 _ (by omega) rfl
            have f1 := CY 1 _ (by omega) rfl
            have f2 := CY 2 _ (by omega) rfl
            have f3 := CY 3 _ (by omega) rfl
            have f4 := CY 4 _ (by omega) rfl
            have f5 := CY 5 _ (by omega) rfl
            have CALL : Hid (∀ W1, Below wr.heap.size wr W1 → Calls Tryd.prog 42 #[vx.val, uy.val] W1 (GivesBool true W1)) := fun W1 hb1 => by
              have hlo : w.heap.size ≤ wr.heap.size := hbel.size
              have hw1 : Below w.heap.size w W1 := hbel.trans (hb1.mono hlo)
              exact IH.out j vx tt hvx htt W1 P' uy (HB.out.trans (hw1.mono HB.out.size)) ((G4.out j uy tt huy htt).under hw1)
            have q6 : decide ((j : Int) < (m : Int)) = true := decide_eq_true (by omega)
            rw [Nat.add_zero] at e0 f0
            obtain ⟨vk, vt, vns, vlo, vhi, vks⟩ := vx
            obtain ⟨uk, ut, uns, ulo, uhi, uks⟩ := uy
            clear CX CY hca' hcb' hg hg' hvx huy htt hbel p0 p1 p2 p3 p4 q0 q1 q2 q3 q4
            go_wp2_with fail
            go_still_tail 10, (by kernel_rfl)
            change wpList _ _ _ _ _ wr.drew
            go_wp2_with fail
            refine (CALL.out _ ((Below.refl _ _).drew)).mono ?_
            rintro e w1 ⟨rfl, hb1⟩
            have HX := Lib.hid (HBX.out.under (hb1.mono (Nat.le_refl _)))
            clear hb1 p5 q5 e0 e1 e2 e3 e4 e5 f0 f1 f2 f3 f4 f5
            go_wp2_with fail
            go_roundw
            case rel => exact ⟨j + 1, by go_num, by omega, HX.out⟩
            case measure => simp [intOf]; omega
          · have q6 : decide ((j : Int) < (m : Int)) = false := decide_eq_false (by omega)
            have HBE := Lib.hid hbel
            clear hbel p0 p1 p2 p3 p4 q0 q1 q2 q3 q4
            go_wp2_with fail
            go_ret
            exact ⟨rfl, HBE.out⟩

end Go.Proofs.YtlaglkbcladfbaaDoor
