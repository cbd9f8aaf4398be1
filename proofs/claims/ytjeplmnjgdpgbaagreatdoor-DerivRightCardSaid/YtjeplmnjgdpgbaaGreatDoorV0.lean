/- Joined texts; each begins with what it says. -/
import Derived.Test.YtjeplmnjgdpgbaaGreatDoorW5
import Derived.Deep.MidRow
import Derived.Test.YtjeplmnjgdpgbaaGreatDoorW3
import Derived.Test.YtjeplmnjgdpgbaaGreatDoorRight
import Derived.Test.YtjeplmnjgdpgbaaGreatDoorW6
/-! More kinds of operations of a region held by an invariant: fields' places, their slices, lengths, expressions in a row. No condition. -/
namespace Go.Proofs.YtjeplmnjgdpgbaaGreatDoor
open Go.RowKit Go.Lib
set_option linter.unusedVariables false
set_option linter.unusedSimpArgs false

/-- The operations of a region, wherever it stands. -/
noncomputable def opsIn (n : Nat) : Code → Array Oper
  | .region m ops _ => if m = n then ops else #[]
  | .seq a b => if (opsIn n a).size = 0 then opsIn n b else opsIn n a
  | .cond _ a b => if (opsIn n a).size = 0 then opsIn n b else opsIn n a
  | .block _ c => opsIn n c
  | .loop c => opsIn n c
  | .scope c => opsIn n c
  | _ => #[]
section
variable {ops : Array Oper} {W w w' : World} {v : Value} {i j : Nat} {L : Array Bool} {a : Act} {s : SD} {K : Act → World → Prop} {Q : Exit → Act → World → Prop} {o : Oper}
theorem fa2 (B : Nat) (w : World) : (Instr.fieldAt 29 (.pointer (some ⟨B, 0, none⟩)) 2).run Tryz.prog w = .ok (.pointer (some ⟨B, 5, none⟩)) w := by
  kernel_rfl
theorem opFA {c : Tmp} {B : Nat} (hc : a.tmps.getD c undef = .pointer (some ⟨B, 0, none⟩)) (ho : o.op = .fieldAddr 29 (.tmp c) 2) (hK : ∀ v w', (SD.v (.pointer (some ⟨B, 5, none⟩))).at w' v → Below w.heap.size w w' → K (a.put o.dst v) w') : o.wp Tryz.prog a w K Q := by
  have hx : a.eval (.tmp c) = .pointer (some ⟨B, 0, none⟩) := hc
  have hk := hK (.pointer (some ⟨B, 5, none⟩)) w rfl (Below.refl _ _)
  unfold Oper.wp
  generalize a.eval = ev at hx ⊢
  simp [execOp, ho, hx, fa2]
  exact hk
theorem opLoadS {c : Tmp} {p : Addr} {q : Option Addr} {m cp : Nat} (hc : a.tmps.getD c undef = .pointer (some p)) (hp : w.cell? p = some (.slice q m cp)) (ho : o.op = .load 27 (.tmp c)) (hK : ∀ v w', (SD.v (.slice q m cp)).at w' v → Below w.heap.size w w' → K (a.put o.dst v) w') : o.wp Tryz.prog a w K Q := by
  have hx : a.eval (.tmp c) = .pointer (some p) := hc
  have hk := hK (.slice q m cp) w rfl (Below.refl _ _)
  have hu := Tryz.underlying27
  unfold Oper.wp
  generalize a.eval = ev at hx ⊢
  simp [execOp, ho, hx, hu, hp, go_sem]
  exact hk
theorem opLenS {c : Tmp} {q : Option Addr} {m cp : Nat} (hc : a.tmps.getD c undef = .slice q m cp) (ho : o.op = .call { callee := .builtin .len, args := #[.tmp c], argTypes := #[27] }) (hK : ∀ v w', (SD.v (.int .i64 (m : Int))).at w' v → Below w.heap.size w w' → K (a.put o.dst v) w') : o.wp Tryz.prog a w K Q := by
  have hx : a.eval (.tmp c) = .slice q m cp := hc
  have hk := hK (.int .i64 (m : Int)) w rfl (Below.refl _ _)
  have hu := Tryz.underlying27
  unfold Oper.wp
  generalize a.eval = ev at hx ⊢
  simp [execOp, ho, hx, hu, go_sem]
  exact hk
theorem opPickB {c d : Tmp} {b : Bool} (hc : a.tmps.getD c undef = tt) (hd : a.tmps.getD d undef = .bool b) (ho : o.op = .pick (.tmp c) (.tmp d) (.const (.bool false))) (hK : ∀ v w', (SD.v (.bool b)).at w' v → Below w.heap.size w w' → K (a.put o.dst v) w') : o.wp Tryz.prog a w K Q := by
  have hx : a.eval (.tmp c) = .bool true := hc
  have hy : a.eval (.tmp d) = .bool b := hd
  have hk := hK (.bool b) w rfl (Below.refl _ _)
  unfold Oper.wp
  generalize a.eval = ev at hx hy ⊢
  simp [execOp, ho, hx, hy, go_sem]
  exact hk
theorem opGtI {c : Tmp} {n : Nat} {z : Int} (hz : z < (n : Int)) (hc : a.tmps.getD c undef = .int .i64 (n : Int)) (ho : o.op = .binOp .gtr 3 (.tmp c) (.const (.int .i64 z)) 3) (hK : ∀ v w', (SD.v tt).at w' v → Below w.heap.size w w' → K (a.put o.dst v) w') : o.wp Tryz.prog a w K Q := by
  have hx : a.eval (.tmp c) = .int .i64 (n : Int) := hc
  have hy : a.eval (.const (.int .i64 z)) = .int .i64 z := rfl
  have hk := hK (.bool true) w rfl (Below.refl _ _)
  unfold Oper.wp
  generalize a.eval = ev at hx hy ⊢
  simp [execOp, ho, hx, hy, go_sem, hz]
  exact hk
theorem opIdx0 {c : Tmp} {g off m cp : Nat} (hm : 0 < m) (hc : a.tmps.getD c undef = .slice (some ⟨g, off, none⟩) m cp) (ho : o.op = .indexAddr 27 (.tmp c) (.const (.int .i64 0))) (hK : ∀ v w', (SD.v (.pointer (some ⟨g, off, none⟩))).at w' v → Below w.heap.size w w' → K (a.put o.dst v) w') : o.wp Tryz.prog a w K Q := by
  have hx : a.eval (.tmp c) = .slice (some ⟨g, off, none⟩) m cp := hc
  have hy : a.eval (.const (.int .i64 0)) = .int .i64 0 := rfl
  have hk := hK (.pointer (some ⟨g, off, none⟩)) w rfl (Below.refl _ _)
  have hu := Tryz.underlying27
  unfold Oper.wp
  generalize a.eval = ev at hx hy ⊢
  simp [execOp, ho, hx, hy, hu, hm, go_sem]
  exact hk
theorem opLoadAt {d : Tmp} {g off : Nat} {y : ReV} {t : RT} {P : Nat → Prop} (hd : a.tmps.getD d undef = .pointer (some ⟨g, off, none⟩)) (hp : PlaceR w g off y) (hr : RAt w P y t) (ho : o.op = .load 29 (.tmp d))
    (hK : ∀ v w', (SD.x t).at w' v → Below w.heap.size w w' → K (a.put o.dst v) w') : o.wp Tryz.prog a w K Q := by
  have hv : y.val = .agg y.cells.toArray := by cases y; rfl
  have hcl : y.cells.length = 6 := by cases y; rfl
  refine wp_load_mid 29 (.tmp d) ho g off hd y.cells _ (fun j u hj => hp.2 j u hj) Tryz.underlying29 rfl (by rw [infoReD, hcl]) (hK _ _ ⟨y, hv.symm, hr.weak fun _ _ _ => trivial⟩ (Below.refl _ _))
end

end Go.Proofs.YtjeplmnjgdpgbaaGreatDoor

/-! The last regions of the document's Right: whatever order their operations take, they say what Same says. No condition. -/
namespace Go.Proofs.YtjeplmnjgdpgbaaGreatDoor
open Go.RowKit Go.Lib
set_option linter.unusedVariables false
set_option linter.unusedSimpArgs false

noncomputable def opsR3 : Array Oper := ((Tryz.prog.funcs[11]?.bind (·.body)).map (opsIn 17)).getD #[]
theorem entC : ∀ args w, (callFunc 13 args).run Tryz.prog w = .ok (.enter 13 args) w := enters_of Tryz.func13 (by kernel_rfl) rfl
theorem entE : ∀ args w, (callFunc 28 args).run Tryz.prog w = .ok (.enter 28 args) w := enters_of Tryz.func28 (by kernel_rfl) rfl
theorem entRT : ∀ args w, (callFunc 14 args).run Tryz.prog w = .ok (.enter 14 args) w := enters_of Tryz.func14 (by kernel_rfl) rfl
theorem entRS : ∀ args w, (callFunc 15 args).run Tryz.prog w = .ok (.enter 15 args) w := enters_of Tryz.func15 (by kernel_rfl) rfl
theorem GivesRe.any3 {P : Nat → Prop} {t : RT} {w : World} {e : Ending} {w' : World} (h : GivesRe P t w e w') : GivesRe (fun _ => True) t w e w' := by
  obtain ⟨x, he, hr, hb⟩ := h
  exact ⟨x, he, hr.weak fun _ _ _ => trivial, hb⟩
noncomputable def sR3 (B : Nat) (x : ReV) (t m : RT) (q : Option Addr) (n cp : Nat) (R : Bool) : List SD := [.v (.pointer (some ⟨B, 5, none⟩)), .v (.slice q n cp), .v (.int .i64 (n : Int)), .v tt, .v tt, .v (.pointer (some ⟨B, 5, none⟩)), .v (.slice q n cp), .x m, .x t, .v (.bool R), .v (.bool R), .v (.bool R)]
noncomputable def fR3 (B : Nat) (x : ReV) (t m : RT) (q : Option Addr) (n cp : Nat) (R : Bool) : List (Nat × Value) := [(1, .pointer (some ⟨B, 0, none⟩))]
theorem regKR3 (B : Nat) (x : ReV) (t m : RT) (q : Option Addr) (n cp : Nat) (R : Bool) : RegK opsR3 12 89 2 65 (sR3 B x t m q n cp R) (fR3 B x t m q n cp R) :=
  ⟨by kernel_rfl, by kernel_rfl, rfl, by decide, by decide, (fun x hx => by simp [fR3] at hx; subst hx; simp)⟩
/-- What is known. -/
structure HR3 (B : Nat) (x : ReV) (t m : RT) (q : Option Addr) (n cp : Nat) (R : Bool) (W : World) : Prop where
  hC : W.heap[B]? = some (.cells x.cells.toArray 29 (0, 0))
  hx : RAt W (fun _ => True) x t
  hF : W.cell? ⟨B, 5, none⟩ = some (.slice q n cp)
  hn : (1 : Int) < (n : Int)
  hM : ∀ w, Below W.heap.size W w → Calls Tryz.prog 13 #[.slice q n cp] w (GivesRe (fun _ => True) m w)
  hS : ∀ w, Below W.heap.size W w → ∀ y y', RAt w (fun _ => True) y m → RAt w (fun _ => True) y' t → Calls Tryz.prog 15 #[y.val, y'.val] w (GivesBool R w)
set_option maxRecDepth 100000 in
set_option maxHeartbeats 8000000 in
theorem stepR3 (B : Nat) (x : ReV) (t m : RT) (q : Option Addr) (n cp : Nat) (R : Bool) {W w : World} {L : Array Bool} {a : Act} {i : Nat} {Q : Exit → Act → World → Prop} (hH : HR3 B x t m q n cp R W) (hL : L.size = 12) (hJ : JR 12 89 2 65 (sR3 B x t m q n cp R) (fR3 B x t m q n cp R) W L a w) (hr : i ∈ Region.ready .any opsR3 L) (hi : i < 12) : wpOp Tryz.prog opsR3 Q i (JR 12 89 2 65 (sR3 B x t m q n cp R) (fR3 B x t m q n cp R) W (L.setIfInBounds i true)) a w := by
  have hk := regKR3 B x t m q n cp R
  match i, hi with
  | 0, _ => exact atP (d := 65) (by kernel_rfl) fun o ho hd => opFA (c := 1) (hJ.2.2.2.1 (1, .pointer (some ⟨B, 0, none⟩)) (by simp [fR3])) ho (fun v w' hs hb => by rw [hd]; exact hJ.step hk (i := 0) (s := .v (.pointer (some ⟨B, 5, none⟩))) rfl hL hs hb)
  | 1, _ => exact atP (d := 66) (by kernel_rfl) fun o ho hd => opLoadS (c := 65) (p := ⟨B, 5, none⟩) (q := q) (m := n) (cp := cp) (hJ.get (i := 1) (j := 0) hr (by kernel_rfl) rfl) ((hJ.2.2.1.cell (p := ⟨B, 5, none⟩) (Array.getElem?_eq_some_iff.1 hH.hC).1).trans hH.hF) ho (fun v w' hs hb => by rw [hd]; exact hJ.step hk (i := 1) (s := .v (.slice q n cp)) rfl hL hs hb)
  | 2, _ => exact atP (d := 67) (by kernel_rfl) fun o ho hd => opLenS (c := 66) (q := q) (m := n) (cp := cp) (hJ.get (i := 2) (j := 1) hr (by kernel_rfl) rfl) ho (fun v w' hs hb => by rw [hd]; exact hJ.step hk (i := 2) (s := .v (.int .i64 (n : Int))) rfl hL hs hb)
  | 3, _ => exact atP (d := 68) (by kernel_rfl) fun o ho hd => opGtI (n := n) (z := 1) (c := 67) hH.hn (hJ.get (i := 3) (j := 2) hr (by kernel_rfl) rfl) ho (fun v w' hs hb => by rw [hd]; exact hJ.step hk (i := 3) (s := .v tt) rfl hL hs hb)
  | 4, _ => exact atP (d := 69) (by kernel_rfl) fun o ho hd => opMove (d := 68) (s := (SD.v tt)) (hJ.get (i := 4) (j := 3) hr (by kernel_rfl) rfl) ho (fun v w' hs hb => by rw [hd]; exact hJ.step hk (i := 4) (s := .v tt) rfl hL hs hb)
  | 5, _ => exact atG (d := 70) (g := 4) (m := 69) (by kernel_rfl) (by kernel_rfl) (hJ.get (i := 5) (j := 4) hr (by kernel_rfl) rfl) fun o ho hd => opFA (c := 1) (hJ.2.2.2.1 (1, .pointer (some ⟨B, 0, none⟩)) (by simp [fR3])) ho (fun v w' hs hb => by rw [hd]; exact hJ.step hk (i := 5) (s := .v (.pointer (some ⟨B, 5, none⟩))) rfl hL hs hb)
  | 6, _ => exact atG (d := 71) (g := 4) (m := 69) (by kernel_rfl) (by kernel_rfl) (hJ.get (i := 6) (j := 4) hr (by kernel_rfl) rfl) fun o ho hd => opLoadS (c := 70) (p := ⟨B, 5, none⟩) (q := q) (m := n) (cp := cp) (hJ.get (i := 6) (j := 5) hr (by kernel_rfl) rfl) ((hJ.2.2.1.cell (p := ⟨B, 5, none⟩) (Array.getElem?_eq_some_iff.1 hH.hC).1).trans hH.hF) ho (fun v w' hs hb => by rw [hd]; exact hJ.step hk (i := 6) (s := .v (.slice q n cp)) rfl hL hs hb)
  | 7, _ => exact atG (d := 72) (g := 4) (m := 69) (by kernel_rfl) (by kernel_rfl) (hJ.get (i := 7) (j := 4) hr (by kernel_rfl) rfl) fun o ho hd => opCall1 (x := .tmp 71) (u := .slice q n cp) (T := #[27]) (s := SD.x m) (hJ.get (i := 7) (j := 6) hr (by kernel_rfl) rfl) ho (hH.hM w hJ.2.2.1) entC (fun _ _ h => treeOf h) (fun v w' hs hb => by rw [hd]; exact hJ.step hk (i := 7) (s := .x m) rfl hL hs hb)
  | 8, _ => exact atG (d := 73) (g := 4) (m := 69) (by kernel_rfl) (by kernel_rfl) (hJ.get (i := 8) (j := 4) hr (by kernel_rfl) rfl) fun o ho hd => opLoad (d := 1) (hJ.2.2.2.1 (1, .pointer (some ⟨B, 0, none⟩)) (by simp [fR3])) ((hJ.2.2.1.block _ (Array.getElem?_eq_some_iff.1 hH.hC).1).trans hH.hC) (hH.hx.under hJ.2.2.1) ho (fun v w' hs hb => by rw [hd]; exact hJ.step hk (i := 8) (s := .x t) rfl hL hs hb)
  | 9, _ => exact atG (d := 74) (g := 4) (m := 69) (by kernel_rfl) (by kernel_rfl) (hJ.get (i := 9) (j := 4) hr (by kernel_rfl) rfl) fun o ho hd => opTrees (T := #[29, 29]) (d := 72) (d' := 73) (s := (SD.v (.bool R))) (hJ.get (i := 9) (j := 7) hr (by kernel_rfl) rfl) (hJ.get (i := 9) (j := 8) hr (by kernel_rfl) rfl) ho (fun y y' hy hy' => hH.hS w hJ.2.2.1 y y' hy hy') entRS (fun _ _ h => boolOf h) (fun v w' hs hb => by rw [hd]; exact hJ.step hk (i := 9) (s := .v (.bool R)) rfl hL hs hb)
  | 10, _ => exact atP (d := 75) (by kernel_rfl) fun o ho hd => opPickB (c := 69) (d := 74) (b := R) (hJ.get (i := 10) (j := 4) hr (by kernel_rfl) rfl) (hJ.get (i := 10) (j := 9) hr (by kernel_rfl) rfl) ho (fun v w' hs hb => by rw [hd]; exact hJ.step hk (i := 10) (s := .v (.bool R)) rfl hL hs hb)
  | 11, _ => exact atP (d := 2) (by kernel_rfl) fun o ho hd => opAssign (d := 75) (s := (SD.v (.bool R))) (hJ.get (i := 11) (j := 10) hr (by kernel_rfl) rfl) ho (fun v w' hs hb => by rw [hd]; exact hJ.step hk (i := 11) (s := .v (.bool R)) rfl hL hs hb)
  | n + 12, h => omega
set_option maxRecDepth 100000 in
/-- The region, whatever order its operations take. -/
theorem regR3 (B : Nat) (x : ReV) (t m : RT) (q : Option Addr) (n cp : Nat) (R : Bool) {W : World} {tmps : Array Value} {ops : Array Oper} {Q : Exit → Act → World → Prop} (hH : HR3 B x t m q n cp R W) (hops : opsR3 = ops) (hsz : tmps.size = 89) (hf : ∀ q0 ∈ fR3 B x t m q n cp R, tmps.getD q0.1 undef = q0.2)
    (hQ : ∀ (tm : Array Value) (w : World), tm.size = 89 → tm.getD 2 undef = .bool R → Below W.heap.size W w → Q .normal ⟨tm, []⟩ w) : (Code.region 17 ops true).wp Tryz.prog Q ⟨tmps, []⟩ W :=
  region_all (regKR3 B x t m q n cp R) hops hsz hf (fun L a w i hL hJ hr hi => stepR3 B x t m q n cp R hH hL hJ hr hi) (fun tm w h1 _ h3 h4 => hQ tm w h1 (h3 11 (.v (.bool R)) rfl) h4)

noncomputable def opsR4 : Array Oper := ((Tryz.prog.funcs[11]?.bind (·.body)).map (opsIn 19)).getD #[]
noncomputable def sR4 (B : Nat) (x : ReV) (t m : RT) (q : Option Addr) (n cp : Nat) (R : Bool) : List SD := [.v (.pointer (some ⟨B, 5, none⟩)), .v (.slice q n cp), .v (.int .i64 (n : Int)), .v tt, .v tt, .v (.pointer (some ⟨B, 5, none⟩)), .v (.slice q n cp), .x m, .x t, .v (.bool R), .v (.bool R), .v (.bool R)]
noncomputable def fR4 (B : Nat) (x : ReV) (t m : RT) (q : Option Addr) (n cp : Nat) (R : Bool) : List (Nat × Value) := [(1, .pointer (some ⟨B, 0, none⟩))]
theorem regKR4 (B : Nat) (x : ReV) (t m : RT) (q : Option Addr) (n cp : Nat) (R : Bool) : RegK opsR4 12 89 2 78 (sR4 B x t m q n cp R) (fR4 B x t m q n cp R) :=
  ⟨by kernel_rfl, by kernel_rfl, rfl, by decide, by decide, (fun x hx => by simp [fR4] at hx; subst hx; simp)⟩
/-- What is known. -/
structure HR4 (B : Nat) (x : ReV) (t m : RT) (q : Option Addr) (n cp : Nat) (R : Bool) (W : World) : Prop where
  hC : W.heap[B]? = some (.cells x.cells.toArray 29 (0, 0))
  hx : RAt W (fun _ => True) x t
  hF : W.cell? ⟨B, 5, none⟩ = some (.slice q n cp)
  hn : (1 : Int) < (n : Int)
  hM : ∀ w, Below W.heap.size W w → Calls Tryz.prog 28 #[.slice q n cp] w (GivesRe (fun _ => True) m w)
  hS : ∀ w, Below W.heap.size W w → ∀ y y', RAt w (fun _ => True) y m → RAt w (fun _ => True) y' t → Calls Tryz.prog 15 #[y.val, y'.val] w (GivesBool R w)
set_option maxRecDepth 100000 in
set_option maxHeartbeats 8000000 in
theorem stepR4 (B : Nat) (x : ReV) (t m : RT) (q : Option Addr) (n cp : Nat) (R : Bool) {W w : World} {L : Array Bool} {a : Act} {i : Nat} {Q : Exit → Act → World → Prop} (hH : HR4 B x t m q n cp R W) (hL : L.size = 12) (hJ : JR 12 89 2 78 (sR4 B x t m q n cp R) (fR4 B x t m q n cp R) W L a w) (hr : i ∈ Region.ready .any opsR4 L) (hi : i < 12) : wpOp Tryz.prog opsR4 Q i (JR 12 89 2 78 (sR4 B x t m q n cp R) (fR4 B x t m q n cp R) W (L.setIfInBounds i true)) a w := by
  have hk := regKR4 B x t m q n cp R
  match i, hi with
  | 0, _ => exact atP (d := 78) (by kernel_rfl) fun o ho hd => opFA (c := 1) (hJ.2.2.2.1 (1, .pointer (some ⟨B, 0, none⟩)) (by simp [fR4])) ho (fun v w' hs hb => by rw [hd]; exact hJ.step hk (i := 0) (s := .v (.pointer (some ⟨B, 5, none⟩))) rfl hL hs hb)
  | 1, _ => exact atP (d := 79) (by kernel_rfl) fun o ho hd => opLoadS (c := 78) (p := ⟨B, 5, none⟩) (q := q) (m := n) (cp := cp) (hJ.get (i := 1) (j := 0) hr (by kernel_rfl) rfl) ((hJ.2.2.1.cell (p := ⟨B, 5, none⟩) (Array.getElem?_eq_some_iff.1 hH.hC).1).trans hH.hF) ho (fun v w' hs hb => by rw [hd]; exact hJ.step hk (i := 1) (s := .v (.slice q n cp)) rfl hL hs hb)
  | 2, _ => exact atP (d := 80) (by kernel_rfl) fun o ho hd => opLenS (c := 79) (q := q) (m := n) (cp := cp) (hJ.get (i := 2) (j := 1) hr (by kernel_rfl) rfl) ho (fun v w' hs hb => by rw [hd]; exact hJ.step hk (i := 2) (s := .v (.int .i64 (n : Int))) rfl hL hs hb)
  | 3, _ => exact atP (d := 81) (by kernel_rfl) fun o ho hd => opGtI (n := n) (z := 1) (c := 80) hH.hn (hJ.get (i := 3) (j := 2) hr (by kernel_rfl) rfl) ho (fun v w' hs hb => by rw [hd]; exact hJ.step hk (i := 3) (s := .v tt) rfl hL hs hb)
  | 4, _ => exact atP (d := 82) (by kernel_rfl) fun o ho hd => opMove (d := 81) (s := (SD.v tt)) (hJ.get (i := 4) (j := 3) hr (by kernel_rfl) rfl) ho (fun v w' hs hb => by rw [hd]; exact hJ.step hk (i := 4) (s := .v tt) rfl hL hs hb)
  | 5, _ => exact atG (d := 83) (g := 4) (m := 82) (by kernel_rfl) (by kernel_rfl) (hJ.get (i := 5) (j := 4) hr (by kernel_rfl) rfl) fun o ho hd => opFA (c := 1) (hJ.2.2.2.1 (1, .pointer (some ⟨B, 0, none⟩)) (by simp [fR4])) ho (fun v w' hs hb => by rw [hd]; exact hJ.step hk (i := 5) (s := .v (.pointer (some ⟨B, 5, none⟩))) rfl hL hs hb)
  | 6, _ => exact atG (d := 84) (g := 4) (m := 82) (by kernel_rfl) (by kernel_rfl) (hJ.get (i := 6) (j := 4) hr (by kernel_rfl) rfl) fun o ho hd => opLoadS (c := 83) (p := ⟨B, 5, none⟩) (q := q) (m := n) (cp := cp) (hJ.get (i := 6) (j := 5) hr (by kernel_rfl) rfl) ((hJ.2.2.1.cell (p := ⟨B, 5, none⟩) (Array.getElem?_eq_some_iff.1 hH.hC).1).trans hH.hF) ho (fun v w' hs hb => by rw [hd]; exact hJ.step hk (i := 6) (s := .v (.slice q n cp)) rfl hL hs hb)
  | 7, _ => exact atG (d := 85) (g := 4) (m := 82) (by kernel_rfl) (by kernel_rfl) (hJ.get (i := 7) (j := 4) hr (by kernel_rfl) rfl) fun o ho hd => opCall1 (x := .tmp 84) (u := .slice q n cp) (T := #[27]) (s := SD.x m) (hJ.get (i := 7) (j := 6) hr (by kernel_rfl) rfl) ho (hH.hM w hJ.2.2.1) entE (fun _ _ h => treeOf h) (fun v w' hs hb => by rw [hd]; exact hJ.step hk (i := 7) (s := .x m) rfl hL hs hb)
  | 8, _ => exact atG (d := 86) (g := 4) (m := 82) (by kernel_rfl) (by kernel_rfl) (hJ.get (i := 8) (j := 4) hr (by kernel_rfl) rfl) fun o ho hd => opLoad (d := 1) (hJ.2.2.2.1 (1, .pointer (some ⟨B, 0, none⟩)) (by simp [fR4])) ((hJ.2.2.1.block _ (Array.getElem?_eq_some_iff.1 hH.hC).1).trans hH.hC) (hH.hx.under hJ.2.2.1) ho (fun v w' hs hb => by rw [hd]; exact hJ.step hk (i := 8) (s := .x t) rfl hL hs hb)
  | 9, _ => exact atG (d := 87) (g := 4) (m := 82) (by kernel_rfl) (by kernel_rfl) (hJ.get (i := 9) (j := 4) hr (by kernel_rfl) rfl) fun o ho hd => opTrees (T := #[29, 29]) (d := 85) (d' := 86) (s := (SD.v (.bool R))) (hJ.get (i := 9) (j := 7) hr (by kernel_rfl) rfl) (hJ.get (i := 9) (j := 8) hr (by kernel_rfl) rfl) ho (fun y y' hy hy' => hH.hS w hJ.2.2.1 y y' hy hy') entRS (fun _ _ h => boolOf h) (fun v w' hs hb => by rw [hd]; exact hJ.step hk (i := 9) (s := .v (.bool R)) rfl hL hs hb)
  | 10, _ => exact atP (d := 88) (by kernel_rfl) fun o ho hd => opPickB (c := 82) (d := 87) (b := R) (hJ.get (i := 10) (j := 4) hr (by kernel_rfl) rfl) (hJ.get (i := 10) (j := 9) hr (by kernel_rfl) rfl) ho (fun v w' hs hb => by rw [hd]; exact hJ.step hk (i := 10) (s := .v (.bool R)) rfl hL hs hb)
  | 11, _ => exact atP (d := 2) (by kernel_rfl) fun o ho hd => opAssign (d := 88) (s := (SD.v (.bool R))) (hJ.get (i := 11) (j := 10) hr (by kernel_rfl) rfl) ho (fun v w' hs hb => by rw [hd]; exact hJ.step hk (i := 11) (s := .v (.bool R)) rfl hL hs hb)
  | n + 12, h => omega
set_option maxRecDepth 100000 in
/-- The region, whatever order its operations take. -/
theorem regR4 (B : Nat) (x : ReV) (t m : RT) (q : Option Addr) (n cp : Nat) (R : Bool) {W : World} {tmps : Array Value} {ops : Array Oper} {Q : Exit → Act → World → Prop} (hH : HR4 B x t m q n cp R W) (hops : opsR4 = ops) (hsz : tmps.size = 89) (hf : ∀ q0 ∈ fR4 B x t m q n cp R, tmps.getD q0.1 undef = q0.2)
    (hQ : ∀ (tm : Array Value) (w : World), tm.size = 89 → tm.getD 2 undef = .bool R → Below W.heap.size W w → Q .normal ⟨tm, []⟩ w) : (Code.region 19 ops true).wp Tryz.prog Q ⟨tmps, []⟩ W :=
  region_all (regKR4 B x t m q n cp R) hops hsz hf (fun L a w i hL hJ hr hi => stepR4 B x t m q n cp R hH hL hJ hr hi) (fun tm w h1 _ h3 h4 => hQ tm w h1 (h3 11 (.v (.bool R)) rfl) h4)

noncomputable def opsR5 : Array Oper := ((Tryz.prog.funcs[11]?.bind (·.body)).map (opsIn 15)).getD #[]
noncomputable def sR5 (B : Nat) (x y : ReV) (t u m : RT) (q : Option Addr) (g off cp : Nat) (R : Bool) : List SD := [.v (.pointer (some ⟨B, 5, none⟩)), .v (.slice q 1 cp), .v (.int .i64 ((1 : Nat) : Int)), .v tt, .v tt, .v (.pointer (some ⟨B, 5, none⟩)), .v (.slice q 1 cp), .v (.pointer (some ⟨g, off, none⟩)), .x u, .x m, .x t, .v (.bool R), .v (.bool R), .v (.bool R)]
noncomputable def fR5 (B : Nat) (x y : ReV) (t u m : RT) (q : Option Addr) (g off cp : Nat) (R : Bool) : List (Nat × Value) := [(1, .pointer (some ⟨B, 0, none⟩))]
theorem regKR5 (B : Nat) (x y : ReV) (t u m : RT) (q : Option Addr) (g off cp : Nat) (R : Bool) : RegK opsR5 14 89 2 50 (sR5 B x y t u m q g off cp R) (fR5 B x y t u m q g off cp R) :=
  ⟨by kernel_rfl, by kernel_rfl, rfl, by decide, by decide, (fun x hx => by simp [fR5] at hx; subst hx; simp)⟩
/-- What is known. -/
structure HR5 (B : Nat) (x y : ReV) (t u m : RT) (q : Option Addr) (g off cp : Nat) (R : Bool) (W : World) : Prop where
  hC : W.heap[B]? = some (.cells x.cells.toArray 29 (0, 0))
  hx : RAt W (fun _ => True) x t
  hF : W.cell? ⟨B, 5, none⟩ = some (.slice q 1 cp)
  hq : q = some ⟨g, off, none⟩
  hpl : PlaceR W g off y
  hy : RAt W (fun _ => True) y u
  hM : ∀ w, Below W.heap.size W w → ∀ y, RAt w (fun _ => True) y u → Calls Tryz.prog 14 #[y.val] w (GivesRe (fun _ => True) m w)
  hS : ∀ w, Below W.heap.size W w → ∀ y y', RAt w (fun _ => True) y m → RAt w (fun _ => True) y' t → Calls Tryz.prog 15 #[y.val, y'.val] w (GivesBool R w)
set_option maxRecDepth 100000 in
set_option maxHeartbeats 8000000 in
theorem stepR5 (B : Nat) (x y : ReV) (t u m : RT) (q : Option Addr) (g off cp : Nat) (R : Bool) {W w : World} {L : Array Bool} {a : Act} {i : Nat} {Q : Exit → Act → World → Prop} (hH : HR5 B x y t u m q g off cp R W) (hL : L.size = 14) (hJ : JR 14 89 2 50 (sR5 B x y t u m q g off cp R) (fR5 B x y t u m q g off cp R) W L a w) (hr : i ∈ Region.ready .any opsR5 L) (hi : i < 14) : wpOp Tryz.prog opsR5 Q i (JR 14 89 2 50 (sR5 B x y t u m q g off cp R) (fR5 B x y t u m q g off cp R) W (L.setIfInBounds i true)) a w := by
  have hk := regKR5 B x y t u m q g off cp R
  match i, hi with
  | 0, _ => exact atP (d := 50) (by kernel_rfl) fun o ho hd => opFA (c := 1) (hJ.2.2.2.1 (1, .pointer (some ⟨B, 0, none⟩)) (by simp [fR5])) ho (fun v w' hs hb => by rw [hd]; exact hJ.step hk (i := 0) (s := .v (.pointer (some ⟨B, 5, none⟩))) rfl hL hs hb)
  | 1, _ => exact atP (d := 51) (by kernel_rfl) fun o ho hd => opLoadS (c := 50) (p := ⟨B, 5, none⟩) (q := q) (m := 1) (cp := cp) (hJ.get (i := 1) (j := 0) hr (by kernel_rfl) rfl) ((hJ.2.2.1.cell (p := ⟨B, 5, none⟩) (Array.getElem?_eq_some_iff.1 hH.hC).1).trans hH.hF) ho (fun v w' hs hb => by rw [hd]; exact hJ.step hk (i := 1) (s := .v (.slice q 1 cp)) rfl hL hs hb)
  | 2, _ => exact atP (d := 52) (by kernel_rfl) fun o ho hd => opLenS (c := 51) (q := q) (m := 1) (cp := cp) (hJ.get (i := 2) (j := 1) hr (by kernel_rfl) rfl) ho (fun v w' hs hb => by rw [hd]; exact hJ.step hk (i := 2) (s := .v (.int .i64 ((1 : Nat) : Int))) rfl hL hs hb)
  | 3, _ => exact atP (d := 53) (by kernel_rfl) fun o ho hd => opEqI (c := 52) (z := 1) (hJ.get (i := 3) (j := 2) hr (by kernel_rfl) rfl) ho (fun v w' hs hb => by rw [hd]; exact hJ.step hk (i := 3) (s := .v tt) rfl hL hs hb)
  | 4, _ => exact atP (d := 54) (by kernel_rfl) fun o ho hd => opMove (d := 53) (s := (SD.v tt)) (hJ.get (i := 4) (j := 3) hr (by kernel_rfl) rfl) ho (fun v w' hs hb => by rw [hd]; exact hJ.step hk (i := 4) (s := .v tt) rfl hL hs hb)
  | 5, _ => exact atG (d := 55) (g := 4) (m := 54) (by kernel_rfl) (by kernel_rfl) (hJ.get (i := 5) (j := 4) hr (by kernel_rfl) rfl) fun o ho hd => opFA (c := 1) (hJ.2.2.2.1 (1, .pointer (some ⟨B, 0, none⟩)) (by simp [fR5])) ho (fun v w' hs hb => by rw [hd]; exact hJ.step hk (i := 5) (s := .v (.pointer (some ⟨B, 5, none⟩))) rfl hL hs hb)
  | 6, _ => exact atG (d := 56) (g := 4) (m := 54) (by kernel_rfl) (by kernel_rfl) (hJ.get (i := 6) (j := 4) hr (by kernel_rfl) rfl) fun o ho hd => opLoadS (c := 55) (p := ⟨B, 5, none⟩) (q := q) (m := 1) (cp := cp) (hJ.get (i := 6) (j := 5) hr (by kernel_rfl) rfl) ((hJ.2.2.1.cell (p := ⟨B, 5, none⟩) (Array.getElem?_eq_some_iff.1 hH.hC).1).trans hH.hF) ho (fun v w' hs hb => by rw [hd]; exact hJ.step hk (i := 6) (s := .v (.slice q 1 cp)) rfl hL hs hb)
  | 7, _ => exact atG (d := 57) (g := 4) (m := 54) (by kernel_rfl) (by kernel_rfl) (hJ.get (i := 7) (j := 4) hr (by kernel_rfl) rfl) fun o ho hd => opIdx0 (c := 56) (g := g) (off := off) (m := 1) (cp := cp) (by decide) (hH.hq ▸ (hJ.get (i := 7) (j := 6) hr (by kernel_rfl) rfl)) ho (fun v w' hs hb => by rw [hd]; exact hJ.step hk (i := 7) (s := .v (.pointer (some ⟨g, off, none⟩))) rfl hL hs hb)
  | 8, _ => exact atG (d := 58) (g := 4) (m := 54) (by kernel_rfl) (by kernel_rfl) (hJ.get (i := 8) (j := 4) hr (by kernel_rfl) rfl) fun o ho hd => opLoadAt (d := 57) (hJ.get (i := 8) (j := 7) hr (by kernel_rfl) rfl) (hH.hpl.under hJ.2.2.1) (hH.hy.under hJ.2.2.1) ho (fun v w' hs hb => by rw [hd]; exact hJ.step hk (i := 8) (s := .x u) rfl hL hs hb)
  | 9, _ => exact atG (d := 59) (g := 4) (m := 54) (by kernel_rfl) (by kernel_rfl) (hJ.get (i := 9) (j := 4) hr (by kernel_rfl) rfl) fun o ho hd => opTree (T := #[29]) (d := 58) (s := (SD.x m)) (hJ.get (i := 9) (j := 8) hr (by kernel_rfl) rfl) ho (fun y hy => hH.hM w hJ.2.2.1 y hy) entRT (fun _ _ h => treeOf h) (fun v w' hs hb => by rw [hd]; exact hJ.step hk (i := 9) (s := .x m) rfl hL hs hb)
  | 10, _ => exact atG (d := 60) (g := 4) (m := 54) (by kernel_rfl) (by kernel_rfl) (hJ.get (i := 10) (j := 4) hr (by kernel_rfl) rfl) fun o ho hd => opLoad (d := 1) (hJ.2.2.2.1 (1, .pointer (some ⟨B, 0, none⟩)) (by simp [fR5])) ((hJ.2.2.1.block _ (Array.getElem?_eq_some_iff.1 hH.hC).1).trans hH.hC) (hH.hx.under hJ.2.2.1) ho (fun v w' hs hb => by rw [hd]; exact hJ.step hk (i := 10) (s := .x t) rfl hL hs hb)
  | 11, _ => exact atG (d := 61) (g := 4) (m := 54) (by kernel_rfl) (by kernel_rfl) (hJ.get (i := 11) (j := 4) hr (by kernel_rfl) rfl) fun o ho hd => opTrees (T := #[29, 29]) (d := 59) (d' := 60) (s := (SD.v (.bool R))) (hJ.get (i := 11) (j := 9) hr (by kernel_rfl) rfl) (hJ.get (i := 11) (j := 10) hr (by kernel_rfl) rfl) ho (fun y y' hy hy' => hH.hS w hJ.2.2.1 y y' hy hy') entRS (fun _ _ h => boolOf h) (fun v w' hs hb => by rw [hd]; exact hJ.step hk (i := 11) (s := .v (.bool R)) rfl hL hs hb)
  | 12, _ => exact atP (d := 62) (by kernel_rfl) fun o ho hd => opPickB (c := 54) (d := 61) (b := R) (hJ.get (i := 12) (j := 4) hr (by kernel_rfl) rfl) (hJ.get (i := 12) (j := 11) hr (by kernel_rfl) rfl) ho (fun v w' hs hb => by rw [hd]; exact hJ.step hk (i := 12) (s := .v (.bool R)) rfl hL hs hb)
  | 13, _ => exact atP (d := 2) (by kernel_rfl) fun o ho hd => opAssign (d := 62) (s := (SD.v (.bool R))) (hJ.get (i := 13) (j := 12) hr (by kernel_rfl) rfl) ho (fun v w' hs hb => by rw [hd]; exact hJ.step hk (i := 13) (s := .v (.bool R)) rfl hL hs hb)
  | n + 14, h => omega
set_option maxRecDepth 100000 in
/-- The region, whatever order its operations take. -/
theorem regR5 (B : Nat) (x y : ReV) (t u m : RT) (q : Option Addr) (g off cp : Nat) (R : Bool) {W : World} {tmps : Array Value} {ops : Array Oper} {Q : Exit → Act → World → Prop} (hH : HR5 B x y t u m q g off cp R W) (hops : opsR5 = ops) (hsz : tmps.size = 89) (hf : ∀ q0 ∈ fR5 B x y t u m q g off cp R, tmps.getD q0.1 undef = q0.2)
    (hQ : ∀ (tm : Array Value) (w : World), tm.size = 89 → tm.getD 2 undef = .bool R → Below W.heap.size W w → Q .normal ⟨tm, []⟩ w) : (Code.region 15 ops true).wp Tryz.prog Q ⟨tmps, []⟩ W :=
  region_all (regKR5 B x y t u m q g off cp R) hops hsz hf (fun L a w i hL hJ hr hi => stepR5 B x y t u m q g off cp R hH hL hJ hr hi) (fun tm w h1 _ h3 h4 => hQ tm w h1 (h3 13 (.v (.bool R)) rfl) h4)

end Go.Proofs.YtjeplmnjgdpgbaaGreatDoor

/-! The document's Right, of any expression: whether it is right. No condition but size. -/
namespace Go.Proofs.YtjeplmnjgdpgbaaGreatDoor
open Go.RowKit Go.Lib
set_option linter.unusedVariables false
set_option linter.unusedSimpArgs false

theorem rm_leaf (k : Int) (hk : k = 0 ∨ k = 1) (s : W4) (L : List RT) : rightM (.mk k s L) ↔ (∀ t ∈ L, rightM t) ∧ s = W4.zero ∧ L = [] := by
  rw [right_mk]
  rcases hk with rfl | rfl <;> simp
theorem rm_two (s : W4) (L : List RT) : rightM (.mk 2 s L) ↔ (∀ t ∈ L, rightM t) ∧ L = [] ∧ s ≠ W4.zero := by
  rw [right_mk]
  simp
theorem rm_five (s : W4) (L : List RT) : rightM (.mk 5 s L) ↔ (∀ t ∈ L, rightM t) ∧ s = W4.zero ∧ ∃ x, L = [x] ∧ starM x = .mk 5 s L := by
  rw [right_mk]
  simp
theorem rm_three (s : W4) (L : List RT) : rightM (.mk 3 s L) ↔ (∀ t ∈ L, rightM t) ∧ s = W4.zero ∧ 1 < L.length ∧ catM L = .mk 3 s L := by
  rw [right_mk]
  simp
theorem rm_four (s : W4) (L : List RT) : rightM (.mk 4 s L) ↔ (∀ t ∈ L, rightM t) ∧ s = W4.zero ∧ 1 < L.length ∧ eitherM L = .mk 4 s L := by
  rw [right_mk]
  simp
theorem rm_other (k : Int) (h : k ≠ 0 ∧ k ≠ 1 ∧ k ≠ 2 ∧ k ≠ 3 ∧ k ≠ 4 ∧ k ≠ 5) (s : W4) (L : List RT) : ¬ rightM (.mk k s L) := by
  rw [right_mk]
  obtain ⟨h0, h1, h2, h3, h4, h5⟩ := h
  simp [h0, h1, h2, h3, h4, h5]
theorem rm_set (k : Int) (hk : k ≠ 2) {s : W4} {L : List RT} (h : rightM (.mk k s L)) : s = W4.zero := ((right_mk k s L).1 h).2.1 hk
theorem ff_of {R : Bool} {p : Prop} (h : R = true ↔ p) (hp : ¬ p) : R = false := by
  cases R with
  | false => rfl
  | true => exact absurd (h.1 rfl) hp

set_option maxRecDepth 100000 in
set_option maxHeartbeats 16000000 in
theorem refright_any {P : Nat → Prop} : ∀ (N : Nat) (t : RT) (x : ReV) (W : World), t.dep ≤ N → t.sz ≤ 1000000000 → RAt W P x t → Calls Tryz.prog 11 #[x.val] W (GivesBool (rightB t) W) := by
  intro N
  induction N with
  | zero => intro t x W h; have := dep_pos t; omega
  | succ N ih =>
    intro t x W hdep hsz ht
    obtain ⟨vs, et, hok, hk⟩ := ht.kids
    have hkd : ∀ v ∈ t.kids, v.dep ≤ N := by
      obtain ⟨k', s', l'⟩ := t
      exact dep_mk.1 hdep
    have hks : (t.kids.map RT.sz).sum < t.sz := by
      obtain ⟨k', s', l'⟩ := t
      rw [sz_mk]
      show (l'.map RT.sz).sum < _
      omega
    obtain ⟨L, hL⟩ : ∃ L, L = t.kids := ⟨_, rfl⟩
    rw [← hL] at hk hkd et hks
    obtain ⟨k, a, b, c, d, p, n, cap⟩ := x
    simp only [ReV.w4] at hok hk et
    obtain ⟨R, hR⟩ : ∃ R, R = rightB t := ⟨_, rfl⟩
    rw [← hR]
    have hiff : R = true ↔ rightM (.mk k ⟨a, b, c, d⟩ L) := by rw [hR, rightB_iff, et]
    have hnum := hk.num
    obtain ⟨B0, hB0⟩ : ∃ B0, B0 = W.heap.size := ⟨_, rfl⟩
    obtain ⟨w1, hw1⟩ : ∃ w1 : World, w1 = W.alloc (.cells #[.int .i64 k, .int .u64 a, .int .u64 b, .int .u64 c, .int .u64 d, .slice p n cap] 29) := ⟨_, rfl⟩
    have hb1 : Below W.heap.size W w1 := by rw [hw1]; exact (Below.refl _ _).alloc (Nat.le_refl _) _
    have hn1 : w1.heap[B0]? = some (.cells #[.int .i64 k, .int .u64 a, .int .u64 b, .int .u64 c, .int .u64 d, .slice p n cap] 29 (0, 0)) := by rw [hw1, hB0]; exact heap_alloc_new _ _
    have hB1 : B0 < w1.heap.size := (Array.getElem?_eq_some_iff.1 hn1).1
    have hnb : n ≤ 1000000000 := by
      have : ∀ l : List RT, l.length ≤ (l.map RT.sz).sum := by
        intro l
        induction l with
        | nil => simp
        | cons a l ih => have := sz_pos a; simp only [List.length_cons, List.map_cons, List.sum_cons]; omega
      have := this L
      omega
    have HNIL : Hid (L = [] ↔ n = 0) := by unfold Hid; rw [hnum, List.length_eq_zero_iff]
    have HIFF := Lib.hid hiff
    have HK := Lib.hid (hk.under hb1)
    have HB1 := Lib.hid hb1
    have HN1 := Lib.hid hn1
    have HL1 := Lib.hid hB1
    have HW1 := Lib.hid hw1
    have HB0 := Lib.hid hB0
    have HKS : Hid ((L.map RT.sz).sum ≤ 1000000000) := by unfold Hid; omega
    have HKD := Lib.hid hkd
    have HNU := Lib.hid hnum
    have HIH := Lib.hid ih
    have HT0 := Lib.hid (hk.tree k ⟨a, b, c, d⟩ hok)
    have HZ := Lib.hid (cnt_w4 hok)
    obtain ⟨NC, hNC⟩ : ∃ N, N = cnt (W4.mem ⟨a, b, c, d⟩) 256 := ⟨_, rfl⟩
    have HC : Hid (∀ W, Calls Tryz.prog 27 #[.agg #[.int .u64 a, .int .u64 b, .int .u64 c, .int .u64 d]] W (RetNum NC W)) := fun W => by rw [hNC]; exact refcount_any a b c d _ W (W4.isSet hok)
    have HNC : Hid (NC = 0 ↔ (⟨a, b, c, d⟩ : W4) = W4.zero) := by unfold Hid; rw [hNC]; exact HZ.out
    obtain ⟨k0, k1, k2, k3, k4, k5⟩ := six_at hn1
    clear et hok hk hnum hL ht hdep hsz hks ih hw1 hb1 hn1 hB0 hB1 hkd hR hiff hNC HZ
    unfold ReV.val
    simp only []
    go_enter Tryz.func11, Tryz.ntmps11
    go_wp2_with fail
    rw [← HW1.out, ← HB0.out]
    go_wp2_with fail
    clear k0 k1 k2 k3 k4 k5
    go_loopg [3] n (fun gk vi wr => ∃ i : Nat, vi = .int .i64 (i : Int) ∧ i ≤ n ∧ n - i ≤ gk ∧ Hid (∀ j t, j < i → L[j]? = some t → rightM t) ∧ Hid (Below w1.heap.size w1 wr))
    case atStart => exact ⟨0, rfl, by omega, by omega, fun j t hj => absurd hj (Nat.not_lt_zero j), Below.refl _ _⟩
    case round =>
      obtain ⟨i, rfl, hi, hgk, HE, HB⟩ := hrel
      have hnr : wr.heap[B0]? = some (.cells #[.int .i64 k, .int .u64 a, .int .u64 b, .int .u64 c, .int .u64 d, .slice p n cap] 29 (0, 0)) := (HB.out.block B0 HL1.out).trans HN1.out
      have HNR := Lib.hid hnr
      obtain ⟨k0, k1, k2, k3, k4, k5⟩ := six_at hnr
      clear hnr
      by_cases hlt : i < n
      · have hltz : (i : Int) < (n : Int) := by omega
        obtain ⟨g, off, rfl⟩ := HK.out.rowv.some_of hlt
        have hil : i < L.length := by rw [← HNU.out]; exact hlt
        obtain ⟨y, hy⟩ : ∃ y, vs[i]? = some y := ⟨_, List.getElem?_eq_getElem (by rw [HK.out.len]; exact hil)⟩
        obtain ⟨u, hu⟩ : ∃ u, L[i]? = some u := ⟨_, List.getElem?_eq_getElem hil⟩
        have hpl := (HK.out.place hy).under HB.out
        have hra := (HK.out.each i y u hy hu).under HB.out
        have CALL : Hid (Calls Tryz.prog 11 #[y.val] wr (GivesBool (rightB u) wr)) :=
          HIH.out u y wr (HKD.out u (List.mem_of_getElem? hu)) (by have := sum_mem (List.mem_of_getElem? hu); have := HKS.out; omega) hra
        have HU := Lib.hid hu
        obtain ⟨y0, y1, y2, y3, y4, y5, y6, y7⟩ := y
        obtain ⟨e0, e1, e2, e3, e4, e5⟩ := hpl.six
        simp only at e0 e1 e2 e3 e4 e5
        unfold ReV.val at CALL
        simp only at CALL
        by_cases eu : rightM u
        · have hq : rightB u = true := (rightB_iff _).2 eu
          rw [hq] at CALL
          have HE2 : Hid (∀ j t, j < i + 1 → L[j]? = some t → rightM t) := fun j t hj ht => by
            by_cases e : j < i
            · exact HE.out j t e ht
            · have : j = i := by omega
              subst this
              obtain rfl := Option.some.inj (ht.symm.trans HU.out)
              exact eu
          clear hpl hra hy hu hil eu hq
          go_wp2_with fail
          refine (CALL.out).mono ?_
          rintro e w3 ⟨rfl, hb3⟩
          have HB3 : Hid (Below w1.heap.size w1 w3) := HB.out.trans (hb3.mono HB.out.size)
          clear hb3 k0 k1 k2 k3 k4 k5 e0 e1 e2 e3 e4 e5
          go_wp2_with fail
          go_roundg (n - (i + 1))
          case measure => omega
          case rel => exact ⟨i + 1, by go_num, by omega, Nat.le_refl _, HE2, HB3⟩
        · have hq : rightB u = false := by
            cases e : rightB u with
            | false => rfl
            | true => exact absurd ((rightB_iff _).1 e) eu
          rw [hq] at CALL
          have hr : R = false := ff_of HIFF.out fun h => eu (((right_mk _ _ _).1 h).1 u (List.mem_of_getElem? hu))
          subst hr
          clear hpl hra hy hu hil eu hq
          go_wp2_with fail
          refine (CALL.out).mono ?_
          rintro e w3 ⟨rfl, hb3⟩
          have HB3 : Hid (Below w1.heap.size w1 w3) := HB.out.trans (hb3.mono HB.out.size)
          clear hb3 k0 k1 k2 k3 k4 k5 e0 e1 e2 e3 e4 e5
          go_wp2_with fail
          go_ret
          exact ⟨rfl, HB1.out.trans (HB3.out.mono HB1.out.size)⟩
      · have hltz : ¬ (i : Int) < (n : Int) := by omega
        have HA : Hid (∀ t ∈ L, rightM t) := fun t ht => by
          obtain ⟨j, hj⟩ := List.getElem?_of_mem ht
          exact HE.out j t (by have := (List.getElem?_eq_some_iff.1 hj).1; have := HNU.out; omega) hj
        by_cases h2 : k = 2
        · subst h2
          by_cases hn0 : n = 0
          · subst hn0
            have hr : decide (0 < NC) = R := by
              rw [Bool.eq_iff_iff, HIFF.out, rm_two, decide_eq_true_iff]
              have h1 := HNC.out
              have h3 := HNIL.out.2 rfl
              constructor
              · exact fun h => ⟨HA.out, h3, fun e => by have := h1.2 e; omega⟩
              · rintro ⟨_, _, h⟩
                have : NC ≠ 0 := fun e => h (h1.1 e)
                omega
            have HRR := Lib.hid hr
            clear hr
            go_wp2_with fail
            refine (HC.out wr).mono ?_
            rintro e w3 ⟨rfl, hb3⟩
            have HB3 : Hid (Below w1.heap.size w1 w3) := HB.out.trans (hb3.mono HB.out.size)
            clear hb3
            go_wp2_with fail
            go_ret
            exact ⟨by rw [← HRR.out]; rfl, HB1.out.trans (HB3.out.mono HB1.out.size)⟩
          · have hr : R = false := ff_of HIFF.out fun h => hn0 (HNIL.out.1 ((rm_two _ _).1 h).2.1)
            subst hr
            have hnz : ((n : Int) == 0) = false := by simp; omega
            go_wp2_with fail
            go_ret
            exact ⟨rfl, HB1.out.trans (HB.out.mono HB1.out.size)⟩
        · have h2z : (k != 2) = true := by simpa using h2
          by_cases hz : (⟨a, b, c, d⟩ : W4) = W4.zero
          case neg =>
            have hr : R = false := ff_of HIFF.out fun h => hz (rm_set k h2 h)
            subst hr
            have hgt : (NC : Int) > 0 := by
              have h1 := HNC.out
              have : NC ≠ 0 := fun e => hz (h1.1 e)
              omega
            clear hz
            go_wp2_with fail
            refine (HC.out wr).mono ?_
            rintro e w3 ⟨rfl, hb3⟩
            have HB3 : Hid (Below w1.heap.size w1 w3) := HB.out.trans (hb3.mono HB.out.size)
            clear hb3
            go_wp2_with fail
            go_ret
            exact ⟨rfl, HB1.out.trans (HB3.out.mono HB1.out.size)⟩
          case pos =>
            have HZZ := Lib.hid hz
            obtain rfl : NC = 0 := HNC.out.2 hz
            clear hz
            go_wp2_with fail
            refine (HC.out wr).mono ?_
            rintro e w5 ⟨rfl, hb5⟩
            have HN5 := Lib.hid ((hb5.block B0 (by have := (Array.getElem?_eq_some_iff.1 HNR.out).1; exact this)).trans HNR.out)
            have HB5 : Hid (Below w1.heap.size w1 w5) := HB.out.trans (hb5.mono HB.out.size)
            have HK5 := Lib.hid (HK.out.under HB5.out)
            have HT5 := Lib.hid ((HT0.out.under HB1.out).under HB5.out)
            have hL5 : B0 < w5.heap.size := (Array.getElem?_eq_some_iff.1 HN5.out).1
            have HL5 := Lib.hid hL5
            clear hb5 k0 k1 k2 k3 k4 k5 hL5
            obtain ⟨k0, k1, k2, k3, k4, k5⟩ := six_at HN5.out
            by_cases hk01 : k = 0 ∨ k = 1
            · have hr : decide (n = 0) = R := by
                rw [Bool.eq_iff_iff, HIFF.out, rm_leaf k hk01, decide_eq_true_iff, HNIL.out]
                exact ⟨fun h => ⟨HA.out, HZZ.out, h⟩, fun h => h.2.2⟩
              have HRR := Lib.hid hr
              clear hr
              have hnn : ((n : Int) == 0) = decide (n = 0) := by rw [Bool.eq_iff_iff]; simp
              rcases hk01 with rfl | rfl
              all_goals
                go_wp2_with fail
                go_ret
                refine ⟨?_, HB1.out.trans (HB5.out.mono HB1.out.size)⟩
                simp
                exact HRR.out
            · have hk0 : (k == 0) = false := by simp; omega
              have hk1 : (k == 1) = false := by simp; omega
              have hk2 : (k == 2) = false := by simpa using h2
              by_cases e5 : k = 5
              · subst e5
                by_cases hg : n = 1
                · subst hg
                  obtain ⟨g, off, rfl⟩ := HK.out.rowv.some_of (show 0 < 1 by omega)
                  obtain ⟨u, hLu⟩ : ∃ u, L = [u] := by have := HNU.out; match L, this with | [u], _ => exact ⟨u, rfl⟩
                  obtain ⟨y, hy⟩ : ∃ y, vs[0]? = some y := ⟨_, List.getElem?_eq_getElem (by rw [HK.out.len, hLu]; simp)⟩
                  have hpl := HK5.out.place hy
                  rw [Nat.zero_mul, Nat.add_zero] at hpl
                  have hra := HK5.out.each 0 y u hy (by rw [hLu]; rfl)
                  have hszm : (starM u).sz ≤ 9000000000 := by have h1 := sz_star u; have h2 := HKS.out; have h3 := sum_mem (l := L) (t := u) (by rw [hLu]; simp); omega
                  have hr : sameB (starM u) (.mk 5 ⟨a, b, c, d⟩ L) = R := by
                    rw [Bool.eq_iff_iff, sameB_iff, HIFF.out, rm_five]
                    constructor
                    · exact fun h => ⟨HA.out, HZZ.out, u, hLu, h⟩
                    · rintro ⟨_, _, x, hx, h⟩
                      rw [hLu] at hx
                      obtain rfl : u = x := by simpa using hx
                      exact h
                  have hH : HR5 B0 ⟨5, a, b, c, d, some ⟨g, off, none⟩, 1, cap⟩ y (.mk 5 ⟨a, b, c, d⟩ L) u (starM u) (some ⟨g, off, none⟩) g off cap R w5 :=
                    ⟨HN5.out, HT5.out.weak fun _ _ _ => trivial, k5, rfl, hpl, hra.weak fun _ _ _ => trivial, fun W hb y hy => (refstar_any W y u hy).mono fun _ _ q => q.any3, fun W hb y y' hy hy' => by
                      have h := sameg_any _ _ _ y y' W (Nat.le_refl _) hszm hy hy'
                      rw [hr] at h
                      exact h⟩
                  clear hr hszm hpl hra hy hLu
                  go_wp2_with fail
                  refine regR5 _ _ _ _ _ _ _ _ _ _ _ hH (by kernel_rfl) rfl ?_ ?_
                  · intro q0 hq0
                    simp only [fR5, List.mem_cons, List.not_mem_nil, or_false] at hq0
                    subst hq0
                    rfl
                  intro tm w9 htm h4 hb9
                  have hres : (results Tryz.f11 tm).run Tryz.prog w9 = .ok (.bool R) w9 := by
                    have hf : Tryz.f11.results = #[.tmp 2] := by kernel_rfl
                    simp [results, hf]
                    rw [← Array.getD_eq_getD_getElem?]
                    exact h4
                  refine (by assumption : ∀ (a : Act) (w : World), Code.wp Tryz.prog Code.ret _ a w → _) _ _ ?_
                  have hend : GivesBool R W (.returned (.bool R)) w9 := ⟨rfl, HB1.out.trans ((HB5.out.trans (hb9.mono HB5.out.size)).mono HB1.out.size)⟩
                  exact wp_ret (bodyPost_ret_by (P := Tryz.prog) (fn := Tryz.f11) (R := GivesBool R W) (a := ⟨tm, []⟩) hres rfl hend)
                · have hr : R = false := ff_of HIFF.out fun h => by
                    obtain ⟨_, _, x, hx, _⟩ := (rm_five _ _).1 h
                    have := HNU.out
                    rw [hx] at this
                    exact hg this
                  have hnz : ((n : Int) == 1) = false := by simp; omega
                  subst hr
                  go_wp2_with fail
                  go_quiet (fail)
                  go_wp2_with fail
                  go_ret
                  exact ⟨rfl, HB1.out.trans ((below_drawn HB5.out _).mono HB1.out.size)⟩
              by_cases e3 : k = 3
              · subst e3
                by_cases hg : 1 < n
                · have hgz : (n : Int) > 1 := by omega
                  have hszm : (catM L).sz ≤ 9000000000 := by have h1 := sz_cat L; have h2 := HKS.out; omega
                  have hr : sameB (catM L) (.mk 3 ⟨a, b, c, d⟩ L) = R := by
                    rw [Bool.eq_iff_iff, sameB_iff, HIFF.out, rm_three]
                    have h1 := HNU.out
                    exact ⟨fun h => ⟨HA.out, HZZ.out, by omega, h⟩, fun h => h.2.2.2⟩
                  have hH : HR3 B0 ⟨3, a, b, c, d, p, n, cap⟩ (.mk 3 ⟨a, b, c, d⟩ L) (catM L) p n cap R w5 :=
                    ⟨HN5.out, HT5.out.weak fun _ _ _ => trivial, k5, by omega, fun W hb => (refcat_any W (HK5.out.under hb) (by have := HKS.out; omega)).mono fun _ _ q => q.any3, fun W hb y y' hy hy' => by
                      have h := sameg_any _ _ _ y y' W (Nat.le_refl _) hszm hy hy'
                      rw [hr] at h
                      exact h⟩
                  clear hr hszm 
                  go_wp2_with fail
                  refine regR3 _ _ _ _ _ _ _ _ hH (by kernel_rfl) rfl ?_ ?_
                  · intro q0 hq0
                    simp only [fR3, List.mem_cons, List.not_mem_nil, or_false] at hq0
                    subst hq0
                    rfl
                  intro tm w9 htm h4 hb9
                  have hres : (results Tryz.f11 tm).run Tryz.prog w9 = .ok (.bool R) w9 := by
                    have hf : Tryz.f11.results = #[.tmp 2] := by kernel_rfl
                    simp [results, hf]
                    rw [← Array.getD_eq_getD_getElem?]
                    exact h4
                  refine (by assumption : ∀ (a : Act) (w : World), Code.wp Tryz.prog Code.ret _ a w → _) _ _ ?_
                  have hend : GivesBool R W (.returned (.bool R)) w9 := ⟨rfl, HB1.out.trans ((HB5.out.trans (hb9.mono HB5.out.size)).mono HB1.out.size)⟩
                  exact wp_ret (bodyPost_ret_by (P := Tryz.prog) (fn := Tryz.f11) (R := GivesBool R W) (a := ⟨tm, []⟩) hres rfl hend)
                · have hr : R = false := ff_of HIFF.out fun h => by
                    have h1 := ((rm_three _ _).1 h).2.2.1
                    have := HNU.out
                    omega
                  have hgz : ¬ (n : Int) > 1 := by omega
                  have hgd : decide ((n : Int) > 1) = false := decide_eq_false hgz
                  subst hr
                  go_wp2_with fail
                  go_quiet (fail)
                  go_wp2_with fail
                  go_ret
                  exact ⟨rfl, HB1.out.trans ((below_drawn HB5.out _).mono HB1.out.size)⟩
              by_cases e4 : k = 4
              · subst e4
                by_cases hg : 1 < n
                · have hgz : (n : Int) > 1 := by omega
                  have hszm : (eitherM L).sz ≤ 9000000000 := by have h1 := sz_either L; have h2 := HKS.out; omega
                  have hr : sameB (eitherM L) (.mk 4 ⟨a, b, c, d⟩ L) = R := by
                    rw [Bool.eq_iff_iff, sameB_iff, HIFF.out, rm_four]
                    have h1 := HNU.out
                    exact ⟨fun h => ⟨HA.out, HZZ.out, by omega, h⟩, fun h => h.2.2.2⟩
                  have hH : HR4 B0 ⟨4, a, b, c, d, p, n, cap⟩ (.mk 4 ⟨a, b, c, d⟩ L) (eitherM L) p n cap R w5 :=
                    ⟨HN5.out, HT5.out.weak fun _ _ _ => trivial, k5, by omega, fun W hb => (refeither_any W (HK5.out.under hb) (by have := HKS.out; omega)).mono fun _ _ q => q.any3, fun W hb y y' hy hy' => by
                      have h := sameg_any _ _ _ y y' W (Nat.le_refl _) hszm hy hy'
                      rw [hr] at h
                      exact h⟩
                  clear hr hszm 
                  go_wp2_with fail
                  refine regR4 _ _ _ _ _ _ _ _ hH (by kernel_rfl) rfl ?_ ?_
                  · intro q0 hq0
                    simp only [fR4, List.mem_cons, List.not_mem_nil, or_false] at hq0
                    subst hq0
                    rfl
                  intro tm w9 htm h4 hb9
                  have hres : (results Tryz.f11 tm).run Tryz.prog w9 = .ok (.bool R) w9 := by
                    have hf : Tryz.f11.results = #[.tmp 2] := by kernel_rfl
                    simp [results, hf]
                    rw [← Array.getD_eq_getD_getElem?]
                    exact h4
                  refine (by assumption : ∀ (a : Act) (w : World), Code.wp Tryz.prog Code.ret _ a w → _) _ _ ?_
                  have hend : GivesBool R W (.returned (.bool R)) w9 := ⟨rfl, HB1.out.trans ((HB5.out.trans (hb9.mono HB5.out.size)).mono HB1.out.size)⟩
                  exact wp_ret (bodyPost_ret_by (P := Tryz.prog) (fn := Tryz.f11) (R := GivesBool R W) (a := ⟨tm, []⟩) hres rfl hend)
                · have hr : R = false := ff_of HIFF.out fun h => by
                    have h1 := ((rm_four _ _).1 h).2.2.1
                    have := HNU.out
                    omega
                  have hgz : ¬ (n : Int) > 1 := by omega
                  have hgd : decide ((n : Int) > 1) = false := decide_eq_false hgz
                  subst hr
                  go_wp2_with fail
                  go_quiet (fail)
                  go_wp2_with fail
                  go_ret
                  exact ⟨rfl, HB1.out.trans ((below_drawn HB5.out _).mono HB1.out.size)⟩
              have hr : R = false := ff_of HIFF.out (rm_other k ⟨fun e => hk01 (.inl e), fun e => hk01 (.inr e), h2, e3, e4, e5⟩ _ _)
              subst hr
              have hk3 : (k == 3) = false := by simpa using e3
              have hk4 : (k == 4) = false := by simpa using e4
              have hk5 : (k == 5) = false := by simpa using e5
              go_wp2_with fail
              go_ret
              exact ⟨rfl, HB1.out.trans (HB5.out.mono HB1.out.size)⟩

end Go.Proofs.YtjeplmnjgdpgbaaGreatDoor

/-! What is left of an expression behind some letters: good, and not too big. No condition. -/
namespace Go.Proofs.YtjeplmnjgdpgbaaGreatDoor
open Go.RowKit Go.Lib
set_option linter.unusedVariables false
set_option linter.unusedSimpArgs false

theorem rightB_true {t : RT} (h : good t) (ho : t.ok) : rightB t = true := (rightB_iff t).2 (good_right h ho)
theorem ders_snoc : ∀ (r : RT) (l : List Nat) (c : Nat), dersM r (l ++ [c]) = derivM c (dersM r l)
  | r, [], c => rfl
  | r, b :: l, c => ders_snoc (derivM b r) l c
theorem ders_T : ∀ (l : List Nat) (r : RT), good r → good (dersM r l) ∧ ∀ j, T j (seqOf (dersM r l)) ≤ T (j + l.length) (seqOf r) + l.length
  | [], r, hg => ⟨hg, fun j => Nat.le_refl _⟩
  | c :: l, r, hg => by
    obtain ⟨h1, h2⟩ := ders_T l (derivM c r) (good_deriv c r hg)
    refine ⟨h1, fun j => ?_⟩
    have h3 := h2 j
    have h4 := T_deriv c (j + l.length) hg
    show T j (seqOf (dersM (derivM c r) l)) ≤ _
    rw [List.length_cons]
    rw [show j + l.length + 1 = j + (l.length + 1) from rfl] at h4
    omega
theorem ders_fit {r : RT} (h : Lv 161 4842888568831 5008 5766931476091 4966 r) (l : List Nat) (hl : l.length ≤ 5) : good (dersM r l) ∧ (dersM r l).sz ≤ 400000000 := by
  obtain ⟨hg, h1, _⟩ := lv4_T h
  obtain ⟨h2, h3⟩ := ders_T l r hg
  refine ⟨h2, ?_⟩
  have h4 := h3 0
  rw [Nat.zero_add] at h4
  have h5 := h1 l.length (by omega)
  have h6 := (seq_sz h2).2.1
  omega

end Go.Proofs.YtjeplmnjgdpgbaaGreatDoor
