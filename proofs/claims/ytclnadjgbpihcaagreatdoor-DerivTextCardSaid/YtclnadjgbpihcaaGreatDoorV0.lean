/- Joined texts; each begins with what it says. -/
import Derived.Test.YtclnadjgbpihcaaGreatDoorW5
/-! The last region of the law DerivText: whatever order its operations take, it says true. No condition. -/
namespace Go.Proofs.YtclnadjgbpihcaaGreatDoor
open Go.RowKit Go.Lib
set_option linter.unusedVariables false
set_option linter.unusedSimpArgs false

noncomputable def opsTx : Array Oper := ((Tryz.prog.funcs[4]?.bind (·.body)).map (opsAt 6)).getD #[]
set_option maxRecDepth 100000 in
theorem opCall0Tx {w : World} {o : Oper} {a : Act} {K : Act → World → Prop} {Q : Exit → Act → World → Prop} {Fn : FuncId} {T : Array TypeId} {R : Ending → World → Prop} {s : SD} (ho : o.op = .call { callee := .value (.func Fn), args := #[], argTypes := T }) (hc : Calls Tryz.prog Fn #[] w R)
    (hF : ∀ args w, (callFunc Fn args).run Tryz.prog w = .ok (.enter Fn args) w)
    (hR : ∀ e w', R e w' → ∃ v, e = .returned v ∧ s.at w' v ∧ Below w.heap.size w w') (hK : ∀ v w', s.at w' v → Below w.heap.size w w' → K (a.put o.dst v) w') : o.wp Tryz.prog a w K Q := by
  unfold Oper.wp
  have hf : a.eval (.func Fn) = .func (.func Fn) #[] #[] := rfl
  generalize a.eval = ev at hf ⊢
  simp [execOp, ho, hf, go_sem, hF, resolve, invoke]
  refine hc.mono (fun e w' hr => ?_)
  obtain ⟨v, rfl, hs, hb⟩ := hR e w' hr
  exact hK v w' hs hb
theorem entATx : ∀ args w, (callFunc 7 args).run Tryz.prog w = .ok (.enter 7 args) w := enters_of Tryz.func7 (by kernel_rfl) rfl
theorem entRTx : ∀ args w, (callFunc 9 args).run Tryz.prog w = .ok (.enter 9 args) w := enters_of Tryz.func9 (by kernel_rfl) rfl
noncomputable def sTx (C : Nat) (x : ReV) (r : RT) (s : ByteArray) (m1 : Bool) : List SD := [.v tt, .v tt, .x r, .v (.string s), .v (.bool m1), .x r, .v (.string s), .v (.bool m1), .v tt, .v tt, .v tt]
noncomputable def fTx (C : Nat) (x : ReV) (r : RT) (s : ByteArray) (m1 : Bool) : List (Nat × Value) := [(5, .pointer (some ⟨C, 0, none⟩)), (1, .string s)]
theorem regKTx (C : Nat) (x : ReV) (r : RT) (s : ByteArray) (m1 : Bool) : RegK opsTx 11 33 4 23 (sTx C x r s m1) (fTx C x r s m1) :=
  ⟨by kernel_rfl, by kernel_rfl, rfl, by decide, by decide, (fun x hx => by simp [fTx] at hx; rcases hx with rfl | rfl <;> simp)⟩
/-- What is known. -/
structure HTx (C : Nat) (x : ReV) (r : RT) (s : ByteArray) (m1 : Bool) (W : World) : Prop where
  hC : W.heap[C]? = some (.cells x.cells.toArray 28 (0, 0))
  hx : RAt W (fun _ => True) x r
  hA : ∀ w, Below W.heap.size W w → Calls Tryz.prog 7 #[] w (GivesBool true w)
  hM : ∀ w, Below W.heap.size W w → ∀ y, RAt w (fun _ => True) y r → Calls Tryz.prog 8 #[y.val, .string s] w (GivesBool m1 w)
  hR : ∀ w, Below W.heap.size W w → ∀ y, RAt w (fun _ => True) y r → Calls Tryz.prog 9 #[y.val, .string s] w (GivesBool m1 w)
set_option maxRecDepth 100000 in
set_option maxHeartbeats 8000000 in
theorem stepTx (C : Nat) (x : ReV) (r : RT) (s : ByteArray) (m1 : Bool) {W w : World} {L : Array Bool} {a : Act} {i : Nat} {Q : Exit → Act → World → Prop} (hH : HTx C x r s m1 W) (hL : L.size = 11) (hJ : JR 11 33 4 23 (sTx C x r s m1) (fTx C x r s m1) W L a w) (hr : i ∈ Region.ready .any opsTx L) (hi : i < 11) : wpOp Tryz.prog opsTx Q i (JR 11 33 4 23 (sTx C x r s m1) (fTx C x r s m1) W (L.setIfInBounds i true)) a w := by
  have hk := regKTx C x r s m1
  match i, hi with
  | 0, _ => exact atP (d := 23) (by kernel_rfl) fun o ho hd => opCall0Tx (T := #[]) (s := (SD.v tt)) ho (hH.hA w hJ.2.2.1) entATx (fun _ _ h => boolOf h) (fun v w' hs hb => by rw [hd]; exact hJ.step hk (i := 0) (s := .v tt) rfl hL hs hb)
  | 1, _ => exact atP (d := 24) (by kernel_rfl) fun o ho hd => opMove (d := 23) (s := (SD.v tt)) (hJ.get (i := 1) (j := 0) hr (by kernel_rfl) rfl) ho (fun v w' hs hb => by rw [hd]; exact hJ.step hk (i := 1) (s := .v tt) rfl hL hs hb)
  | 2, _ => exact atG (d := 25) (g := 1) (m := 24) (by kernel_rfl) (by kernel_rfl) (hJ.get (i := 2) (j := 1) hr (by kernel_rfl) rfl) fun o ho hd => opLoad (d := 5) (hJ.2.2.2.1 (5, .pointer (some ⟨C, 0, none⟩)) (by simp [fTx])) ((hJ.2.2.1.block _ (Array.getElem?_eq_some_iff.1 hH.hC).1).trans hH.hC) (hH.hx.under hJ.2.2.1) ho (fun v w' hs hb => by rw [hd]; exact hJ.step hk (i := 2) (s := .x r) rfl hL hs hb)
  | 3, _ => exact atG (d := 26) (g := 1) (m := 24) (by kernel_rfl) (by kernel_rfl) (hJ.get (i := 3) (j := 1) hr (by kernel_rfl) rfl) fun o ho hd => opMove (d := 1) (s := (SD.v (.string s))) (hJ.2.2.2.1 (1, .string s) (by simp [fTx])) ho (fun v w' hs hb => by rw [hd]; exact hJ.step hk (i := 3) (s := .v (.string s)) rfl hL hs hb)
  | 4, _ => exact atG (d := 27) (g := 1) (m := 24) (by kernel_rfl) (by kernel_rfl) (hJ.get (i := 4) (j := 1) hr (by kernel_rfl) rfl) fun o ho hd => opTreeV (T := #[28, 9]) (x' := .tmp 26) (d := 25) (s := (SD.v (.bool m1))) (u' := .string s) (hJ.get (i := 4) (j := 2) hr (by kernel_rfl) rfl) (hJ.get (i := 4) (j := 3) hr (by kernel_rfl) rfl) ho (fun y hy => hH.hM w hJ.2.2.1 y hy) entM (fun _ _ h => boolOf h) (fun v w' hs hb => by rw [hd]; exact hJ.step hk (i := 4) (s := .v (.bool m1)) rfl hL hs hb)
  | 5, _ => exact atG (d := 28) (g := 1) (m := 24) (by kernel_rfl) (by kernel_rfl) (hJ.get (i := 5) (j := 1) hr (by kernel_rfl) rfl) fun o ho hd => opLoad (d := 5) (hJ.2.2.2.1 (5, .pointer (some ⟨C, 0, none⟩)) (by simp [fTx])) ((hJ.2.2.1.block _ (Array.getElem?_eq_some_iff.1 hH.hC).1).trans hH.hC) (hH.hx.under hJ.2.2.1) ho (fun v w' hs hb => by rw [hd]; exact hJ.step hk (i := 5) (s := .x r) rfl hL hs hb)
  | 6, _ => exact atG (d := 29) (g := 1) (m := 24) (by kernel_rfl) (by kernel_rfl) (hJ.get (i := 6) (j := 1) hr (by kernel_rfl) rfl) fun o ho hd => opMove (d := 1) (s := (SD.v (.string s))) (hJ.2.2.2.1 (1, .string s) (by simp [fTx])) ho (fun v w' hs hb => by rw [hd]; exact hJ.step hk (i := 6) (s := .v (.string s)) rfl hL hs hb)
  | 7, _ => exact atG (d := 30) (g := 1) (m := 24) (by kernel_rfl) (by kernel_rfl) (hJ.get (i := 7) (j := 1) hr (by kernel_rfl) rfl) fun o ho hd => opTreeV (T := #[28, 9]) (x' := .tmp 29) (d := 28) (s := (SD.v (.bool m1))) (u' := .string s) (hJ.get (i := 7) (j := 5) hr (by kernel_rfl) rfl) (hJ.get (i := 7) (j := 6) hr (by kernel_rfl) rfl) ho (fun y hy => hH.hR w hJ.2.2.1 y hy) entRTx (fun _ _ h => boolOf h) (fun v w' hs hb => by rw [hd]; exact hJ.step hk (i := 7) (s := .v (.bool m1)) rfl hL hs hb)
  | 8, _ => exact atG (d := 31) (g := 1) (m := 24) (by kernel_rfl) (by kernel_rfl) (hJ.get (i := 8) (j := 1) hr (by kernel_rfl) rfl) fun o ho hd => opEqB (c := 27) (d := 30) (b := m1) (hJ.get (i := 8) (j := 4) hr (by kernel_rfl) rfl) (hJ.get (i := 8) (j := 7) hr (by kernel_rfl) rfl) ho (fun v w' hs hb => by rw [hd]; exact hJ.step hk (i := 8) (s := .v tt) rfl hL hs hb)
  | 9, _ => exact atP (d := 32) (by kernel_rfl) fun o ho hd => opPick (c := 24) (d := 31) (hJ.get (i := 9) (j := 1) hr (by kernel_rfl) rfl) (hJ.get (i := 9) (j := 8) hr (by kernel_rfl) rfl) ho (fun v w' hs hb => by rw [hd]; exact hJ.step hk (i := 9) (s := .v tt) rfl hL hs hb)
  | 10, _ => exact atP (d := 4) (by kernel_rfl) fun o ho hd => opAssign (d := 32) (s := (SD.v tt)) (hJ.get (i := 10) (j := 9) hr (by kernel_rfl) rfl) ho (fun v w' hs hb => by rw [hd]; exact hJ.step hk (i := 10) (s := .v tt) rfl hL hs hb)
  | n + 11, h => omega
set_option maxRecDepth 100000 in
/-- The region, whatever order its operations take. -/
theorem regTx (C : Nat) (x : ReV) (r : RT) (s : ByteArray) (m1 : Bool) {W : World} {tmps : Array Value} {ops : Array Oper} {Q : Exit → Act → World → Prop} (hH : HTx C x r s m1 W) (hops : opsTx = ops) (hsz : tmps.size = 33) (hf : ∀ q0 ∈ fTx C x r s m1, tmps.getD q0.1 undef = q0.2)
    (hQ : ∀ (tm : Array Value) (w : World), tm.size = 33 → tm.getD 4 undef = .bool true → Below W.heap.size W w → Q .normal ⟨tm, []⟩ w) : (Code.region 6 ops true).wp Tryz.prog Q ⟨tmps, []⟩ W :=
  region_all (regKTx C x r s m1) hops hsz hf (fun L a w i hL hJ hr hi => stepTx C x r s m1 hH hL hJ hr hi) (fun tm w h1 _ h3 h4 => hQ tm w h1 (h3 10 (.v (.bool true)) rfl) h4)

end Go.Proofs.YtclnadjgbpihcaaGreatDoor

/-! What Match asks of two in a Cat or an Either, and of one ahead of any text. No condition. -/
namespace Go.Proofs.YtclnadjgbpihcaaGreatDoor
open Go.RowKit Go.Lib
set_option linter.unusedVariables false
set_option linter.unusedSimpArgs false

theorem T_del {t : RT} (hg : good t) : T 0 (seqOf t) ≤ t.sz ∧ 1048576 * T 1 (seqOf t) + 65536 * T 2 (seqOf t) + 4096 * T 3 (seqOf t) + 256 * T 4 (seqOf t) + 16 * T 5 (seqOf t) + T 6 (seqOf t) = Del t [] := by
  have k := fun j => T_seq j t []
  have e : ∀ j, T (j + 1) (seqOf t) = Dm j t [] := fun j => by
    have h4 := k j
    rw [List.append_nil] at h4
    have h5 : T (j + 1) ([] : List RT) = 0 := rfl
    rw [h4, h5]
    simp
  have e0 := e 0
  have e1 := e 1
  have e2 := e 2
  have e3 := e 3
  have e4 := e 4
  have e5 := e 5
  simp only [Nat.zero_add, Nat.reduceAdd] at e0 e1 e2 e3 e4 e5
  refine ⟨(seq_sz hg).1, ?_⟩
  unfold Del
  rw [e0, e1, e2, e3, e4, e5]
theorem fitM_del5 {t : RT} (hg : good t) (hs : t.sz ≤ 1000) (hD : Del t [] ≤ 95000000000) (hd : t.dep ≤ 125) (l : List Nat) (hl : l.length ≤ 5) : FitM t l := by
  obtain ⟨h0, h1⟩ := T_del hg
  have hk : ∀ k, k < 5 → T k (seqOf t) ≤ 399000000 := fun k hk => by
    match k, hk with
    | 0, _ => omega
    | 1, _ => omega
    | 2, _ => omega
    | 3, _ => omega
    | 4, _ => omega
    | n + 5, h => omega
  have h5 : T 5 (seqOf t) ≤ 5950000000 := by omega
  refine fitM_of l t hg ?_ (fun k h => by have := hk k (by omega); omega) ?_
  · have : 2 ^ l.length ≤ 2 ^ 5 := Nat.pow_le_pow_right (by decide) hl
    have h3 : t.dep * 2 ^ l.length ≤ 125 * 2 ^ 5 := Nat.mul_le_mul hd this
    omega
  · by_cases e : l.length = 5
    · rw [e]; omega
    · have := hk l.length (by omega); omega
theorem fitM_del6 {t : RT} (hg : good t) (hs : t.sz ≤ 1000) (hD : Del t [] ≤ 5900000000) (hd : t.dep ≤ 62) (l : List Nat) (hl : l.length ≤ 6) : FitM t l := by
  obtain ⟨h0, h1⟩ := T_del hg
  have hk : ∀ k, k < 6 → T k (seqOf t) ≤ 399000000 := fun k hk => by
    match k, hk with
    | 0, _ => omega
    | 1, _ => omega
    | 2, _ => omega
    | 3, _ => omega
    | 4, _ => omega
    | 5, _ => omega
    | n + 6, h => omega
  refine fitM_of l t hg ?_ (fun k h => by have := hk k (by omega); omega) ?_
  · have : 2 ^ l.length ≤ 2 ^ 6 := Nat.pow_le_pow_right (by decide) hl
    have h3 : t.dep * 2 ^ l.length ≤ 62 * 2 ^ 6 := Nat.mul_le_mul hd this
    omega
  · by_cases e : l.length = 6
    · rw [e]; omega
    · have := hk l.length (by omega); omega
/-- Two by the law's picker, in a Cat. -/
theorem cat2_del {a b : RT} (ha : Lv 161 4842888568831 5008 5766931476091 4966 a) (hb : Lv 161 4842888568831 5008 5766931476091 4966 b) : Del (catM [a, b]) [] ≤ 95000000000 := by
  have hg : ∀ t ∈ [a, b], good t := by
    intro t ht
    simp at ht
    rcases ht with rfl | rfl
    · exact ha.good
    · exact hb.good
  have h := del_cat hg []
  have hp : Psi [] = 0 := rfl
  have p := psi_seq hb.good []
  have d1 := lvany4 ha (seqOf b ++ [])
  have d2 := lvany4 hb []
  have sb := hb.sz
  simp only [DelL] at h
  have e1 : fl [b] ++ [] = seqOf b ++ [] := by simp [fl]
  have e2 : Del b (fl [] ++ []) = Del b [] := by simp [fl]
  rw [e1, e2] at h
  rw [hp] at p d2
  have h2 : Del (catM [a, b]) [] ≤ Del a (seqOf b ++ []) + Del b [] := by
    revert h
    cases nullM a <;> cases nullM b <;> (intro h; simp only [Bool.false_eq_true, if_true, if_false] at h; omega)
  omega
/-- In an Either. -/
theorem either2_del {a b : RT} (ha : Lv 161 4842888568831 5008 5766931476091 4966 a) (hb : Lv 161 4842888568831 5008 5766931476091 4966 b) : Del (eitherM [a, b]) [] ≤ 95000000000 := by
  have h := del_either [a, b] []
  have d1 := lvany4 ha []
  have d2 := lvany4 hb []
  have hp : Psi [] = 0 := rfl
  rw [hp] at d1 d2
  simp only [List.map_cons, List.map_nil, List.sum_cons, List.sum_nil] at h
  omega
/-- One ahead of any text. -/
theorem ahead_del {a s : RT} (ha : Lv 161 4842888568831 5008 5766931476091 4966 a) (hs : Lv 5 6093484621 73 5955687767 69 s) (sb : s.sz ≤ 2) : Del (catM [a, s]) [] ≤ 5900000000 := by
  have hg : ∀ t ∈ [a, s], good t := by
    intro t ht
    simp at ht
    rcases ht with rfl | rfl
    · exact ha.good
    · exact hs.good
  have h := del_cat hg []
  have hp : Psi [] = 0 := rfl
  have p := psi_seq hs.good []
  have d1 := lvany4 ha (seqOf s ++ [])
  have d2 := lv1_any hs []
  simp only [DelL] at h
  have e1 : fl [s] ++ [] = seqOf s ++ [] := by simp [fl]
  have e2 : Del s (fl [] ++ []) = Del s [] := by simp [fl]
  rw [e1, e2] at h
  rw [hp] at p d2
  have h2 : Del (catM [a, s]) [] ≤ Del a (seqOf s ++ []) + Del s [] := by
    revert h
    cases nullM a <;> cases nullM s <;> (intro h; simp only [Bool.false_eq_true, if_true, if_false] at h; omega)
  omega

end Go.Proofs.YtclnadjgbpihcaaGreatDoor
