/- The library's CompactFunc at expressions with their texts, in place. No condition but size. -/
import Derived.Test.YtclnadjgbpihcaaGreatDoorWithout
import Derived.Test.YtclnadjgbpihcaaGreatDoorSortM
import Derived.Test.YtclnadjgbpihcaaGreatDoorSymm
import Derived.Laws.IdiomCopy
namespace Go.Proofs.YtclnadjgbpihcaaGreatDoor
open Go.RowKit Go.Lib Go.Sort Go.Shelf
set_option linter.unusedVariables false
set_option linter.unusedSimpArgs false

/-! ### what is compacted, one by one -/
section
variable {α : Type} {key : α → Tx}
def lastK (key : α → Tx) : Tx → List α → Tx
  | k, [] => k
  | _, a :: l => lastK key (key a) l
theorem lastK_snoc (k : Tx) (l : List α) (y : α) : lastK key k (l ++ [y]) = key y := by
  induction l generalizing k with
  | nil => rfl
  | cons a l ih => exact ih _
theorem cptF_snoc (y : α) : ∀ (l : List α) (k : Tx), cptF key k (l ++ [y]) = cptF key k l ++ (if key y = lastK key k l then [] else [y])
  | [], k => by
    by_cases e : key y = k <;> simp [cptF, lastK, e]
  | a :: l, k => by
    have ih1 := cptF_snoc y l k
    have ih2 := cptF_snoc y l (key a)
    rw [List.cons_append, cptF, cptF, lastK]
    by_cases e : key a = k
    · rw [if_pos e, if_pos e, ih1, e]
    · rw [if_neg e, if_neg e, ih2, List.cons_append]
/-- One more, with the one ahead of it. -/
theorem cpt_next {l : List α} {j : Nat} {x y : α} (hx : l[j]? = some x) (hy : l[j + 1]? = some y) : cpt key (l.take (j + 1 + 1)) = cpt key (l.take (j + 1)) ++ (if key y = key x then [] else [y]) := by
  have e : l.take (j + 1 + 1) = l.take (j + 1) ++ [y] := by rw [List.take_add_one, hy]; rfl
  have e2 : l.take (j + 1) = l.take j ++ [x] := by rw [List.take_add_one, hx]; rfl
  rw [e]
  cases l with
  | nil => simp at hx
  | cons a l =>
    rw [List.take_succ_cons, List.cons_append, cpt, cpt, cptF_snoc, List.cons_append]
    have hl : lastK key (key a) (l.take j) = key x := by
      cases j with
      | zero => simp at hx; subst hx; simp [lastK]
      | succ j =>
        have hx2 : l[j]? = some x := by simpa using hx
        rw [List.take_add_one, hx2]
        exact lastK_snoc _ _ _
    rw [hl]
theorem cpt_one {l : List α} (h : 0 < l.length) : cpt key (l.take 1) = l.take 1 := by
  cases l with
  | nil => simp at h
  | cons a l => rfl
end
theorem flat7_len (vs : List KE) : (vs.flatMap KE.enc).length = vs.length * 7 := by
  induction vs with
  | nil => rfl
  | cons x vs ih => simp [KE.enc] at ih ⊢; omega
theorem flat7_at (vs : List KE) (i j : Nat) (x : KE) (h : vs[i]? = some x) (hj : j < 7) : (vs.flatMap KE.enc)[i * 7 + j]? = x.enc[j]? := by
  induction vs generalizing i with
  | nil => simp at h
  | cons y vs ih =>
    cases i with
    | zero =>
      simp at h
      subst h
      simp only [List.flatMap_cons, Nat.zero_mul, Nat.zero_add]
      rw [List.getElem?_append_left (by simp [KE.enc]; exact hj)]
    | succ i =>
      simp at h
      have := ih i h
      simp only [List.flatMap_cons]
      rw [List.getElem?_append_right (by simp [KE.enc]; omega), show (i + 1) * 7 + j - (KE.enc y).length = i * 7 + j by simp [KE.enc]; omega]
      exact this
theorem flat7_take : ∀ (k : Nat) (vs : List KE), (vs.take k).flatMap KE.enc = (vs.flatMap KE.enc).take (k * 7)
  | 0, vs => by simp
  | k + 1, [] => by simp
  | k + 1, x :: l => by
    rw [List.take_succ_cons, List.flatMap_cons, List.flatMap_cons, flat7_take k l, List.take_append, List.take_of_length_le (show x.enc.length ≤ (k + 1) * 7 by rw [x.enc_len]; omega), x.enc_len, show (k + 1) * 7 - 7 = k * 7 by omega]
theorem flat7_set (vs : List KE) (i : Nat) (x : KE) (h : i < vs.length) :
    (((((((vs.flatMap KE.enc).set (i * 7) (.string x.text)).set (i * 7 + 1) (.int .i64 x.re.kind)).set (i * 7 + 2) (.int .u64 x.re.a)).set (i * 7 + 3) (.int .u64 x.re.b)).set (i * 7 + 4) (.int .u64 x.re.c)).set (i * 7 + 5) (.int .u64 x.re.d)).set (i * 7 + 6) (.slice x.re.p x.re.n x.re.cap) = (vs.set i x).flatMap KE.enc := by
  induction vs generalizing i with
  | nil => simp at h
  | cons y vs ih =>
    cases i with
    | zero => simp [KE.enc]
    | succ i =>
      have ih := ih i (by simpa using h)
      have e : ∀ (j : Nat) (l : List Value) (u : Value), (y.enc ++ l).set ((i + 1) * 7 + j) u = y.enc ++ l.set (i * 7 + j) u := fun j l u => by
        rw [List.set_append, if_neg (by simp [KE.enc]; omega), show (i + 1) * 7 + j - y.enc.length = i * 7 + j by simp [KE.enc]; omega]
      have e0 := e 0
      simp only [Nat.add_zero] at e0
      simp only [List.flatMap_cons, List.set_cons_succ, e0, e]
      rw [ih]
theorem cell_grown {w : World} {g : Nat} (hg : g < w.heap.size) (j n : Nat) (os : Array Obj) : (grow (w.drewN n) os).cell? ⟨g, j, none⟩ = w.cell? ⟨g, j, none⟩ := by
  rw [cell?_grow _ _ _ (by exact hg)]
  rw [World.cell?_drewN]

def zero7 : Array Value := #[.string ⟨#[]⟩, .int .i64 0, .int .u64 0, .int .u64 0, .int .u64 0, .int .u64 0, .slice none 0 0]
theorem zero7_len (n : Nat) : (Builtin.zeroCells zero7 n).toList.length = n * 7 := by
  simp [Builtin.zeroCells, zero7]
theorem zero7_one (n : Nat) : ∀ v ∈ (Builtin.zeroCells zero7 n).toList, v.oneCell' = true := by
  intro v hv
  simp [Builtin.zeroCells] at hv
  obtain ⟨i, _, rfl⟩ := hv
  have h : ∀ j, j < 7 → (zero7[j]!).oneCell' = true := by decide
  exact h _ (Nat.mod_lt _ (by decide))
set_option maxRecDepth 100000 in
theorem run_clear7 (w : World) (ty : TypeId) (g o n c : Nat) (hn : 0 < n) (hc : ∀ j, j < n * 7 → (w.cell? ⟨g, o + j, none⟩).isSome = true) (hf : ∀ j, j < n * 7 → w.frozen? ⟨g, o + j, none⟩ = false) :
    (Builtin.clear_ #[104] ty #[.slice (some ⟨g, o, none⟩) n c]).run Tryz.prog w = .ok (.tuple #[]) (w.setCells g o (Builtin.zeroCells zero7 n).toList) := by
  have hst := run_storeCells_cells (P := Tryz.prog) g o (Builtin.zeroCells zero7 n).toList 0 w (by rw [zero7_len]; simpa using hc) (by rw [zero7_len]; simpa using hf) (zero7_one n)
  simp only [Nat.add_zero] at hst
  obtain ⟨m, rfl⟩ : ∃ m, n = m + 1 := ⟨n - 1, by omega⟩
  have hz : (Value.agg #[.string ⟨#[]⟩, .int .i64 0, .int .u64 0, .int .u64 0, .int .u64 0, .int .u64 0, .slice none 0 0]).cells = zero7 := rfl
  simp [Builtin.clear_, run_underlying Tryz.underlying104, Tryz.zeroValue106, hz, hst]

set_option maxHeartbeats 1000000 in
/-- The closure that asks whether two texts are one: it lays its two parameters' boxes. -/
theorem keyeq_any (x y : KE) (W : World) : Calls Tryz.prog 74 #[.agg x.enc.toArray, .agg y.enc.toArray] W fun e w' => e = .returned (.bool (decide (x.key = y.key))) ∧ ∃ q os', w' = grow (W.drewN q) os' := by
  have e : (x.text.toList == y.text.toList) = decide (x.key = y.key) := by
    rw [ByteArray.toList_eq, ByteArray.toList_eq]
    unfold KE.key
    rw [Bool.eq_iff_iff]
    simp
  have HE := Lib.hid e
  clear e
  unfold KE.enc
  go_enter Tryz.func74, Tryz.ntmps74
  go_wp2
  go_ret
  exact ⟨by rw [← HE.out]; exact rfl, 0, _, by rw [alloc_eq_grow, alloc_eq_grow, grow_grow]; rfl⟩

/-- How far it is: ahead stand those that stay of the first j; from the last of these on all is as it was. -/
structure CpAt (D : List KE) (i j : Nat) (ys : List KE) : Prop where
  len : ys.length = D.length
  kept : ys.take i = cpt KE.key (D.take j)
  rest : ys.drop (j - 1) = D.drop (j - 1)
theorem CpAt.at' {D ys : List KE} {i j t : Nat} (h : CpAt D i j ys) (ht : j - 1 ≤ t) : ys[t]? = D[t]? := by
  have := congrArg (fun l => l[t - (j - 1)]?) h.rest
  simp only [List.getElem?_drop] at this
  rw [show j - 1 + (t - (j - 1)) = t by omega] at this
  exact this
theorem CpAt.skip {D ys : List KE} {i j : Nat} {x y : KE} (h : CpAt D i (j + 1) ys) (hx : D[j]? = some x) (hy : D[j + 1]? = some y) (he : y.key = x.key) : CpAt D i (j + 1 + 1) ys := by
  refine ⟨h.len, ?_, ?_⟩
  · rw [cpt_next hx hy, if_pos he, List.append_nil]; exact h.kept
  · have := congrArg (List.drop 1) h.rest
    simpa [List.drop_drop] using this
theorem CpAt.keep {D ys : List KE} {i j : Nat} {x y : KE} (h : CpAt D i (j + 1) ys) (hx : D[j]? = some x) (hy : D[j + 1]? = some y) (he : ¬ y.key = x.key) (hij : i ≤ j) : CpAt D (i + 1) (j + 1 + 1) (ys.set i y) := by
  have hl := h.len
  have hj := (List.getElem?_eq_some_iff.1 hy).1
  refine ⟨by rw [List.length_set]; exact hl, ?_, ?_⟩
  · rw [cpt_next hx hy, if_neg he, ← h.kept, List.take_add_one, List.getElem?_set_self (by omega), List.take_set_of_le (Nat.le_refl _)]
    rfl
  · rw [show j + 1 + 1 - 1 = j + 1 by omega, List.drop_set_of_lt (by omega)]
    have := congrArg (List.drop 1) h.rest
    simpa [List.drop_drop] using this

set_option maxRecDepth 100000 in
set_option maxHeartbeats 8000000 in
theorem compact_any (w : World) (base g n cap : Nat) (D : List KE) (hO : w.ownsRow base 106 7 (.slice (some ⟨g, 0, none⟩) n cap) n (D.flatMap KE.enc)) (hbw : base ≤ w.heap.size) (hn : n ≤ 1000000000000) :
    Calls Tryz.prog 73 #[.slice (some ⟨g, 0, none⟩) n cap, .func (.func 74) #[] #[]] w fun e w' =>
      ∃ N, e = .returned (.slice (some ⟨g, 0, none⟩) N cap) ∧ w'.ownsRow base 106 7 (.slice (some ⟨g, 0, none⟩) N cap) N ((cpt KE.key D).flatMap KE.enc) ∧ Below base w w' := by
  obtain ⟨r1, r2, r3, r4⟩ := row_base hO
  unfold maxLen at r3
  have hvl : D.length = n := by have := hO.1; rw [flat7_len] at this; omega
  have HO0 := Lib.hid hO
  have HVL := Lib.hid hvl
  clear hO
  have mixed : Tryz.prog.follows .mixedOrders = true := by kernel_rfl
  go_enter Tryz.func73, Tryz.ntmps73
  by_cases hn2 : n < 2
  · have hn2z : (n : Int) < 2 := by omega
    have hcd : cpt KE.key D = D := by
      match D, hvl with
      | [], _ => rfl
      | [x], _ => rfl
      | x :: y :: l, h => simp at h; omega
    have HCD := Lib.hid hcd
    clear hcd hvl
    go_wp2
    go_ret
    refine ⟨n, rfl, ?_, Below.refl _ _⟩
    rw [HCD.out]
    exact HO0.out
  · have hn2z : ¬ (n : Int) < 2 := by omega
    clear hvl
    go_wp2
    go_loopg [5] n (fun gk vk wr => ∃ k : Nat, vk = .int .i64 (k : Int) ∧ 1 ≤ k ∧ k ≤ n ∧ n - k ≤ gk ∧ Hid (Below base w wr) ∧ Hid (wr.ownsRow base 106 7 (.slice (some ⟨g, 0, none⟩) n cap) n (D.flatMap KE.enc)) ∧ Hid (cpt KE.key (D.take k) = D.take k))
    case atStart => exact ⟨1, rfl, Nat.le_refl _, by omega, by omega, Below.refl _ _, HO0.out, cpt_one (by rw [HVL.out]; omega)⟩
    case round =>
      obtain ⟨k, rfl, hk1, hkn, hgk, HB, HO, HC⟩ := hrel
      obtain ⟨k, rfl⟩ : ∃ m, k = m + 1 := ⟨k - 1, by omega⟩
      by_cases hlt : k + 1 < n
      · have hltz : ((k + 1 : Nat) : Int) < (n : Int) := by omega
        have hk0z : (0 : Int) ≤ (k : Int) := by omega
        have hkz : (k : Int) < (n : Int) := by omega
        have ek : ((k + 1 : Nat) : Int) = (k : Int) + 1 := by omega
        have p0 : (0 : Int) ≤ (k : Int) + 1 := by omega
        have e0 : ((k : Int) + 1).toNat = k + 1 := by omega
        have eq1 : IntKind.i64.wrap (k : Int) = (k : Int) := by rw [IntKind.wrap_i64]; omega
        have zi : (k : Int) + 1 < (n : Int) := by omega
        obtain ⟨ys, hys⟩ : ∃ ys, ys = D := ⟨_, rfl⟩
        obtain ⟨x, hx⟩ : ∃ x, ys[k]? = some x := ⟨_, List.getElem?_eq_getElem (by rw [hys, HVL.out]; omega)⟩
        obtain ⟨y, hy⟩ : ∃ y, ys[k + 1]? = some y := ⟨_, List.getElem?_eq_getElem (by rw [hys, HVL.out]; omega)⟩
        have HOY : Hid (wr.ownsRow base 106 7 (.slice (some ⟨g, 0, none⟩) n cap) n (ys.flatMap KE.enc)) := by rw [hys]; exact HO
        have a0 : ∀ (n : Nat) (os : Array Obj), (grow (wr.drewN n) os).cell? ⟨g, (k) * 7, none⟩ = some (.string x.text) := fun n os => (cell_grown (row_base HOY.out).2.2.2 _ n os).trans (row_cell HOY.out ((flat7_at ys (k) 0 x hx (by decide)).trans rfl))
        have a1 : ∀ (n : Nat) (os : Array Obj), (grow (wr.drewN n) os).cell? ⟨g, (k) * 7 + 1, none⟩ = some (.int .i64 x.re.kind) := fun n os => (cell_grown (row_base HOY.out).2.2.2 _ n os).trans (row_cell HOY.out ((flat7_at ys (k) 1 x hx (by decide)).trans rfl))
        have a2 : ∀ (n : Nat) (os : Array Obj), (grow (wr.drewN n) os).cell? ⟨g, (k) * 7 + 2, none⟩ = some (.int .u64 x.re.a) := fun n os => (cell_grown (row_base HOY.out).2.2.2 _ n os).trans (row_cell HOY.out ((flat7_at ys (k) 2 x hx (by decide)).trans rfl))
        have a3 : ∀ (n : Nat) (os : Array Obj), (grow (wr.drewN n) os).cell? ⟨g, (k) * 7 + 3, none⟩ = some (.int .u64 x.re.b) := fun n os => (cell_grown (row_base HOY.out).2.2.2 _ n os).trans (row_cell HOY.out ((flat7_at ys (k) 3 x hx (by decide)).trans rfl))
        have a4 : ∀ (n : Nat) (os : Array Obj), (grow (wr.drewN n) os).cell? ⟨g, (k) * 7 + 4, none⟩ = some (.int .u64 x.re.c) := fun n os => (cell_grown (row_base HOY.out).2.2.2 _ n os).trans (row_cell HOY.out ((flat7_at ys (k) 4 x hx (by decide)).trans rfl))
        have a5 : ∀ (n : Nat) (os : Array Obj), (grow (wr.drewN n) os).cell? ⟨g, (k) * 7 + 5, none⟩ = some (.int .u64 x.re.d) := fun n os => (cell_grown (row_base HOY.out).2.2.2 _ n os).trans (row_cell HOY.out ((flat7_at ys (k) 5 x hx (by decide)).trans rfl))
        have a6 : ∀ (n : Nat) (os : Array Obj), (grow (wr.drewN n) os).cell? ⟨g, (k) * 7 + 6, none⟩ = some (.slice x.re.p x.re.n x.re.cap) := fun n os => (cell_grown (row_base HOY.out).2.2.2 _ n os).trans (row_cell HOY.out ((flat7_at ys (k) 6 x hx (by decide)).trans rfl))
        have b0 : ∀ (n : Nat) (os : Array Obj), (grow (wr.drewN n) os).cell? ⟨g, (k + 1) * 7, none⟩ = some (.string y.text) := fun n os => (cell_grown (row_base HOY.out).2.2.2 _ n os).trans (row_cell HOY.out ((flat7_at ys (k + 1) 0 y hy (by decide)).trans rfl))
        have b1 : ∀ (n : Nat) (os : Array Obj), (grow (wr.drewN n) os).cell? ⟨g, (k + 1) * 7 + 1, none⟩ = some (.int .i64 y.re.kind) := fun n os => (cell_grown (row_base HOY.out).2.2.2 _ n os).trans (row_cell HOY.out ((flat7_at ys (k + 1) 1 y hy (by decide)).trans rfl))
        have b2 : ∀ (n : Nat) (os : Array Obj), (grow (wr.drewN n) os).cell? ⟨g, (k + 1) * 7 + 2, none⟩ = some (.int .u64 y.re.a) := fun n os => (cell_grown (row_base HOY.out).2.2.2 _ n os).trans (row_cell HOY.out ((flat7_at ys (k + 1) 2 y hy (by decide)).trans rfl))
        have b3 : ∀ (n : Nat) (os : Array Obj), (grow (wr.drewN n) os).cell? ⟨g, (k + 1) * 7 + 3, none⟩ = some (.int .u64 y.re.b) := fun n os => (cell_grown (row_base HOY.out).2.2.2 _ n os).trans (row_cell HOY.out ((flat7_at ys (k + 1) 3 y hy (by decide)).trans rfl))
        have b4 : ∀ (n : Nat) (os : Array Obj), (grow (wr.drewN n) os).cell? ⟨g, (k + 1) * 7 + 4, none⟩ = some (.int .u64 y.re.c) := fun n os => (cell_grown (row_base HOY.out).2.2.2 _ n os).trans (row_cell HOY.out ((flat7_at ys (k + 1) 4 y hy (by decide)).trans rfl))
        have b5 : ∀ (n : Nat) (os : Array Obj), (grow (wr.drewN n) os).cell? ⟨g, (k + 1) * 7 + 5, none⟩ = some (.int .u64 y.re.d) := fun n os => (cell_grown (row_base HOY.out).2.2.2 _ n os).trans (row_cell HOY.out ((flat7_at ys (k + 1) 5 y hy (by decide)).trans rfl))
        have b6 : ∀ (n : Nat) (os : Array Obj), (grow (wr.drewN n) os).cell? ⟨g, (k + 1) * 7 + 6, none⟩ = some (.slice y.re.p y.re.n y.re.cap) := fun n os => (cell_grown (row_base HOY.out).2.2.2 _ n os).trans (row_cell HOY.out ((flat7_at ys (k + 1) 6 y hy (by decide)).trans rfl))
        have hcg : ∀ n os, Calls Tryz.prog 74 #[.agg #[.string y.text, .int .i64 y.re.kind, .int .u64 y.re.a, .int .u64 y.re.b, .int .u64 y.re.c, .int .u64 y.re.d, .slice y.re.p y.re.n y.re.cap], .agg #[.string x.text, .int .i64 x.re.kind, .int .u64 x.re.a, .int .u64 x.re.b, .int .u64 x.re.c, .int .u64 x.re.d, .slice x.re.p x.re.n x.re.cap]] (grow (wr.drewN n) os) fun e w' => e = .returned (.bool (decide (y.key = x.key))) ∧ ∃ q os', w' = grow ((grow (wr.drewN n) os).drewN q) os' := fun n os => keyeq_any y x _
        have HX := Lib.hid (hys ▸ hx)
        have HY := Lib.hid (hys ▸ hy)
        have HG := Lib.hid (row_base HO.out).2.2.2
        obtain ⟨R, hR⟩ : ∃ R, R = decide (y.key = x.key) := ⟨_, rfl⟩
        rw [← hR] at hcg
        have HR := Lib.hid hR
        clear hx hy hR HOY hys
        rw [ek]
        cases R with
        | false =>
          go_wp2_with fail
          go_quiet_grown (first | (go_at_call 74; refine Calls.grown_of (hcg _ _)))
          have HBQ : Hid (Below base w (grow (wr.drewN nq) osq)) := HB.out.trans ((below_drewn_grow wr nq osq).mono (Nat.le_trans hbw HB.out.size))
          have HOQ : Hid ((grow (wr.drewN nq) osq).ownsRow base 106 7 (.slice (some ⟨g, 0, none⟩) n cap) n (D.flatMap KE.enc)) := own_at HO.out (heap_grow_old (wr.drewN nq) osq HG.out)
          clear hcg a0 a1 a2 a3 a4 a5 a6 b0 b1 b2 b3 b4 b5 b6
          go_wp2
          go_roundg (n - (k + 1 + 1))
          case measure => omega
          case rel =>
            refine ⟨k + 1 + 1, by go_num, by omega, by omega, Nat.le_refl _, HBQ, HOQ, ?_⟩
            unfold Hid
            have e2 : D.take (k + 1 + 1) = D.take (k + 1) ++ [y] := by rw [List.take_add_one, HY.out]; rfl
            rw [cpt_next HX.out HY.out, if_neg (of_decide_eq_false HR.out.symm), HC.out, e2]
        | true =>
          go_wp2_with fail
          go_quiet_grown (first | (go_at_call 74; refine Calls.grown_of (hcg _ _)))
          have HBQ : Hid (Below base w (grow (wr.drewN nq) osq)) := HB.out.trans ((below_drewn_grow wr nq osq).mono (Nat.le_trans hbw HB.out.size))
          have HOQ : Hid ((grow (wr.drewN nq) osq).ownsRow base 106 7 (.slice (some ⟨g, 0, none⟩) n cap) n (D.flatMap KE.enc)) := own_at HO.out (heap_grow_old (wr.drewN nq) osq HG.out)
          have HS : Hid (CpAt D (k + 1) (k + 1 + 0 + 1) D) := ⟨rfl, by
            show D.take (k + 1) = cpt KE.key (D.take (k + 1 + 1))
            rw [cpt_next HX.out HY.out, if_pos (of_decide_eq_true HR.out.symm), HC.out, List.append_nil], rfl⟩
          clear hcg a0 a1 a2 a3 a4 a5 a6 b0 b1 b2 b3 b4 b5 b6
          generalize grow (wr.drewN nq) osq = wq at HBQ HOQ ⊢
          obtain ⟨wo, hwo⟩ : ∃ x : World, x = wr := ⟨_, rfl⟩
          subst hwo
          have hkn : k + 1 ≤ n := by omega
          have hkc : k + 1 ≤ cap := by omega
          go_wp2
          obtain ⟨M, hM⟩ : ∃ M, M = n - (k + 1) := ⟨_, rfl⟩
          obtain ⟨O, hOO⟩ : ∃ O, O = (k + 1) * 7 := ⟨_, rfl⟩
          rw [← hM, ← hOO]
          have hMn : n = k + 1 + M := by omega
          have HOO := Lib.hid hOO
          have HMN := Lib.hid hMn
          clear hM hOO HR HX HY HC hMn
          go_loopg [5, 7] n (fun gk vi vj wr => ∃ (i q : Nat) (ys : List KE), vi = .int .i64 (i : Int) ∧ vj = .int .i64 ((q : Int) + 1) ∧ q + 1 ≤ M ∧ i ≤ k + 1 + q ∧ n - q ≤ gk ∧ Hid (Below base w wr) ∧ Hid (wr.ownsRow base 106 7 (.slice (some ⟨g, 0, none⟩) n cap) n (ys.flatMap KE.enc)) ∧ Hid (CpAt D i (k + 1 + q + 1) ys))
          case atStart => exact ⟨k + 1, 0, D, by go_num, by go_num, by have := HMN.out; omega, by omega, by omega, HBQ.out, HOQ.out, HS.out⟩
          case round =>
            obtain ⟨i, q, ys, rfl, rfl, hq, hi, hgk2, HB, HO, HD⟩ := hrel
            by_cases hlt : q + 1 < M
            · have hltz : (q : Int) + 1 < (M : Int) := by omega
              have hqb : q + 1 + 1 < 10000000000000 := by have := HMN.out; omega
              have p0 : (0 : Int) ≤ (q : Int) + 1 := by omega
              have e0 : ((q : Int) + 1).toNat = q + 1 := by omega
              have eq1 : IntKind.i64.wrap (q : Int) = (q : Int) := by have := HMN.out; rw [IntKind.wrap_i64]; omega
              have zj : (q : Int) < (M : Int) := by omega
              have hdx := HD.out.at' (t := k + 1 + q) (by omega)
              have hdy := HD.out.at' (t := k + 1 + q + 1) (by omega)
              obtain ⟨x, hx⟩ : ∃ x, ys[k + 1 + q]? = some x := ⟨_, List.getElem?_eq_getElem (by rw [HD.out.len, HVL.out]; have := HMN.out; omega)⟩
              obtain ⟨y, hy⟩ : ∃ y, ys[k + 1 + q + 1]? = some y := ⟨_, List.getElem?_eq_getElem (by rw [HD.out.len, HVL.out]; have := HMN.out; omega)⟩
              have a0 : ∀ (n : Nat) (os : Array Obj), (grow (wr.drewN n) os).cell? ⟨g, O + q * 7, none⟩ = some (.string x.text) := fun n os => by rw [show O + q * 7 = (k + 1 + q) * 7 by have := HOO.out; omega]; exact (cell_grown (row_base HO.out).2.2.2 _ n os).trans (row_cell HO.out ((flat7_at ys (k + 1 + q) 0 x hx (by decide)).trans rfl))
              have a1 : ∀ (n : Nat) (os : Array Obj), (grow (wr.drewN n) os).cell? ⟨g, O + q * 7 + 1, none⟩ = some (.int .i64 x.re.kind) := fun n os => by rw [show O + q * 7 + 1 = (k + 1 + q) * 7 + 1 by have := HOO.out; omega]; exact (cell_grown (row_base HO.out).2.2.2 _ n os).trans (row_cell HO.out ((flat7_at ys (k + 1 + q) 1 x hx (by decide)).trans rfl))
              have a2 : ∀ (n : Nat) (os : Array Obj), (grow (wr.drewN n) os).cell? ⟨g, O + q * 7 + 2, none⟩ = some (.int .u64 x.re.a) := fun n os => by rw [show O + q * 7 + 2 = (k + 1 + q) * 7 + 2 by have := HOO.out; omega]; exact (cell_grown (row_base HO.out).2.2.2 _ n os).trans (row_cell HO.out ((flat7_at ys (k + 1 + q) 2 x hx (by decide)).trans rfl))
              have a3 : ∀ (n : Nat) (os : Array Obj), (grow (wr.drewN n) os).cell? ⟨g, O + q * 7 + 3, none⟩ = some (.int .u64 x.re.b) := fun n os => by rw [show O + q * 7 + 3 = (k + 1 + q) * 7 + 3 by have := HOO.out; omega]; exact (cell_grown (row_base HO.out).2.2.2 _ n os).trans (row_cell HO.out ((flat7_at ys (k + 1 + q) 3 x hx (by decide)).trans rfl))
              have a4 : ∀ (n : Nat) (os : Array Obj), (grow (wr.drewN n) os).cell? ⟨g, O + q * 7 + 4, none⟩ = some (.int .u64 x.re.c) := fun n os => by rw [show O + q * 7 + 4 = (k + 1 + q) * 7 + 4 by have := HOO.out; omega]; exact (cell_grown (row_base HO.out).2.2.2 _ n os).trans (row_cell HO.out ((flat7_at ys (k + 1 + q) 4 x hx (by decide)).trans rfl))
              have a5 : ∀ (n : Nat) (os : Array Obj), (grow (wr.drewN n) os).cell? ⟨g, O + q * 7 + 5, none⟩ = some (.int .u64 x.re.d) := fun n os => by rw [show O + q * 7 + 5 = (k + 1 + q) * 7 + 5 by have := HOO.out; omega]; exact (cell_grown (row_base HO.out).2.2.2 _ n os).trans (row_cell HO.out ((flat7_at ys (k + 1 + q) 5 x hx (by decide)).trans rfl))
              have a6 : ∀ (n : Nat) (os : Array Obj), (grow (wr.drewN n) os).cell? ⟨g, O + q * 7 + 6, none⟩ = some (.slice x.re.p x.re.n x.re.cap) := fun n os => by rw [show O + q * 7 + 6 = (k + 1 + q) * 7 + 6 by have := HOO.out; omega]; exact (cell_grown (row_base HO.out).2.2.2 _ n os).trans (row_cell HO.out ((flat7_at ys (k + 1 + q) 6 x hx (by decide)).trans rfl))
              have b0 : ∀ (n : Nat) (os : Array Obj), (grow (wr.drewN n) os).cell? ⟨g, O + (q + 1) * 7, none⟩ = some (.string y.text) := fun n os => by rw [show O + (q + 1) * 7 = (k + 1 + q + 1) * 7 by have := HOO.out; omega]; exact (cell_grown (row_base HO.out).2.2.2 _ n os).trans (row_cell HO.out ((flat7_at ys (k + 1 + q + 1) 0 y hy (by decide)).trans rfl))
              have b1 : ∀ (n : Nat) (os : Array Obj), (grow (wr.drewN n) os).cell? ⟨g, O + (q + 1) * 7 + 1, none⟩ = some (.int .i64 y.re.kind) := fun n os => by rw [show O + (q + 1) * 7 + 1 = (k + 1 + q + 1) * 7 + 1 by have := HOO.out; omega]; exact (cell_grown (row_base HO.out).2.2.2 _ n os).trans (row_cell HO.out ((flat7_at ys (k + 1 + q + 1) 1 y hy (by decide)).trans rfl))
              have b2 : ∀ (n : Nat) (os : Array Obj), (grow (wr.drewN n) os).cell? ⟨g, O + (q + 1) * 7 + 2, none⟩ = some (.int .u64 y.re.a) := fun n os => by rw [show O + (q + 1) * 7 + 2 = (k + 1 + q + 1) * 7 + 2 by have := HOO.out; omega]; exact (cell_grown (row_base HO.out).2.2.2 _ n os).trans (row_cell HO.out ((flat7_at ys (k + 1 + q + 1) 2 y hy (by decide)).trans rfl))
              have b3 : ∀ (n : Nat) (os : Array Obj), (grow (wr.drewN n) os).cell? ⟨g, O + (q + 1) * 7 + 3, none⟩ = some (.int .u64 y.re.b) := fun n os => by rw [show O + (q + 1) * 7 + 3 = (k + 1 + q + 1) * 7 + 3 by have := HOO.out; omega]; exact (cell_grown (row_base HO.out).2.2.2 _ n os).trans (row_cell HO.out ((flat7_at ys (k + 1 + q + 1) 3 y hy (by decide)).trans rfl))
              have b4 : ∀ (n : Nat) (os : Array Obj), (grow (wr.drewN n) os).cell? ⟨g, O + (q + 1) * 7 + 4, none⟩ = some (.int .u64 y.re.c) := fun n os => by rw [show O + (q + 1) * 7 + 4 = (k + 1 + q + 1) * 7 + 4 by have := HOO.out; omega]; exact (cell_grown (row_base HO.out).2.2.2 _ n os).trans (row_cell HO.out ((flat7_at ys (k + 1 + q + 1) 4 y hy (by decide)).trans rfl))
              have b5 : ∀ (n : Nat) (os : Array Obj), (grow (wr.drewN n) os).cell? ⟨g, O + (q + 1) * 7 + 5, none⟩ = some (.int .u64 y.re.d) := fun n os => by rw [show O + (q + 1) * 7 + 5 = (k + 1 + q + 1) * 7 + 5 by have := HOO.out; omega]; exact (cell_grown (row_base HO.out).2.2.2 _ n os).trans (row_cell HO.out ((flat7_at ys (k + 1 + q + 1) 5 y hy (by decide)).trans rfl))
              have b6 : ∀ (n : Nat) (os : Array Obj), (grow (wr.drewN n) os).cell? ⟨g, O + (q + 1) * 7 + 6, none⟩ = some (.slice y.re.p y.re.n y.re.cap) := fun n os => by rw [show O + (q + 1) * 7 + 6 = (k + 1 + q + 1) * 7 + 6 by have := HOO.out; omega]; exact (cell_grown (row_base HO.out).2.2.2 _ n os).trans (row_cell HO.out ((flat7_at ys (k + 1 + q + 1) 6 y hy (by decide)).trans rfl))
              have hcg : ∀ n os, Calls Tryz.prog 74 #[.agg #[.string y.text, .int .i64 y.re.kind, .int .u64 y.re.a, .int .u64 y.re.b, .int .u64 y.re.c, .int .u64 y.re.d, .slice y.re.p y.re.n y.re.cap], .agg #[.string x.text, .int .i64 x.re.kind, .int .u64 x.re.a, .int .u64 x.re.b, .int .u64 x.re.c, .int .u64 x.re.d, .slice x.re.p x.re.n x.re.cap]] (grow (wr.drewN n) os) fun e w' => e = .returned (.bool (decide (y.key = x.key))) ∧ ∃ q os', w' = grow ((grow (wr.drewN n) os).drewN q) os' := fun n os => keyeq_any y x _
              have HX := Lib.hid (hdx.symm.trans hx)
              have HY := Lib.hid (hdy.symm.trans hy)
              have HYS := Lib.hid hy
              have HG := Lib.hid (row_base HO.out).2.2.2
              obtain ⟨R, hR⟩ : ∃ R, R = decide (y.key = x.key) := ⟨_, rfl⟩
              rw [← hR] at hcg
              have HR := Lib.hid hR
              clear hx hy hR hdx hdy
              cases R with
              | true =>
                go_wp2_with fail
                go_quiet_grown (first | (go_at_call 74; refine Calls.grown_of (hcg _ _)))
                have HBQ : Hid (Below base w (grow (wr.drewN nq) osq)) := HB.out.trans ((below_drewn_grow wr nq osq).mono (Nat.le_trans hbw HB.out.size))
                have HOQ : Hid ((grow (wr.drewN nq) osq).ownsRow base 106 7 (.slice (some ⟨g, 0, none⟩) n cap) n (ys.flatMap KE.enc)) := own_at HO.out (heap_grow_old (wr.drewN nq) osq HG.out)
                clear hcg a0 a1 a2 a3 a4 a5 a6 b0 b1 b2 b3 b4 b5 b6
                go_wp2
                go_roundg (n - (q + 1))
                case measure => have := HMN.out; omega
                case rel => exact ⟨i, q + 1, ys, rfl, by go_num, (by have := HMN.out; omega), (by have := HMN.out; omega), Nat.le_refl _, HBQ.out, HOQ.out, HD.out.skip HX.out HY.out (of_decide_eq_true HR.out.symm)⟩
              | false =>
                go_wp2_with fail
                go_quiet_grown (first | (go_at_call 74; refine Calls.grown_of (hcg _ _)))
                have HBQ : Hid (Below base w (grow (wr.drewN nq) osq)) := HB.out.trans ((below_drewn_grow wr nq osq).mono (Nat.le_trans hbw HB.out.size))
                have HOQ : Hid ((grow (wr.drewN nq) osq).ownsRow base 106 7 (.slice (some ⟨g, 0, none⟩) n cap) n (ys.flatMap KE.enc)) := own_at HO.out (heap_grow_old (wr.drewN nq) osq HG.out)
                clear hcg a0 a1 a2 a3 a4 a5 a6 b0 b1 b2 b3 b4 b5 b6
                generalize grow (wr.drewN nq) osq = wq at HBQ HOQ ⊢
                obtain ⟨z, hz⟩ : ∃ z, ys[i]? = some z := ⟨_, List.getElem?_eq_getElem (by rw [HD.out.len, HVL.out]; have := HMN.out; omega)⟩
                have b0 : wq.cell? ⟨g, O + (q + 1) * 7, none⟩ = some (.string y.text) := by rw [show O + (q + 1) * 7 = (k + 1 + q + 1) * 7 by have := HOO.out; omega]; exact row_cell HOQ.out ((flat7_at ys (k + 1 + q + 1) 0 y HYS.out (by decide)).trans rfl)
                have b1 : wq.cell? ⟨g, O + (q + 1) * 7 + 1, none⟩ = some (.int .i64 y.re.kind) := by rw [show O + (q + 1) * 7 + 1 = (k + 1 + q + 1) * 7 + 1 by have := HOO.out; omega]; exact row_cell HOQ.out ((flat7_at ys (k + 1 + q + 1) 1 y HYS.out (by decide)).trans rfl)
                have b2 : wq.cell? ⟨g, O + (q + 1) * 7 + 2, none⟩ = some (.int .u64 y.re.a) := by rw [show O + (q + 1) * 7 + 2 = (k + 1 + q + 1) * 7 + 2 by have := HOO.out; omega]; exact row_cell HOQ.out ((flat7_at ys (k + 1 + q + 1) 2 y HYS.out (by decide)).trans rfl)
                have b3 : wq.cell? ⟨g, O + (q + 1) * 7 + 3, none⟩ = some (.int .u64 y.re.b) := by rw [show O + (q + 1) * 7 + 3 = (k + 1 + q + 1) * 7 + 3 by have := HOO.out; omega]; exact row_cell HOQ.out ((flat7_at ys (k + 1 + q + 1) 3 y HYS.out (by decide)).trans rfl)
                have b4 : wq.cell? ⟨g, O + (q + 1) * 7 + 4, none⟩ = some (.int .u64 y.re.c) := by rw [show O + (q + 1) * 7 + 4 = (k + 1 + q + 1) * 7 + 4 by have := HOO.out; omega]; exact row_cell HOQ.out ((flat7_at ys (k + 1 + q + 1) 4 y HYS.out (by decide)).trans rfl)
                have b5 : wq.cell? ⟨g, O + (q + 1) * 7 + 5, none⟩ = some (.int .u64 y.re.d) := by rw [show O + (q + 1) * 7 + 5 = (k + 1 + q + 1) * 7 + 5 by have := HOO.out; omega]; exact row_cell HOQ.out ((flat7_at ys (k + 1 + q + 1) 5 y HYS.out (by decide)).trans rfl)
                have b6 : wq.cell? ⟨g, O + (q + 1) * 7 + 6, none⟩ = some (.slice y.re.p y.re.n y.re.cap) := by rw [show O + (q + 1) * 7 + 6 = (k + 1 + q + 1) * 7 + 6 by have := HOO.out; omega]; exact row_cell HOQ.out ((flat7_at ys (k + 1 + q + 1) 6 y HYS.out (by decide)).trans rfl)
                have d0 := row_cell HOQ.out (j := i * 7) (u := .string z.text) ((flat7_at ys i 0 z hz (by decide)).trans rfl)
                have d1 := row_cell HOQ.out (j := i * 7 + 1) (u := .int .i64 z.re.kind) ((flat7_at ys i 1 z hz (by decide)).trans rfl)
                have d2 := row_cell HOQ.out (j := i * 7 + 2) (u := .int .u64 z.re.a) ((flat7_at ys i 2 z hz (by decide)).trans rfl)
                have d3 := row_cell HOQ.out (j := i * 7 + 3) (u := .int .u64 z.re.b) ((flat7_at ys i 3 z hz (by decide)).trans rfl)
                have d4 := row_cell HOQ.out (j := i * 7 + 4) (u := .int .u64 z.re.c) ((flat7_at ys i 4 z hz (by decide)).trans rfl)
                have d5 := row_cell HOQ.out (j := i * 7 + 5) (u := .int .u64 z.re.d) ((flat7_at ys i 5 z hz (by decide)).trans rfl)
                have d6 := row_cell HOQ.out (j := i * 7 + 6) (u := .slice z.re.p z.re.n z.re.cap) ((flat7_at ys i 6 z hz (by decide)).trans rfl)
                have f0 := own_frozenR HOQ.out (i * 7)
                have f1 := own_frozenR HOQ.out (i * 7 + 1)
                have f2 := own_frozenR HOQ.out (i * 7 + 2)
                have f3 := own_frozenR HOQ.out (i * 7 + 3)
                have f4 := own_frozenR HOQ.out (i * 7 + 4)
                have f5 := own_frozenR HOQ.out (i * 7 + 5)
                have f6 := own_frozenR HOQ.out (i * 7 + 6)
                have zi : (i : Int) < (n : Int) := by have := HMN.out; omega
                have HOS : Hid (((((((((wq).setCell ⟨g, i * 7, none⟩ (.string y.text)).setCell ⟨g, i * 7 + 1, none⟩ (.int .i64 y.re.kind)).setCell ⟨g, i * 7 + 2, none⟩ (.int .u64 y.re.a)).setCell ⟨g, i * 7 + 3, none⟩ (.int .u64 y.re.b)).setCell ⟨g, i * 7 + 4, none⟩ (.int .u64 y.re.c)).setCell ⟨g, i * 7 + 5, none⟩ (.int .u64 y.re.d)).setCell ⟨g, i * 7 + 6, none⟩ (.slice y.re.p y.re.n y.re.cap)).ownsRow base 106 7 (.slice (some ⟨g, 0, none⟩) n cap) n ((ys.set i y).flatMap KE.enc)) := by
                  unfold Hid
                  rw [← flat7_set ys i y (by rw [HD.out.len, HVL.out]; have := HMN.out; omega)]
                  exact own_set5r (own_set5r (own_set5r (own_set5r (own_set5r (own_set5r (own_set5r HOQ.out _ _) _ _) _ _) _ _) _ _) _ _) _ _
                have HBS : Hid (Below base w ((((((((wq).setCell ⟨g, i * 7, none⟩ (.string y.text)).setCell ⟨g, i * 7 + 1, none⟩ (.int .i64 y.re.kind)).setCell ⟨g, i * 7 + 2, none⟩ (.int .u64 y.re.a)).setCell ⟨g, i * 7 + 3, none⟩ (.int .u64 y.re.b)).setCell ⟨g, i * 7 + 4, none⟩ (.int .u64 y.re.c)).setCell ⟨g, i * 7 + 5, none⟩ (.int .u64 y.re.d)).setCell ⟨g, i * 7 + 6, none⟩ (.slice y.re.p y.re.n y.re.cap))) := ((((((HBQ.out.setCell r1 _).setCell r1 _).setCell r1 _).setCell r1 _).setCell r1 _).setCell r1 _).setCell r1 _
                clear hz
                go_wp2
                go_roundg (n - (q + 1))
                case measure => have := HMN.out; omega
                case rel => exact ⟨i + 1, q + 1, ys.set i y, by go_num, by go_num, (by have := HMN.out; omega), (by have := HMN.out; omega), Nat.le_refl _, HBS, HOS, HD.out.keep HX.out HY.out (of_decide_eq_false HR.out.symm) (by omega)⟩
            · have hltz : ¬ (q : Int) + 1 < (M : Int) := by omega
              have hin : i < n := by have := HMN.out; omega
              have hclr : ∀ ty, (Builtin.clear_ #[104] ty #[.slice (some ⟨g, i * 7, none⟩) (n - i) (cap - i)]).run Tryz.prog wr = .ok (.tuple #[]) (wr.setCells g (i * 7) (Builtin.zeroCells zero7 (n - i)).toList) := by
                intro ty
                refine run_clear7 wr ty g (i * 7) (n - i) (cap - i) (by omega) (fun t ht => ?_) (fun t ht => own_frozenR HO.out _)
                have hlen : (ys.flatMap KE.enc).length = n * 7 := HO.out.1
                rw [row_cell HO.out (List.getElem?_eq_getElem (by rw [hlen]; omega))]
                rfl
              have HFIN : Hid ((wr.setCells g (i * 7) (Builtin.zeroCells zero7 (n - i)).toList).ownsRow base 106 7 (.slice (some ⟨g, 0, none⟩) i cap) i ((cpt KE.key D).flatMap KE.enc)) := by
                have h1 := own_less HO.out (m := i) (by omega)
                rw [← flat7_take, HD.out.kept, List.take_of_length_le (by rw [HVL.out]; have := HMN.out; omega)] at h1
                exact own_cells_out _ _ _ (by have := h1.1; omega) h1
              have HBF : Hid (Below base w (wr.setCells g (i * 7) (Builtin.zeroCells zero7 (n - i)).toList)) := below_cells r1 _ _ _ HB.out
              obtain ⟨W9, hW9⟩ : ∃ W9, W9 = wr.setCells g (i * 7) (Builtin.zeroCells zero7 (n - i)).toList := ⟨_, rfl⟩
              rw [← hW9] at HFIN HBF
              simp only [← hW9] at hclr
              clear hW9
              have hile : i ≤ n := by omega
              have hcz : i ≤ cap := by omega
              go_wp2
              go_ret
              exact ⟨i, rfl, HFIN.out, HBF.out⟩
      · have hltz : ¬ ((k + 1 : Nat) : Int) < (n : Int) := by omega
        have hcd : cpt KE.key D = D := by
          have h := HC.out
          rw [List.take_of_length_le (by rw [HVL.out]; omega)] at h
          exact h
        have HCD := Lib.hid hcd
        clear hcd
        go_wp2
        go_ret
        refine ⟨n, rfl, ?_, HB.out⟩
        rw [HCD.out]
        exact HO.out

end Go.Proofs.YtclnadjgbpihcaaGreatDoor

