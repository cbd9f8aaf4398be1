/- What a law of the teller's owes besides its walk: its arguments, opened and handed back. No condition. -/
import Derived.Test.YtddbaacibdmnaaaGreatDoorCards
import Derived.Test.YtddbaacibdmnaaaGreatDoorTie
import Derived.Test.YtddbaacibdmnaaaGreatDoorOwed
import Derived.Test.YtddbaacibdmnaaaGreatDoorTZA
import Derived.ProofKit
import Derived.OpenShut
import Derived.LaidMore
import Derived.Lay
import Derived.Carry
import Derived.ChangeSlices
import Derived.ChangeMaps5
import Derived.SevenTiedAt
import Derived.Stop.Joined
import Derived.LaidSub
import Derived.Lib.LaidTab
import Derived.Test.YtddbaacibdmnaaaGreatDoorTLen
import Derived.Test.YtddbaacibdmnaaaGreatDoorTMade
namespace Go.Proofs.YtddbaacibdmnaaaGreatDoor
open Go.ChangeShapes Go.WideShapes Go.ChangeAt Go.RowKit
set_option linter.unusedVariables false
set_option linter.unusedSimpArgs false

theorem laidOutP : laidOutB Tryz.prog = true := by kernel_rfl
theorem cellsByte : Tryz.prog.cellsOf 5 = 1 := by kernel_rfl

theorem bounds_u8 {x : Int} (h : (Lit.int .u8 x).wf = true) : 0 ≤ x ∧ x ≤ 255 := by simpa [Lit.wf, IntKind.min, IntKind.max, IntKind.signed, IntKind.bits] using h
theorem bounds_u16 {x : Int} (h : (Lit.int .u16 x).wf = true) : 0 ≤ x ∧ x ≤ 65535 := by simpa [Lit.wf, IntKind.min, IntKind.max, IntKind.signed, IntKind.bits] using h

/-- A slice of bytes that reads so. -/
def BytesAt (W : World) (v : Value) (zs : List Int) : Prop :=
  ∃ a cap, v = .slice a zs.length cap ∧ zs.length ≤ cap ∧ zs.length ≤ maxLen ∧ (∀ z ∈ zs, 0 ≤ z ∧ z ≤ 255) ∧
    (0 < zs.length → ∃ b off, a = some ⟨b, off, none⟩ ∧ b < W.heap.size ∧ ∀ (i : Nat) (z : Int), zs[i]? = some z → W.cell? ⟨b, off + i, none⟩ = some (.int .u8 z))

theorem BytesAt.below {W W' : World} {v : Value} {zs : List Int} (h : BytesAt W v zs) (hb : Below W.heap.size W W') : BytesAt W' v zs := by
  obtain ⟨a, cap, h1, h2, h3, h4, h5⟩ := h
  refine ⟨a, cap, h1, h2, h3, h4, fun hn => ?_⟩
  obtain ⟨b, off, ha, hlt, hc⟩ := h5 hn
  exact ⟨b, off, ha, Nat.lt_of_lt_of_le hlt hb.size, fun i z hz => (hb.cell (p := ⟨b, off + i, none⟩) hlt).trans (hc i z hz)⟩

theorem bounds_i64 {x : Int} (h : (Lit.int .i64 x).wf = true) : -9223372036854775808 ≤ x ∧ x ≤ 9223372036854775807 := by simpa [Lit.wf, IntKind.min, IntKind.max, IntKind.signed, IntKind.bits] using h

/-- The library's two tables, as the rows list them. -/
def bruijnTab : List Int := [0, 1, 56, 2, 57, 49, 28, 3, 61, 58, 42, 50, 38, 29, 17, 4, 62, 47, 59, 36, 45, 43, 51, 22, 53, 39, 33, 30, 24, 18, 12, 5, 63, 55, 48, 27, 60, 41, 37, 16, 46, 35, 44, 21, 52, 32, 23, 11, 54, 26, 40, 15, 34, 20, 31, 10, 25, 14, 19, 9, 13, 8, 7, 6]
theorem tabs_of_laid {l : List (String × DataW Unit)} {W : World} (h : laidMetH Tryz.prog l W) (hp : laidMetH Tryz.prog l W = laidMet Tryz.prog l W)
    (e1 : l.filter (fun x => x.1 == "math/bits.deBruijn64tab") = [("math/bits.deBruijn64tab", Lib.tabData .u8 bruijnTab)])
    (e2 : l.filter (fun x => x.1 == "internal/strconv.uint64pow10") = [("internal/strconv.uint64pow10", Lib.tabData .u64 Lib.pow10Tab)]) : Tabs W := by
  rw [hp] at h
  have h1 := laidMet.filter (fun x => x.1 == "math/bits.deBruijn64tab") h
  have h2 := laidMet.filter (fun x => x.1 == "internal/strconv.uint64pow10") h
  rw [e1] at h1
  rw [e2] at h2
  have t1 := Lib.tabIs_of_head (g := 6) (t := 136) (e := 5) (n := 64) (by kernel_rfl) (by kernel_rfl) Tryz.underlying136 Tryz.underlying5 (by kernel_rfl) (by kernel_rfl) h1
  have t2 := Lib.tabIs_of_head (g := 2) (t := 118) (e := 105) (n := 20) (by kernel_rfl) (by kernel_rfl) Tryz.underlying118 Tryz.underlying105 (by kernel_rfl) (by kernel_rfl) h2
  exact ⟨Lib.TabIs.cell t1 (by kernel_rfl) 15 (by decide), t2⟩

/-- Any text is the text of its bytes. -/
theorem str_any (s : ByteArray) : ∃ x : List Int, s = strOf x ∧ (∀ c ∈ x, 0 ≤ c ∧ c ≤ 255) ∧ x.length = s.size := by
  refine ⟨s.data.toList.map fun b => (b.toNat : Int), ?_, ?_, ?_⟩
  · apply ByteArray.ext
    unfold strOf
    have : (s.data.toList.map fun b => (b.toNat : Int)).map byt = s.data.toList := by
      rw [List.map_map]
      have : (byt ∘ fun b : UInt8 => (b.toNat : Int)) = id := by funext b; unfold byt; simp
      rw [this, List.map_id]
    rw [this]
  · intro c hc
    rw [List.mem_map] at hc
    obtain ⟨b, _, rfl⟩ := hc
    have := b.toNat_lt
    omega
  · rw [List.length_map]; rfl

section
variable {H : Type} {enc : TypeId × Value → H}

set_option maxRecDepth 100000 in
theorem open_bytes {W : World} {base : Nat} {v : Value} {d : DataW H} {p : List MemPlace} (hval : Value.okWide Tryz.prog W .any base 22 v) (h : DataW.Trod enc Tryz.prog W 0 (fun _ => true) true 22 v d p) :
    ∃ zs, BytesAt W v zs := by
  obtain ⟨a0, len, cap, rfl⟩ := okWide_slice Tryz.underlying22 hval
  obtain ⟨fuel, hf⟩ := h
  rcases open_ints Tryz.underlying22 Tryz.underlying5 cellsByte hf with ⟨hcs, hx⟩ | ⟨a, len', cap', zs, hcs, _, hl, hm, hz, hx, hc, hw⟩
  · simp [Value.cells] at hcs
    obtain ⟨rfl, rfl, rfl⟩ := hcs
    exact ⟨[], none, 0, rfl, Nat.le_refl _, Nat.zero_le _, fun z hz => by simp at hz, fun h => by simp at h⟩
  · simp [Value.cells] at hcs
    obtain ⟨rfl, rfl, rfl⟩ := hcs
    simp only [if_true] at hz

    have hlen : (zs.take len).length = len := by rw [List.length_take]; omega
    refine ⟨zs.take len, some a, cap, by rw [hlen], by omega, Nat.le_trans (by omega : (zs.take len).length ≤ cap) hm, fun z hz => bounds_u8 (hw z (List.mem_of_mem_take hz)), fun hn => ?_⟩
    obtain ⟨b, off, spot⟩ := a
    have h0 := hc 0 (by omega)
    have hspot : spot = none := by simpa [Addr.add] using World.cell?_spot h0
    subst hspot
    have hlt : b < W.heap.size := by
      have := World.block_lt_of_cell? W _ h0
      simpa [Addr.add] using this
    refine ⟨b, off, rfl, hlt, fun i z hzi => ?_⟩
    have hi : i < len := by
      have := (List.getElem?_eq_some_iff.1 hzi).1
      omega
    have hci := hc i (by omega)
    rw [List.getElem?_take_of_lt hi] at hzi
    have e : (⟨b, off, none⟩ : Addr).add i = ⟨b, off + i, none⟩ := by cases i <;> simp [Addr.add]
    rw [e, List.getD_eq_getElem?_getD, hzi] at hci
    exact hci

/-- What a law owes behind its walk, where an argument lies in memory. -/
theorem post_of_old {P : Program} {f : Func} {s : ChangeSpec} {fresh handsOn : Bool} {W W' : World} {args : Array Value} {v : Value} {ds gs : List (DataW H)} {before pa pv : List MemPlace}
    (hW : DataW.Whole enc P f.params.toList s.vars false W args.toList ds gs before)
    (hres : ∀ (b : Nat) (sp : Nat → Bool) (hd : Bool), DataW.TrodAll enc P W' b sp hd f.resultTypes.toList (v.resultList f.resultTypes.size) (s.fn H (ds ++ gs)).results [])
    (hargs : DataW.TrodAll enc P W' 0 (fun b => decide (b < W.heap.size)) true f.params.toList args.toList (s.fn H (ds ++ gs)).args pa)
    (hvars : ∀ sp : Nat → Bool, DataW.TrodVars enc P W' sp s.vars (s.fn H (ds ++ gs)).vars pv)
    (hps : before = pa ++ pv) (hb : Below W.heap.size W W') :
    s.post enc P f false fresh handsOn false W args v W' := by
  refine ⟨ds, gs, before, [], pa, pv, hW, hres _ _ _, hargs, hvars _, World.keptBut_mono (fun p hp => ⟨hp, ?_⟩) (hb.frame _), fun h => by cases h⟩
  rw [hps, List.mem_append] at hp
  exact Or.inr hp
end

end Go.Proofs.YtddbaacibdmnaaaGreatDoor

/- The law's own sameness of the two tellers. -/
namespace Go.Proofs.YtddbaacibdmnaaaGreatDoor
open Go.RowKit
set_option linter.unusedVariables false
set_option linter.unusedSimpArgs false

/-- Every beginning of the rules that may be told is short enough. -/
def ShortL (l : List Rule) : Prop := ∀ i, (l.take i).all rlB = true → (((l.take i).map lineT).flatten).length ≤ 1000000000000
theorem ShortL.whole {l : List Rule} (h : ShortL l) : l.all rlB = true → ((l.map lineT).flatten).length ≤ 1000000000000 := by
  have := h l.length
  rwa [List.take_length] at this

theorem tellV_cases (l : List Rule) : (∃ S, tellV l = .tuple #[.string S, .int .i64 0]) ∨ (∃ S, tellV l = .tuple #[.string S, .int .i64 1]) := by
  unfold tellV
  split
  · exact .inl ⟨_, rfl⟩
  · exact .inr ⟨_, rfl⟩



end Go.Proofs.YtddbaacibdmnaaaGreatDoor

/- One rule, in a block just made: the law's sameness holds of it. No condition. -/
namespace Go.Proofs.YtddbaacibdmnaaaGreatDoor
open Go.RowKit
set_option linter.unusedVariables false
set_option linter.unusedSimpArgs false

theorem short_one {r : Rule} (h : r.name.length + 20 * r.expr.tw ≤ 999999999990) : ShortL [r] := by
  intro i hi
  match i, hi with
  | 0, _ => simp
  | i + 1, hi =>
    have e : [r].take (i + 1) = [r] := by simp
    rw [e] at hi ⊢
    have hr : rlB r = true := by simpa using hi
    unfold rlB at hr
    rw [Bool.and_eq_true] at hr
    have := text_len 50 r.expr hr.2
    show (lineT r ++ []).length ≤ _
    rw [List.append_nil]
    unfold lineT
    simp only [List.length_append]
    have h4 : (if r.more = true then ([32, 61, 47, 32] : List Int) else [32, 61, 32]).length ≤ 4 := by split <;> simp
    have e10 : ([10] : List Int).length = 1 := rfl
    omega



theorem two_tree {W : World} {B : Nat} {k a b : Int} (h : W.heap[B]? = some (.cells #[.int .i64 a, .int .i64 b] 3 (0, 0))) : ETree W ⟨k, ⟨#[]⟩, .slice (some ⟨B, 0, none⟩) 2 2, 0, 0, .slice none 0 0⟩ (.mk k [] [a, b] 0 0 []) :=
  ETree.mk (x := []) (nums := [a, b]) (kids := []) [] (by simp) (by simp) (ints_at (xs := [a, b]) (by simp) h) (RowAny.nil _ _ _ _) rfl (fun i y t h => by simp at h)
theorem one_tree {W : World} {B : Nat} {lo hi : Int} {X : XV} {t : Tree} (h : W.heap[B]? = some (.cells #[.int .i64 X.kind, .string X.text, X.ns, .int .i64 X.lo, .int .i64 X.hi, X.ks] 36 (0, 0))) (ht : ETree W X t) : ETree W ⟨3, ⟨#[]⟩, .slice none 0 0, lo, hi, .slice (some ⟨B, 0, none⟩) 1 1⟩ (.mk 3 [] [] lo hi [t]) := by
  refine ETree.mk (x := []) (nums := []) [X] (by simp) (by simp) (RowAny.nil _ _ _ _) (RowAny.of_block h (by omega)) rfl (fun i y t' hy ht' => ?_)
  match i, hy, ht' with
  | 0, hy, ht' => cases hy; cases ht'; exact ht
  | i + 1, hy, ht' => simp at hy
theorem a_tree (W : World) : ETree W ⟨4, ⟨#[97]⟩, .slice none 0 0, 0, 0, .slice none 0 0⟩ (.mk 4 [97] [] 0 0 []) := ETree.mk (x := [97]) (nums := []) (kids := []) [] (by simp) (by simp) (RowAny.nil _ _ _ _) (RowAny.nil _ _ _ _) rfl (fun i y t h => by simp at h)

end Go.Proofs.YtddbaacibdmnaaaGreatDoor

/- Expressions that a law itself builds: of what lies in blocks of a kind (TreeAt) to what lies anywhere (ETree); a chain that grows outwards. -/
namespace Go.Proofs.YtddbaacibdmnaaaGreatDoor
open Go.RowKit
set_option linter.unusedVariables false
set_option linter.unusedSimpArgs false

theorem RowIn.any {W : World} {P : Nat → Prop} {v : Value} {n : Nat} {xs : List Value} (h : RowIn W P v n xs) : RowAny W v n xs := by
  rcases h with ⟨rfl, rfl⟩ | ⟨g, cap, rfl, h1, h2, _, h3, h4⟩
  · exact .inl ⟨rfl, _, _, rfl⟩
  · exact .inr ⟨g, 0, cap, rfl, h1, h2, h3, fun j u hj => by rw [Nat.zero_add]; exact h4 j u hj⟩

/-- Every text in an expression is of bytes, and not endless. -/
inductive TreeOk : Tree → Prop
  | mk {k lo hi : Int} {x ns : List Int} {kids : List Tree} : (∀ c ∈ x, 0 ≤ c ∧ c ≤ 255) → x.length ≤ 9223372036854775807 → (∀ u ∈ kids, TreeOk u) → TreeOk (.mk k x ns lo hi kids)

theorem TreeAt.tree {W : World} {P : Nat → Prop} {X : XV} {t : Tree} (h : TreeAt W P X t) (ho : TreeOk t) : ETree W X t := by
  induction h with
  | mk vs h1 h2 h3 _ ih =>
    cases ho with
    | mk o1 o2 o3 => exact .mk vs o1 o2 h1.any h2.any h3 (fun i y t hy ht => ih i y t hy ht (o3 t (List.mem_of_getElem? ht)))

/-- A row in one block just made. -/
theorem RowIn.of_block {W : World} {P : Nat → Prop} {g n : Nat} {cs : Array Value} {t : TypeId} (h : W.heap[g]? = some (.cells cs t (0, 0))) (hn : n ≤ 1000000) (hP : P g) : RowIn W P (.slice (some ⟨g, 0, none⟩) n n) n cs.toList := by
  refine .inr ⟨g, n, rfl, Nat.le_refl _, by unfold maxLen; omega, hP, (Array.getElem?_eq_some_iff.1 h).1, fun j u hj => ?_⟩
  simp only [World.cell?, h, Nat.zero_add]
  simpa using hj
theorem row_none (W : World) (P : Nat → Prop) : RowIn W P (.slice none 0 0) 0 [] := .inl ⟨rfl, rfl⟩

/-- An expression without others in it. -/
theorem leaf_at (W : World) (P : Nat → Prop) (k : Int) (x : List Int) : TreeAt W P ⟨k, strOf x, .slice none 0 0, 0, 0, .slice none 0 0⟩ (.mk k x [] 0 0 []) :=
  TreeAt.mk (nums := []) (kids := []) [] (row_none W P) (row_none W P) rfl (fun i y t h => by simp at h)
theorem leaf_ok (k : Int) {x : List Int} (hx : ∀ c ∈ x, 0 ≤ c ∧ c ≤ 255) (hl : x.length ≤ 1000) : TreeOk (.mk k x [] 0 0 []) := .mk hx (by omega) (fun u h => by simp at h)
/-- One other in it, or two, the list of them in a block just made. -/
theorem wrap1_at {W : World} {P : Nat → Prop} {g : Nat} {k lo hi : Int} {X : XV} {t : Tree} (h : W.heap[g]? = some (.cells #[.int .i64 X.kind, .string X.text, X.ns, .int .i64 X.lo, .int .i64 X.hi, X.ks] 36 (0, 0))) (hP : P g) (ht : TreeAt W P X t) :
    TreeAt W P ⟨k, strOf [], .slice none 0 0, lo, hi, .slice (some ⟨g, 0, none⟩) 1 1⟩ (.mk k [] [] lo hi [t]) := by
  refine TreeAt.mk (nums := []) [X] (row_none W P) (RowIn.of_block h (by omega) hP) rfl (fun i y t' hy ht' => ?_)
  match i, hy, ht' with
  | 0, hy, ht' => cases hy; cases ht'; exact ht
  | i + 1, hy, ht' => simp at hy
theorem wrap2_at {W : World} {P : Nat → Prop} {g : Nat} {k lo hi : Int} {X Y : XV} {t u : Tree} (h : W.heap[g]? = some (.cells #[.int .i64 X.kind, .string X.text, X.ns, .int .i64 X.lo, .int .i64 X.hi, X.ks, .int .i64 Y.kind, .string Y.text, Y.ns, .int .i64 Y.lo, .int .i64 Y.hi, Y.ks] 36 (0, 0))) (hP : P g) (ht : TreeAt W P X t) (hu : TreeAt W P Y u) :
    TreeAt W P ⟨k, strOf [], .slice none 0 0, lo, hi, .slice (some ⟨g, 0, none⟩) 2 2⟩ (.mk k [] [] lo hi [t, u]) := by
  refine TreeAt.mk (nums := []) [X, Y] (row_none W P) (RowIn.of_block h (by omega) hP) rfl (fun i y t' hy ht' => ?_)
  match i, hy, ht' with
  | 0, hy, ht' => cases hy; cases ht'; exact ht
  | 1, hy, ht' => cases hy; cases ht'; exact hu
  | i + 2, hy, ht' => simp at hy
theorem wrap1_ok {k lo hi : Int} {t : Tree} (h : TreeOk t) : TreeOk (.mk k [] [] lo hi [t]) := .mk (by simp) (by simp) (fun u hu => by simp at hu; subst hu; exact h)
theorem wrap2_ok {k lo hi : Int} {t u : Tree} (h : TreeOk t) (hu : TreeOk u) : TreeOk (.mk k [] [] lo hi [t, u]) := .mk (by simp) (by simp) (fun v hv => by simp at hv; rcases hv with rfl | rfl; exact h; exact hu)
theorem wrap1_tw {k lo hi : Int} (t : Tree) : (Tree.mk k [] [] lo hi [t]).tw = 1 + t.tw := by simp [Tree.tw]
theorem wrap2_tw {k lo hi : Int} (t u : Tree) : (Tree.mk k [] [] lo hi [t, u]).tw = 1 + (t.tw + u.tw) := by simp [Tree.tw]

end Go.Proofs.YtddbaacibdmnaaaGreatDoor

/- The law's rules by numbers, as both tellers read them; with one thing spoilt. No condition. -/
namespace Go.Proofs.YtddbaacibdmnaaaGreatDoor
open Go.RowKit
set_option linter.unusedVariables false
set_option linter.unusedSimpArgs false

def mkTw : Nat → Nat
  | 0 => 5
  | d + 1 => 5 + 3 * mkTw d
theorem word_ok {x : List Int} (h : x ∈ mkWords) : (∀ c ∈ x, 0 ≤ c ∧ c ≤ 255) ∧ x.length ≤ 4 := by
  simp [mkWords] at h
  rcases h with rfl | rfl | rfl | rfl | rfl <;> simp
theorem fold_ok {x : List Int} (h : x ∈ mkFolds) : (∀ c ∈ x, 0 ≤ c ∧ c ≤ 255) ∧ x.length ≤ 4 := by
  simp [mkFolds] at h
  rcases h with rfl | rfl | rfl | rfl | rfl <;> simp
theorem sum_tw {B : Nat} : ∀ (l : List Tree), (∀ t ∈ l, t.tw ≤ B) → (l.map Tree.tw).sum ≤ l.length * B
  | [], _ => by simp
  | t :: l, h => by
    have h1 := h t (by simp)
    have h2 := sum_tw l (fun u hu => h u (by simp [hu]))
    simp [Nat.add_mul]
    omega
theorem mk_ok {d : Nat} {t : Tree} (h : Mk d t) : TreeOk t ∧ t.tw ≤ mkTw d := by
  induction h with
  | @ref d x hx =>
    have := word_ok hx
    refine ⟨.mk this.1 (by omega) (fun u hu => by simp at hu), ?_⟩
    have : 5 ≤ mkTw d := by cases d <;> simp [mkTw]
    simp [Tree.tw]
    omega
  | @fold d x hx =>
    have := fold_ok hx
    refine ⟨.mk this.1 (by omega) (fun u hu => by simp at hu), ?_⟩
    have : 5 ≤ mkTw d := by cases d <;> simp [mkTw]
    simp [Tree.tw]
    omega
  | @nums d n l hn hl hm =>
    refine ⟨.mk (by simp) (by simp) (fun u hu => by simp at hu), ?_⟩
    have : 5 ≤ mkTw d := by cases d <;> simp [mkTw]
    simp [Tree.tw]
    omega
  | @span d n m _ _ _ =>
    refine ⟨.mk (by simp) (by simp) (fun u hu => by simp at hu), ?_⟩
    have : 5 ≤ mkTw d := by cases d <;> simp [mkTw]
    simp [Tree.tw]
    omega
  | rep _ _ _ _ _ _ ih =>
    refine ⟨wrap1_ok ih.1, ?_⟩
    rw [wrap1_tw]
    have := ih.2
    simp only [mkTw]
    omega
  | @many d k l hk h2 h3 _ ih =>
    refine ⟨.mk (by simp) (by simp) (fun u hu => (ih u hu).1), ?_⟩
    have hs := sum_tw l (fun t ht => (ih t ht).2)
    have h4 : l.length * mkTw d ≤ 3 * mkTw d := Nat.mul_le_mul_right _ h3
    simp only [Tree.tw, mkTw]
    simp
    omega
theorem mk3_tw {t : Tree} (h : Mk 3 t) : t.tw ≤ 1000 := Nat.le_trans (mk_ok h).2 (by decide)

theorem line_len {r : Rule} (h : rlB r = true) : (lineT r).length ≤ r.name.length + 20 * r.expr.tw + 5 := by
  unfold rlB at h
  rw [Bool.and_eq_true] at h
  have := text_len 50 r.expr h.2
  unfold lineT
  simp only [List.length_append]
  have h4 : (if r.more = true then ([32, 61, 47, 32] : List Int) else [32, 61, 32]).length ≤ 4 := by split <;> simp
  have e10 : ([10] : List Int).length = 1 := rfl
  omega
theorem short_all {l : List Rule} (h : ∀ r ∈ l, r.name.length + 20 * r.expr.tw ≤ 10000000) (hl : l.length ≤ 1000) : ShortL l := by
  intro i hi
  have key : ∀ (m : List Rule), (∀ r ∈ m, r ∈ l) → m.all rlB = true → ((m.map lineT).flatten).length ≤ m.length * 10000005 := by
    intro m
    induction m with
    | nil => intro _ _; simp
    | cons r m ih =>
      intro hm ha
      rw [List.all_cons, Bool.and_eq_true] at ha
      have h1 := line_len ha.1
      have h2 := h r (hm r (by simp))
      have h3 := ih (fun u hu => hm u (by simp [hu])) ha.2
      simp only [List.map_cons, List.flatten_cons, List.length_append, List.length_cons, Nat.add_mul]
      omega
  have h1 := key (l.take i) (fun r hr => List.mem_of_mem_take hr) hi
  have h2 : (l.take i).length ≤ 1000 := by rw [List.length_take]; omega
  have h3 : (l.take i).length * 10000005 ≤ 1000 * 10000005 := Nat.mul_le_mul_right _ h2
  omega

/-- What the law makes is as the tellers ask. -/
theorem LT.lines {W : World} {base : Nat} {v : Value} {l : List Rule} {ys : List LV} (h : LT W base v l ys) (hm : MadeL l) : LinesE W v ys l := by
  obtain ⟨h1, h2, h3, _⟩ := h
  refine ⟨(RowIn.of_row h2 (P := fun _ => True) (fun _ _ => trivial)).any, h1, fun i y r hy hr => ?_⟩
  obtain ⟨g1, g2, g3⟩ := h3 i y r hy hr
  obtain ⟨m1, m2⟩ := hm r (List.mem_of_getElem? hr)
  have hw := word_ok m1
  exact ⟨g1, hw.1, by omega, g2, g3.tree (mk_ok m2).1⟩
theorem made_short {l : List Rule} (h : MadeL l) (hl : l.length ≤ 5) : ShortL l :=
  short_all (fun r hr => by
    have h1 := (word_ok (h r hr).1).2
    have h2 := mk3_tw (h r hr).2
    omega) (by omega)

/-- The first rule is another one now; the row and the rest are as they were. -/
theorem LT.spoil {W W' : World} {base n g cap : Nat} {v : Value} {r0 r0' : Rule} {rs : List Rule} {y0 y0' : LV} {yr : List LV} (h : LT W base v (r0 :: rs) (y0 :: yr)) (hm : MadeL (r0 :: rs)) (hv : v = .slice (some ⟨g, 0, none⟩) n cap)
    (hc : ∀ (j : Nat) (u : Value), y0'.cells[j]? = some u → W'.cell? ⟨g, j, none⟩ = some u) (hrest : ∀ j, 8 ≤ j → W'.cell? ⟨g, j, none⟩ = W.cell? ⟨g, j, none⟩) (hs : W.heap.size ≤ W'.heap.size)
    (hkeep : ∀ b, base ≤ b → some b ≠ v.ownBlock → some b ≠ y0.expr.ns.ownBlock → some b ≠ y0.expr.ks.ownBlock → b < W.heap.size → W'.heap[b]? = W.heap[b]?) (h0 : LineE W' y0' r0') : LinesE W' v (y0' :: yr) (r0' :: rs) := by
  obtain ⟨h1, h2, h3, h4⟩ := h
  obtain ⟨_, g2⟩ := h4 y0 r0 rfl rfl
  subst hv
  have hn : n = (r0 :: rs).length := by
    rcases h2.2 with ⟨e, _⟩ | ⟨k, c, cur, e, _⟩
    · cases e
    · simp at e; simp; omega
  obtain ⟨q1, q2, q3, q4⟩ := row_base (by rw [hn]; rw [hn] at h2; exact h2 : W.ownsRow base _ 8 (.slice (some ⟨g, 0, none⟩) n cap) n _)
  refine ⟨.inr ⟨g, 0, cap, by simp [hn], by simpa [hn] using q2, q3, Nat.lt_of_lt_of_le q4 hs, fun j u hj => ?_⟩, by simpa using h1, fun i y r hy hr => ?_⟩
  · rw [Nat.zero_add]
    by_cases hj8 : j < 8
    · refine hc j u ?_
      rw [List.flatMap_cons, List.getElem?_append_left (by simp [LV.cells]; omega)] at hj
      exact hj
    · rw [hrest j (by omega)]
      refine row_cell (n := n) (by rw [hn]; rw [hn] at h2; exact h2) ?_
      rw [List.flatMap_cons, List.getElem?_append_right (by simp [LV.cells]; omega)] at hj ⊢
      simpa [LV.cells] using hj
  · match i, hy, hr with
    | 0, hy, hr => cases hy; cases hr; exact h0
    | i + 1, hy, hr =>
      obtain ⟨e1, e2, _⟩ := h3 (i + 1) y r hy hr
      have hr' : (r0 :: rs)[i + 1]? = some r := hr
      obtain ⟨m1, m2⟩ := hm r (List.mem_of_getElem? hr')
      have hw := word_ok m1
      have ht := (g2 (i + 1) y r (by omega) hy hr).kept (W' := W') (P' := fun _ => True) (fun b hP hl => ⟨hkeep b hP.1.1 hP.1.2 hP.2.1 hP.2.2 hl, trivial⟩) hs
      exact ⟨e1, hw.1, by omega, e2, ht.tree (mk_ok m2).1⟩

end Go.Proofs.YtddbaacibdmnaaaGreatDoor
