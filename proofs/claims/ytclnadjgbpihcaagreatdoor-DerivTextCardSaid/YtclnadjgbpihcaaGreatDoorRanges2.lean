/- What Ranges returns, the program's (its bytes from bit to bit) and the document's: a slice of its own that holds the ranges of the set's bytes; memory that was there stays as it was. -/
import Derived.Maps.AppendAt
import Derived.Test.YtclnadjgbpihcaaGreatDoorIter2
import Derived.Test.YtclnadjgbpihcaaGreatDoorList
namespace Go.Proofs.YtclnadjgbpihcaaGreatDoor
open Go.RowKit Go.Shelf
attribute [local go_sem] Oper.semAt_some

/-- The ranges of the bytes that have come. -/
def rl (pre : List B8) : List (Nat × Nat) := pre.foldl (fun l x => ext l x.1) []

theorem rl_snoc (pre : List B8) (x : B8) : rl (pre ++ [x]) = ext (rl pre) x.1 := by simp [rl]

theorem rl_len (pre : List B8) : (rl pre).length ≤ pre.length := by
  suffices h : ∀ (pre : List B8) (l : List (Nat × Nat)), (pre.foldl (fun l x => ext l x.1) l).length ≤ l.length + pre.length by
    have := h pre []; simpa [rl] using this
  intro pre
  induction pre with
  | nil => intro l; simp
  | cons x pre ih =>
    intro l
    have h1 := ih (ext l x.1)
    have h2 := ext_len l x.1
    simp only [List.foldl_cons, List.length_cons]
    omega

theorem rl_els (f : Nat → Bool) : ∀ k, k ≤ 256 → rl (els f k) = rgs f k
  | 0, _ => rfl
  | k + 1, hk => by
    have ih := rl_els f k (by omega)
    cases hf : f k with
    | true => rw [els_yes (by omega) hf, rl_snoc, ih]; simp [rgs, hf]
    | false => rw [els_no hf, ih]; simp [rgs, hf]

theorem infoRange : (Tryz.prog.info? 97).map (fun i => (i.zero, i.size, i.bytes)) = some (some (.agg #[.int .i64 0, .int .i64 0]), 2, 16) := by kernel_rfl

/-- The call returns a slice of its own that holds l, and leaves what was there. -/
def RetRanges (l : List (Nat × Nat)) (w : World) (e : Ending) (w' : World) : Prop :=
  ∃ v, e = .returned v ∧ w'.ownsRow w.heap.size 97 2 v l.length (rcells l) ∧ Below w.heap.size w w'

/-- An append to the slice in box B, its row beyond every box: what the round keeps. -/
theorem collected {W w1 : World} {n₀ base B bx : Nat} {t e : TypeId} {size k m : Nat} {v v' : Value} {xs ys : List Value} {tmp : Obj}
    (hv : Boxed W B t v) (hte : t ≠ e) (hrow : W.ownsRow base e size v k xs) (hn₀ : n₀ ≤ B) (hB : B < base) (hbx : bx < base) (hW : base ≤ W.heap.size) (hne : bx ≠ B) (hg : 1 < B)
    (hown' : w1.ownsRow base e size v' m ys) (hgrow : (W.alloc tmp).grownBy w1 v.ownBlock) :
    Boxed w1 B t v ∧ Boxed (w1.setCell ⟨B, 0, none⟩ v') B t v' ∧ (w1.setCell ⟨B, 0, none⟩ v').ownsRow base e size v' m ys ∧ KeepsOthers W (w1.setCell ⟨B, 0, none⟩ v') ∧ KeepsBox bx W (w1.setCell ⟨B, 0, none⟩ v') ∧ Below n₀ W (w1.setCell ⟨B, 0, none⟩ v') := by
  obtain ⟨hv1, hv2, _, hk2, hb2⟩ := hv.appended (n₀ := n₀) hte (own_mono hrow (by omega)) (by omega) hn₀ (own_mono hown' (by omega)) hgrow
  refine ⟨hv1, hv2, hown'.kept (grownBy_setCell' w1 B v') (.inr (hv1.not_row hte hown').symm), hk2, ?_, hb2⟩
  have key : ∀ c, c < base → c ≠ B → (w1.setCell ⟨B, 0, none⟩ v').heap[c]? = W.heap[c]? := by
    intro c hc hcn
    refine (Below.heap_setCell _ _ _ _ hcn).trans ((hgrow.block c (by simp; omega) ?_).trans (Below.heap_alloc _ _ _ (by omega)))
    rcases hrow.2 with ⟨rfl, _⟩ | ⟨g, cap, cur, rfl, hg, _⟩
    · simp [Value.ownBlock]
    · simp [Value.ownBlock]; omega
  exact ⟨key bx hbx hne, fun h => h.heap (key _ (by omega) (by omega))⟩
theorem TabD.lt {W : World} (h : TabD W) : 1 < W.heap.size := World.block_lt_of_cell? W _ (tab_cell h 0 (by decide))

set_option maxRecDepth 100000 in
set_option maxHeartbeats 4000000 in
theorem ranges_in (n : Nat) (hn : 3 ≤ n) (a0 a1 a2 a3 : Int) (f : Nat → Bool) (ha : IsSet a0 a1 a2 a3 f) (w : World) (hT : TabD w) :
    CallsIn Fence.wide n Tryz.prog 96 #[.agg #[.int .u64 a0, .int .u64 a1, .int .u64 a2, .int .u64 a3]] w (RetRanges (rgs f 256) w) := by
  have h1 : 1 ≤ n := by omega
  obtain ⟨R, hR⟩ : ∃ R, R = rgs f 256 := ⟨_, rfl⟩
  rw [← hR]
  have HR := Lib.hid hR
  clear hR
  obtain ⟨i0, hi, hz0, hz1, hz2⟩ := info_parts infoRange
  have hgl := hT.lt
  have HT := Lib.hid hT
  clear hT
  refine callsIn_of_wp_marks Tryz.func96 rfl trivial ?_ rfl
  simp only [Tryz.ntmps96, List.size_toArray, List.length_cons, List.length_nil, Nat.reduceAdd, Nat.reduceSub, Array.replicate_succ, Array.replicate_zero, List.push_toArray, List.append_toArray, List.nil_append, List.cons_append]
  gi_wp2_with (refine ⟨trivial, ?_⟩; gi_at_call 100; refine (members_in (n - 1) _ _ _ _ _).mono ?_; rintro e w' ⟨rfl, rfl⟩)
  have bO := Boxed.new (w.alloc (.cells #[.int .u64 a0, .int .u64 a1, .int .u64 a2, .int .u64 a3] 25)) 93 (.slice none 0 0)
  rw [World.size_alloc] at bO
  have bS := Box4.new' ((w.alloc (.cells #[.int .u64 a0, .int .u64 a1, .int .u64 a2, .int .u64 a3] 25)).alloc (.cells #[.slice none 0 0] 93)) (w.heap.size + 1 + 1) a0 a1 a2 a3 (by simp)
  have hB0 : Below w.heap.size w (((w.alloc (.cells #[.int .u64 a0, .int .u64 a1, .int .u64 a2, .int .u64 a3] 25)).alloc (.cells #[.slice none 0 0] 93)).alloc (.cells #[.int .u64 a0, .int .u64 a1, .int .u64 a2, .int .u64 a3] 25)) := by go_grown
  refine wpIn_rangeFunc_ownG rfl h1 (gf := 103) (lb := #[.pointer (some ⟨w.heap.size + 1 + 1, 0, none⟩)]) rfl trivial (enters_of Tryz.func103 (by kernel_rfl) rfl)
    (members_stops (n - 1) (by omega) (w.heap.size + 1 + 1) a0 a1 a2 a3 f ha _ bS (HT.out.below hB0 (Nat.le_refl _))) keepsBox_t (keepsBox_b (by simp) (by simp <;> omega)) (Below.refl _ _) (fun _ => rfl)
    (fun pre W => ((∃ v, Boxed W (w.heap.size + 1) 93 v ∧ W.ownsRow (w.heap.size + 1 + 1 + 1) 97 2 v (rl pre).length (rcells (rl pre)) ∧ True) ∧ w.heap.size + 1 + 1 + 1 ≤ W.heap.size) ∧ Below w.heap.size w W)
    (fun _ _ _ => False)
    (OwnFrom.and (OwnFrom.and (Own.from (holdsRow_own (w.heap.size + 1 + 1 + 1) (w.heap.size + 1) 93 97 2 (fun pre => (rl pre).length) (fun pre => rcells (rl pre)) (fun _ _ => True)) _) (fun _ _ _ _ hs hg _ => Nat.le_trans hs hg.size)) (ownFrom_below (Nat.le_refl _) (by simp; omega)))
    (fun _ _ _ _ _ hs _ _ => hs)
    ⟨⟨⟨_, bO.alloc _, World.ownsRow_nil _ _ _ _, trivial⟩, by simp⟩, hB0⟩
    (fun x => { tmps := #[.agg #[.int .u64 a0, .int .u64 a1, .int .u64 a2, .int .u64 a3], .pointer (some ⟨w.heap.size, 0, none⟩), .slice none 0 0, .pointer (some ⟨w.heap.size + 1, 0, none⟩), .int .i64 (x.1 : Int), undef, .agg #[.int .u64 a0, .int .u64 a1, .int .u64 a2, .int .u64 a3], .func (.func 103) #[] #[.pointer (some ⟨w.heap.size + 1 + 1, 0, none⟩)], .int .i64 (x.1 : Int), undef, undef, undef, undef, undef, undef, undef, undef, undef, undef, undef, undef, undef, undef, undef, undef, undef, undef, undef, undef, undef, undef, undef, undef, undef, undef, undef], defers := [] }) ?assign ?body ?done ?stop
  case assign =>
    intro l x W K hK
    gi_wp2
    exact hK
  case body =>
    rintro l pre ⟨b, hb⟩ W ⟨⟨⟨v, hv, hrow, _⟩, hsz⟩, hB⟩ hlt
    have hc := hv.cell
    have hf := hv.frozen
    have hpl := rl_len pre
    have hsn := rl_snoc pre ⟨b, hb⟩
    have HS := Lib.hid hsn
    clear hsn
    rcases List.eq_nil_or_concat (rl pre) with hl | ⟨l', r, hl⟩
    · rw [hl] at hrow
      have HL := Lib.hid hl
      clear hl
      have hrow0 : W.ownsRow (w.heap.size + 1 + 1 + 1) 97 2 v 0 [] := hrow
      clear hrow
      have hrow := hrow0
      clear hrow0
      rcases own_forms hrow with ⟨rfl, _⟩ | ⟨g, cap, rfl⟩
      · gi_wp2_with (gi_at_builtin; refine wpListIn_append_own _ rfl _ _ 93 rfl (w.heap.size + 1 + 1 + 1) 97 i0 (.agg #[.int .i64 0, .int .i64 0]) 2 16 Tryz.underlying93 hi hz0 hz1 hz2 rfl (by decide) _ _ _ rfl (hrow.alloc _) ⟨W.heap.size, 0, none⟩ 1 1 [.int .i64 (b : Int), .int .i64 (b : Int)] rfl rfl (cell_two_new _ _ _ _) (by simp [Value.oneCell']) (by unfold maxLen; omega) (by omega) (by simp; omega) ?_; intro v' w1 hown' hgrow _; obtain ⟨g', cap', rfl⟩ := ownsRow_succ hown'; obtain ⟨hv1, hv2, hr2, hk2, hx2, hb2⟩ := collected (n₀ := w.heap.size) (bx := w.heap.size + 1 + 1) hv (by decide) hrow (by omega) (by omega) (by omega) hsz (by omega) (by omega) hown' hgrow; have hc1 := hv1.cell; have hf1 := hv1.frozen)
        refine ⟨hk2.from _, hx2, ⟨⟨_, hv2, ?_⟩, Nat.le_trans hsz hk2.size⟩, hB.trans hb2⟩
        rw [HS.out, HL.out]
        exact hr2
      · gi_wp2_with (gi_at_builtin; refine wpListIn_append_own _ rfl _ _ 93 rfl (w.heap.size + 1 + 1 + 1) 97 i0 (.agg #[.int .i64 0, .int .i64 0]) 2 16 Tryz.underlying93 hi hz0 hz1 hz2 rfl (by decide) _ _ _ rfl (hrow.alloc _) ⟨W.heap.size, 0, none⟩ 1 1 [.int .i64 (b : Int), .int .i64 (b : Int)] rfl rfl (cell_two_new _ _ _ _) (by simp [Value.oneCell']) (by unfold maxLen; omega) (by omega) (by simp; omega) ?_; intro v' w1 hown' hgrow _; obtain ⟨g', cap', rfl⟩ := ownsRow_succ hown'; obtain ⟨hv1, hv2, hr2, hk2, hx2, hb2⟩ := collected (n₀ := w.heap.size) (bx := w.heap.size + 1 + 1) hv (by decide) hrow (by omega) (by omega) (by omega) hsz (by omega) (by omega) hown' hgrow; have hc1 := hv1.cell; have hf1 := hv1.frozen)
        refine ⟨hk2.from _, hx2, ⟨⟨_, hv2, ?_⟩, Nat.le_trans hsz hk2.size⟩, hB.trans hb2⟩
        rw [HS.out, HL.out]
        exact hr2
    · obtain ⟨lo, hi'⟩ := r
      rw [List.concat_eq_append] at hl
      have hlen : (rl pre).length = l'.length + 1 := by rw [hl]; simp
      rw [hlen] at hrow hpl
      rw [hl] at hrow
      have HL := Lib.hid hl
      clear hl hlen
      obtain ⟨g, cap, rfl⟩ := ownsRow_succ hrow
      have hlast := own_cell hrow (rcells_last l' (lo, hi'))
      have hfz := own_frozen hrow (l'.length * 2 + 1)
      obtain ⟨hg1, hg2, hg3⟩ := own_base hrow
      have HC := Lib.hid (rcells_set l' (lo, hi') b)
      by_cases hcmp : hi' + 1 = b
      · have he := ext_yes l' (lo, hi') b hcmp
        have HE := Lib.hid he
        clear he
        subst hcmp
        gi_wp2
        refine ⟨(KeepsOthers.setCell _ _ _).from _, ?_, ⟨⟨.slice (some ⟨g, 0, none⟩) (l'.length + 1) cap, ?_, ?_⟩, ?_⟩, ?_⟩
        · exact ⟨Below.heap_setCell _ _ _ _ (by simp; omega), fun h => h.heap (Below.heap_setCell _ _ _ _ (by simp; omega))⟩
        · exact (Below.heap_setCell W ⟨g, l'.length * 2 + 1, none⟩ _ (w.heap.size + 1) (by simp; omega)).trans hv
        · rw [HS.out, HL.out, HE.out]
          have h := own_set hrow (l'.length * 2 + 1) (.int .i64 ((hi' + 1 : Nat) : Int))
          rw [HC.out] at h
          simpa using h
        · simpa using hsz
        · exact hB.setCell (p := ⟨g, l'.length * 2 + 1, none⟩) (by simp; omega) _
      · have he := ext_no l' (lo, hi') b hcmp
        have HE := Lib.hid he
        clear he
        have hb1 : ((hi' : Int) == (b : Int) - 1) = false := by simp; omega
        clear hcmp
        gi_wp2_with (gi_at_builtin; refine wpListIn_append_own _ rfl _ _ 93 rfl (w.heap.size + 1 + 1 + 1) 97 i0 (.agg #[.int .i64 0, .int .i64 0]) 2 16 Tryz.underlying93 hi hz0 hz1 hz2 rfl (by decide) _ _ _ rfl (hrow.alloc _) ⟨W.heap.size, 0, none⟩ 1 1 [.int .i64 (b : Int), .int .i64 (b : Int)] rfl rfl (cell_two_new _ _ _ _) (by simp [Value.oneCell']) (by unfold maxLen; omega) (by omega) (by simp; omega) ?_; intro v' w1 hown' hgrow _; obtain ⟨g', cap', rfl⟩ := ownsRow_succ hown'; obtain ⟨hv1, hv2, hr2, hk2, hx2, hb2⟩ := collected (n₀ := w.heap.size) (bx := w.heap.size + 1 + 1) hv (by decide) hrow (by omega) (by omega) (by omega) hsz (by omega) (by omega) hown' hgrow; have hc1 := hv1.cell; have hf1 := hv1.frozen)
        refine ⟨hk2.from _, hx2, ⟨⟨_, hv2, ?_⟩, Nat.le_trans hsz hk2.size⟩, hB.trans hb2⟩
        rw [HS.out, HL.out, HE.out, rcells_snoc]
        simpa using hr2
  case done =>
    rintro D ys W hD rfl ⟨⟨⟨v, hv, hrow, _⟩, hsz⟩, hB⟩ hK
    have hc := hv.cell
    have hl := rl_els f 256 (Nat.le_refl _)
    rw [hl, ← HR.out] at hrow
    gi_wp2
    refine ⟨by simp, .inl ⟨_, _, rfl, run_takeDeferred hK, ?_⟩⟩
    exact ⟨_, results_tmp rfl _ _ _, v, rfl, own_mono (ownsRow_putObj hrow _ hK rfl) (by omega), hB.trans (belowK_b (w := w) (Nat.le_refl _) W D _ _ (by simp at hD; omega) hK rfl rfl)⟩
  case stop =>
    rintro D c pre W _ _ h _
    exact h.elim

theorem ranges_any (a0 a1 a2 a3 : Int) (f : Nat → Bool) (w : World) (ha : IsSet a0 a1 a2 a3 f) (hT : TabD w) :
    Calls Tryz.prog 96 #[.agg #[.int .u64 a0, .int .u64 a1, .int .u64 a2, .int .u64 a3]] w (RetRanges (rgs f 256) w) :=
  (callsIn_wide (n := 3)).1 (ranges_in 3 (by omega) a0 a1 a2 a3 f ha w hT)

end Go.Proofs.YtclnadjgbpihcaaGreatDoor

