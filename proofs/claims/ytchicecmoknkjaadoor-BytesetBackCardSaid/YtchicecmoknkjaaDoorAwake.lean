/- What the document's answer for Ranges returns; two lists of ranges compared; what any right program answers. Memory that was there stays as it was. -/
import Derived.Deep.QuietTactic
import Derived.BigQuiet
import Derived.Test.YtchicecmoknkjaaDoorRanges2
namespace Go.Proofs.YtchicecmoknkjaaDoor
open Go.RowKit

theorem own_alloc {W : World} {base size n : Nat} {e : TypeId} {v : Value} {xs : List Value} (h : W.ownsRow base e size v n xs) (o : Obj) : (W.alloc o).ownsRow base e size v n xs := h.alloc o

theorem two_at (W : World) (B : Nat) (hB : B = W.heap.size) (a b : Value) (t : TypeId) : ∀ j u, [a, b][j]? = some u → (W.alloc (.cells #[a, b] t)).cell? ((⟨B, 0, none⟩ : Addr).add j) = some u := by
  rw [hB]; exact cell_two_new W a b t

/-- Behind an append: the box of the set, and what lay below. -/
theorem grown_keeps {W w1 : World} {n₀ base B : Nat} {e : TypeId} {size k : Nat} {v : Value} {xs : List Value} {tmp : Obj} {a0 a1 a2 a3 : Int}
    (hb4 : Box4 W B a0 a1 a2 a3) (hrow : W.ownsRow base e size v k xs) (hB : B < base) (hn : n₀ ≤ base) (hW : n₀ ≤ W.heap.size) (hgrow : (W.alloc tmp).grownBy w1 v.ownBlock) :
    Box4 w1 B a0 a1 a2 a3 ∧ Below n₀ W w1 := by
  have hv : ∀ j, v.ownBlock = some j → base ≤ j := by
    intro j hj
    rcases hrow.2 with ⟨rfl, _⟩ | ⟨g, cap, cur, rfl, hg, _⟩
    · simp [Value.ownBlock] at hj
    · simp [Value.ownBlock] at hj; omega
  refine ⟨?_, ((Below.refl _ _).alloc hW tmp).grown hgrow (by simp; omega) (fun j hj => by have := hv j hj; omega)⟩
  refine (hgrow.block B (by have := hb4.lt; simp; omega) ?_).trans (hb4.alloc tmp)
  intro h
  have := hv B h.symm
  omega

set_option maxRecDepth 100000 in
set_option maxHeartbeats 4000000 in
theorem refranges_any (a0 a1 a2 a3 : Int) (f : Nat → Bool) (w : World) (ha : IsSet a0 a1 a2 a3 f) :
    Calls Tryd.prog 32 #[.agg #[.int .u64 a0, .int .u64 a1, .int .u64 a2, .int .u64 a3]] w (RetRanges (rgs f 256) w) := by
  obtain ⟨R, hR⟩ : ∃ R, R = rgs f 256 := ⟨_, rfl⟩
  rw [← hR]
  have HR := Lib.hid hR
  clear hR
  obtain ⟨i0, hi, hz0, hz1, hz2⟩ := info_parts infoRange
  go_enter Tryd.func32, Tryd.ntmps32
  go_wp2
  go_loopw [3, 4] (fun v b wr => ∃ k : Nat, b = .int .i64 k ∧ k ≤ 256 ∧ wr.ownsRow (w.heap.size + 1) 43 2 v (rgs f k).length (rcells (rgs f k)) ∧ Box4 wr w.heap.size a0 a1 a2 a3 ∧ w.heap.size + 1 ≤ wr.heap.size ∧ Below w.heap.size w wr)
    (fun _ b _ => (256 - intOf b).toNat)
  case atStart => exact ⟨0, rfl, by omega, World.ownsRow_nil _ _ _ _, Box4.new _ _ _ _ _, by simp, by go_grown⟩
  case round =>
    obtain ⟨k, rfl, hk, hrow, hba, hsz, hbel⟩ := hrel
    have hc0 := hba.cell0
    have hc1 := hba.cell1
    have hc2 := hba.cell2
    have hc3 := hba.cell3
    have hl := rgs_len f k
    by_cases ht : k < 256
    · have hfe := hasB_nat f k ht
      have hba1 := hba.alloc (.cells #[.int .u64 a0, .int .u64 a1, .int .u64 a2, .int .u64 a3] 24)
      cases hfk : f k with
      | true =>
        have hs : rgs f (k + 1) = ext (rgs f k) k := by simp [rgs, hfk]
        rw [hfk] at hfe
        have HS := Lib.hid hs
        clear hs hfk
        rcases List.eq_nil_or_concat (rgs f k) with hn | ⟨l', ⟨lo, hi'⟩, hn⟩
        · rw [hn] at hrow
          have HL := Lib.hid hn
          clear hn
          have hrow0 : wr.ownsRow (w.heap.size + 1) 43 2 _ 0 [] := hrow
          clear hrow
          have hrow1 := own_alloc hrow0 (.cells #[.int .u64 a0, .int .u64 a1, .int .u64 a2, .int .u64 a3] 24)
          rcases own_forms hrow0 with ⟨rfl, _⟩ | ⟨g, cap, rfl⟩
          · go_wp2_with (first | (go_at_call 27; refine (refhas_any _ _ _ _ _ _ _ ha).mono ?_; rintro e w' ⟨rfl, rfl⟩) | (at_builtin; refine wpList_append_own _ rfl _ _ 33 rfl (w.heap.size + 1) 43 i0 (.agg #[.int .i64 0, .int .i64 0]) 2 16 Tryd.underlying33 hi hz0 hz1 hz2 rfl (by decide) _ _ _ rfl (hrow1.alloc _) ⟨wr.heap.size + 1, 0, none⟩ 1 1 [.int .i64 (k : Int), .int .i64 (k : Int)] rfl rfl (two_at _ _ (by simp) _ _ _) (by simp [Value.oneCell']) (by unfold maxLen; omega) (by omega) (by simp; omega) ?_; intro v' w1 hown' hgrow _; obtain ⟨g', cap', rfl⟩ := ownsRow_succ hown'; obtain ⟨hb4', hbel'⟩ := grown_keeps (n₀ := w.heap.size) hba1 hrow1 (by omega) (by omega) (by simp; omega) hgrow))
            have hbel2 := (below_alloc hbel (.cells #[.int .u64 a0, .int .u64 a1, .int .u64 a2, .int .u64 a3] 24)).trans hbel'
            have hsz2 := hbel'.size
            simp only [World.size_alloc] at hsz2
            go_roundw
            case rel => exact ⟨k + 1, by go_num, by omega, by (rw [HS.out, HL.out]; exact hown'), hb4', by omega, hbel2⟩
            case measure => simp [intOf]; omega
          · go_wp2_with (first | (go_at_call 27; refine (refhas_any _ _ _ _ _ _ _ ha).mono ?_; rintro e w' ⟨rfl, rfl⟩) | (at_builtin; refine wpList_append_own _ rfl _ _ 33 rfl (w.heap.size + 1) 43 i0 (.agg #[.int .i64 0, .int .i64 0]) 2 16 Tryd.underlying33 hi hz0 hz1 hz2 rfl (by decide) _ _ _ rfl (hrow1.alloc _) ⟨wr.heap.size + 1, 0, none⟩ 1 1 [.int .i64 (k : Int), .int .i64 (k : Int)] rfl rfl (two_at _ _ (by simp) _ _ _) (by simp [Value.oneCell']) (by unfold maxLen; omega) (by omega) (by simp; omega) ?_; intro v' w1 hown' hgrow _; obtain ⟨g', cap', rfl⟩ := ownsRow_succ hown'; obtain ⟨hb4', hbel'⟩ := grown_keeps (n₀ := w.heap.size) hba1 hrow1 (by omega) (by omega) (by simp; omega) hgrow))
            have hbel2 := (below_alloc hbel (.cells #[.int .u64 a0, .int .u64 a1, .int .u64 a2, .int .u64 a3] 24)).trans hbel'
            have hsz2 := hbel'.size
            simp only [World.size_alloc] at hsz2
            go_roundw
            case rel => exact ⟨k + 1, by go_num, by omega, by (rw [HS.out, HL.out]; exact hown'), hb4', by omega, hbel2⟩
            case measure => simp [intOf]; omega
        · rw [List.concat_eq_append] at hn
          have hlen : (rgs f k).length = l'.length + 1 := by rw [hn]; simp
          rw [hlen] at hrow hl
          rw [hn] at hrow
          have HL := Lib.hid hn
          clear hn hlen
          obtain ⟨g, cap, rfl⟩ := ownsRow_succ hrow
          have hrow1 := own_alloc hrow (.cells #[.int .u64 a0, .int .u64 a1, .int .u64 a2, .int .u64 a3] 24)
          have hlast := own_cell hrow1 (rcells_last l' (lo, hi'))
          have hfz := own_frozen hrow1 (l'.length * 2 + 1)
          have hlast0 := own_cell hrow (rcells_last l' (lo, hi'))
          have hfz0 := own_frozen hrow (l'.length * 2 + 1)
          obtain ⟨hg1, hg2, hg3⟩ := own_base hrow
          have HC := Lib.hid (rcells_set l' (lo, hi') k)
          by_cases hcmp : hi' + 1 = k
          · have he := ext_yes l' (lo, hi') k hcmp
            have HE := Lib.hid he
            clear he
            subst hcmp
            rw [show ((hi' + 1 : Nat) : Int) = (hi' : Int) + 1 from by omega] at hfe
            go_wp2_with (go_at_call 27; refine (refhas_any _ _ _ _ _ _ _ ha).mono ?_; rintro e w' ⟨rfl, rfl⟩)
            go_roundw
            case rel =>
              refine ⟨hi' + 1 + 1, by go_num, by omega, ?_, ?_, ?_, ?_⟩
              · rw [HS.out, HL.out, HE.out]
                have h := own_alloc (own_set hrow (l'.length * 2 + 1) (.int .i64 ((hi' + 1 : Nat) : Int))) (.cells #[.int .u64 a0, .int .u64 a1, .int .u64 a2, .int .u64 a3] 24)
                rw [HC.out] at h
                simpa using h
              · exact (hba.keep ⟨g, l'.length * 2 + 1, none⟩ _ (by simp; omega)).alloc _
              · simp; omega
              · exact below_alloc (hbel.setCell (p := ⟨g, l'.length * 2 + 1, none⟩) (by simp; omega) _) _
            case measure => simp [intOf]; omega
          · have he := ext_no l' (lo, hi') k hcmp
            have HE := Lib.hid he
            clear he
            have hb1 : ((hi' : Int) == (k : Int) - 1) = false := by simp; omega
            clear hcmp
            go_wp2_with (first | (go_at_call 27; refine (refhas_any _ _ _ _ _ _ _ ha).mono ?_; rintro e w' ⟨rfl, rfl⟩) | (at_builtin; refine wpList_append_own _ rfl _ _ 33 rfl (w.heap.size + 1) 43 i0 (.agg #[.int .i64 0, .int .i64 0]) 2 16 Tryd.underlying33 hi hz0 hz1 hz2 rfl (by decide) _ _ _ rfl (hrow1.alloc _) ⟨wr.heap.size + 1, 0, none⟩ 1 1 [.int .i64 (k : Int), .int .i64 (k : Int)] rfl rfl (two_at _ _ (by simp) _ _ _) (by simp [Value.oneCell']) (by unfold maxLen; omega) (by omega) (by simp; omega) ?_; intro v' w1 hown' hgrow _; obtain ⟨g', cap', rfl⟩ := ownsRow_succ hown'; obtain ⟨hb4', hbel'⟩ := grown_keeps (n₀ := w.heap.size) hba1 hrow1 (by omega) (by omega) (by simp; omega) hgrow))
            have hbel2 := (below_alloc hbel (.cells #[.int .u64 a0, .int .u64 a1, .int .u64 a2, .int .u64 a3] 24)).trans hbel'
            have hsz2 := hbel'.size
            simp only [World.size_alloc] at hsz2
            go_roundw
            case rel => exact ⟨k + 1, by go_num, by omega, by (rw [HS.out, HL.out, HE.out, rcells_snoc]; simpa using hown'), hb4', by omega, hbel2⟩
            case measure => simp [intOf]; omega
      | false =>
        have hs : rgs f (k + 1) = rgs f k := by simp [rgs, hfk]
        rw [hfk] at hfe
        have HS := Lib.hid hs
        clear hs hfk
        go_wp2_with (go_at_call 27; refine (refhas_any _ _ _ _ _ _ _ ha).mono ?_; rintro e w' ⟨rfl, rfl⟩)
        go_roundw
        case rel => exact ⟨k + 1, by go_num, by omega, by rw [HS.out]; exact own_alloc hrow _, hba1, by simp; omega, below_alloc hbel _⟩
        case measure => simp [intOf]; omega
    · obtain rfl : k = 256 := by omega
      rw [← HR.out] at hrow
      go_wp2
      go_ret
      exact ⟨_, rfl, own_mono hrow (by omega), hbel⟩

theorem own_drewN {W : World} {base size n : Nat} {e : TypeId} {v : Value} {xs : List Value} (h : W.ownsRow base e size v n xs) (m : Nat) : (W.drewN m).ownsRow base e size v n xs := h

/-- The call returns this bool, and leaves what was there. -/
def RetBool (b : Bool) (w : World) (e : Ending) (w' : World) : Prop := e = .returned (.bool b) ∧ Below w.heap.size w w'

set_option maxRecDepth 100000 in
set_option maxHeartbeats 4000000 in
theorem same_some (B1 B2 g1 g2 c1 c2 : Nat) (l : List (Nat × Nat)) (hl : l.length ≤ 256) (w : World) (h1 : w.ownsRow B1 43 2 (.slice (some ⟨g1, 0, none⟩) l.length c1) l.length (rcells l)) (h2 : w.ownsRow B2 43 2 (.slice (some ⟨g2, 0, none⟩) l.length c2) l.length (rcells l)) :
    Calls Tryd.prog 30 #[.slice (some ⟨g1, 0, none⟩) l.length c1, .slice (some ⟨g2, 0, none⟩) l.length c2] w (RetBool true w) := by
  obtain ⟨_, hg12, _⟩ := own_base h1
  obtain ⟨_, hg22, _⟩ := own_base h2
  go_enter Tryd.func30, Tryd.ntmps30
  go_wp2
  go_loopw [5] (fun i wr => ∃ k : Nat, i = .int .i64 k ∧ k ≤ l.length ∧ wr.ownsRow B1 43 2 (.slice (some ⟨g1, 0, none⟩) l.length c1) l.length (rcells l) ∧ wr.ownsRow B2 43 2 (.slice (some ⟨g2, 0, none⟩) l.length c2) l.length (rcells l) ∧ Below w.heap.size w wr)
    (fun i _ => l.length - (intOf i).toNat)
  case atStart => exact ⟨0, rfl, by omega, h1, h2, by go_grown⟩
  case round =>
    obtain ⟨k, rfl, hk, h1, h2, hbel⟩ := hrel
    by_cases ht : k < l.length
    · have e0 := own_cell h1 (rcells_lo l k ht)
      have e1 := own_cell h1 (rcells_hi l k ht)
      have d0 := own_cell h2 (rcells_lo l k ht)
      have d1 := own_cell h2 (rcells_hi l k ht)
      generalize l[k].1 = x at *
      generalize l[k].2 = y at *
      go_wp2
      go_quiet (fail)
      go_wp2
      go_roundw
      case rel => exact ⟨k + 1, by go_num, by omega, own_drewN h1 _, own_drewN h2 _, below_drewN hbel _⟩
      case measure => simp [intOf]; omega
    · obtain rfl : k = l.length := by omega
      go_wp2
      go_ret
      exact ⟨rfl, hbel⟩

set_option maxRecDepth 100000 in
set_option maxHeartbeats 4000000 in
theorem same_none (v1 v2 : Value) (hv1 : v1 = .slice none 0 0 ∨ ∃ g c, v1 = .slice (some ⟨g, 0, none⟩) 0 c) (hv2 : v2 = .slice none 0 0 ∨ ∃ g c, v2 = .slice (some ⟨g, 0, none⟩) 0 c) (w : World) :
    Calls Tryd.prog 30 #[v1, v2] w (RetBool true w) := by
  rcases hv1 with rfl | ⟨g1, c1, rfl⟩ <;> rcases hv2 with rfl | ⟨g2, c2, rfl⟩
  all_goals
    go_enter Tryd.func30, Tryd.ntmps30
    go_wp2
    go_loopw [5] (fun i wr => i = .int .i64 0 ∧ Below w.heap.size w wr) (fun _ _ => 0)
    case atStart => exact ⟨rfl, by go_grown⟩
    case round =>
      obtain ⟨rfl, hbel⟩ := hrel
      go_wp2
      go_ret
      exact ⟨rfl, hbel⟩

theorem same_any (B1 B2 : Nat) (v1 v2 : Value) (l : List (Nat × Nat)) (hl : l.length ≤ 256) (w : World) (h1 : w.ownsRow B1 43 2 v1 l.length (rcells l)) (h2 : w.ownsRow B2 43 2 v2 l.length (rcells l)) :
    Calls Tryd.prog 30 #[v1, v2] w (RetBool true w) := by
  by_cases h0 : l.length = 0
  · refine same_none v1 v2 ?_ ?_ w
    · rcases own_forms h1 with ⟨h, _⟩ | ⟨g, c, h⟩
      · exact .inl h
      · exact .inr ⟨g, c, by rw [h, h0]⟩
    · rcases own_forms h2 with ⟨h, _⟩ | ⟨g, c, h⟩
      · exact .inl h
      · exact .inr ⟨g, c, by rw [h, h0]⟩
  · rcases own_forms h1 with ⟨_, h⟩ | ⟨g1, c1, rfl⟩
    · exact absurd h h0
    · rcases own_forms h2 with ⟨_, h⟩ | ⟨g2, c2, rfl⟩
      · exact absurd h h0
      · exact same_some B1 B2 g1 g2 c1 c2 l hl w h1 h2

end Go.Proofs.YtchicecmoknkjaaDoor
