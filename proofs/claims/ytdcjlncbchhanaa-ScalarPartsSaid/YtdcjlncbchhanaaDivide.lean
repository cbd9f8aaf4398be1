/- What divide and Sequences return: for all ints; memory that was there stays as it was. -/
import Derived.Maps.AppendAt
import Derived.Test.YtdcjlncbchhanaaLast
import Derived.Test.YtdcjlncbchhanaaSeq
namespace Go.Proofs.Ytdcjlncbchhanaa
open Go.RowKit
set_option linter.unusedVariables false

/-- The slice v, of slices of ranges, is the call's own from block 'base' on, and holds these sequences. -/
def SeqsAt (W : World) (base : Nat) (v : Value) (S : List (List (Int × Int))) : Prop :=
  ∃ us : List Value, us.length = S.length ∧ W.ownsRow base 37 1 v S.length us ∧
    ∀ (i : Nat) (s : List (Int × Int)), S[i]? = some s → ∃ g cap, us[i]? = some (.slice (some ⟨g, 0, none⟩) s.length cap) ∧ W.ownsRow base 40 2 (.slice (some ⟨g, 0, none⟩) s.length cap) s.length (pcells s)

theorem SeqsAt.nil (W : World) (base : Nat) : SeqsAt W base (.slice none 0 0) [] := ⟨[], rfl, World.ownsRow_nil _ _ _ _, fun i s h => by simp at h⟩

theorem SeqsAt.mono {W : World} {base base' : Nat} {v : Value} {S : List (List (Int × Int))} (h : SeqsAt W base v S) (hb : base' ≤ base) : SeqsAt W base' v S := by
  obtain ⟨us, hl, hr, hs⟩ := h
  refine ⟨us, hl, row_mono hr hb, fun i s h => ?_⟩
  obtain ⟨g, cap, h1, h2⟩ := hs i s h
  exact ⟨g, cap, h1, row_mono h2 hb⟩

theorem SeqsAt.below {W W' : World} {base : Nat} {v : Value} {S : List (List (Int × Int))} (h : SeqsAt W base v S) (hb : Below W.heap.size W W') : SeqsAt W' base v S := by
  obtain ⟨us, hl, hr, hs⟩ := h
  refine ⟨us, hl, row_below hr hb, fun i s h => ?_⟩
  obtain ⟨g, cap, h1, h2⟩ := hs i s h
  exact ⟨g, cap, h1, row_below h2 hb⟩

theorem SeqsAt.row {W : World} {base : Nat} {v : Value} {S : List (List (Int × Int))} (h : SeqsAt W base v S) : ∃ us, W.ownsRow base 37 1 v S.length us := by
  obtain ⟨us, _, hr, _⟩ := h
  exact ⟨us, hr⟩

/-- A row of ranges is not the row of slices. -/
theorem rows_apart {W : World} {base n m g cap : Nat} {v : Value} {xs ys : List Value} {k : Nat} (hk : v.ownBlock = some k) (hv : W.ownsRow base 37 1 v n xs) (hr : W.ownsRow base 40 2 (.slice (some ⟨g, 0, none⟩) m cap) m ys) : g ≠ k := by
  rintro rfl
  rcases hv.2 with ⟨rfl, _⟩ | ⟨g', cap', cur, rfl, _, hh, _⟩
  · simp [Value.ownBlock] at hk
  · simp [Value.ownBlock] at hk
    subst hk
    rcases hr.2 with ⟨h, _⟩ | ⟨g2, cap2, cur2, h, _, hh2, _⟩
    · cases h
    · obtain rfl : g' = g2 := by simp at h; omega
      rw [hh] at hh2
      simp at hh2

/-- What append makes of them. -/
theorem SeqsAt.appended {W w' : World} {base : Nat} {v v' : Value} {S : List (List (Int × Int))} {s : List (Int × Int)} {u : Value} {tmp : Obj} {us : List Value}
    (hl : us.length = S.length) (hr : W.ownsRow base 37 1 v S.length us)
    (hs : ∀ (i : Nat) (s : List (Int × Int)), S[i]? = some s → ∃ g cap, us[i]? = some (.slice (some ⟨g, 0, none⟩) s.length cap) ∧ W.ownsRow base 40 2 (.slice (some ⟨g, 0, none⟩) s.length cap) s.length (pcells s))
    (hu : ∃ g cap, u = .slice (some ⟨g, 0, none⟩) s.length cap ∧ W.ownsRow base 40 2 u s.length (pcells s))
    (hown : w'.ownsRow base 37 1 v' (S.length + 1) (us ++ [u])) (hg : (W.alloc tmp).grownBy w' v.ownBlock) : SeqsAt w' base v' (S ++ [s]) := by
  refine ⟨us ++ [u], by simp [hl], by simpa using hown, fun i t ht => ?_⟩
  have keep : ∀ (g cap : Nat) (t : List (Int × Int)), W.ownsRow base 40 2 (.slice (some ⟨g, 0, none⟩) t.length cap) t.length (pcells t) → w'.ownsRow base 40 2 (.slice (some ⟨g, 0, none⟩) t.length cap) t.length (pcells t) := by
    intro g cap t h
    refine (h.alloc tmp).kept hg (.inr ?_)
    intro he
    exact rows_apart he.symm hr h rfl
  by_cases hi : i < S.length
  · rw [List.getElem?_append_left hi] at ht
    obtain ⟨g, cap, h1, h2⟩ := hs i t ht
    exact ⟨g, cap, by rw [List.getElem?_append_left (by omega)]; exact h1, keep g cap t h2⟩
  · rw [List.getElem?_append_right (by omega)] at ht
    have hi0 : i - S.length = 0 := by
      have := (List.getElem?_eq_some_iff.1 ht).1
      simp at this; omega
    rw [hi0] at ht
    simp at ht
    subst ht
    obtain ⟨g, cap, rfl, h2⟩ := hu
    refine ⟨g, cap, ?_, keep g cap s h2⟩
    rw [List.getElem?_append_right (by omega), hl, hi0]
    rfl

theorem seqOf_ne {a b : Int} (h : Good a b) : (seqOf (a, b)).length ≠ 0 := by
  unfold seqOf enc
  (repeat' split) <;> simp

theorem infoSlice : (Try.prog.info? 37).map (fun i => (i.zero, i.size, i.bytes)) = some (some (.slice none 0 0), 1, 24) := by kernel_rfl

/-- What divide gives: the sequences of the parts behind those that were there. -/
def GivesParts (base : Nat) (S : List (List (Int × Int))) (lo hi : Int) (w : World) (e : Ending) (w' : World) : Prop :=
  ∃ v' L, e = .returned v' ∧ Parts lo hi L ∧ SeqsAt w' base v' (S ++ L.map seqOf) ∧ Below base w w'

set_option maxRecDepth 100000 in
set_option maxHeartbeats 2000000 in
theorem divide_none (lo hi : Int) (base : Nat) (v : Value) (S : List (List (Int × Int))) (w : World) (h : hi < lo) (hS : SeqsAt w base v S) :
    Calls Try.prog 20 #[v, .int .i64 lo, .int .i64 hi] w (GivesParts base S lo hi w) := by
  have HS := Lib.hid hS
  clear hS
  go_enter Try.func20, Try.ntmps20
  go_wp2_with fail
  go_ret
  exact ⟨v, [], rfl, .none h, by simpa using HS.out, Below.refl _ _⟩

set_option maxRecDepth 100000 in
set_option maxHeartbeats 2000000 in
theorem divide_one (lo hi : Int) (base : Nat) (v : Value) (S : List (List (Int × Int))) (w : World) (h0 : 0 ≤ lo) (h : lo ≤ hi) (h1 : hi ≤ 1114111) (hg : 57343 < lo ∨ hi < 55296) (hm : lop lo hi = hi) (hb : base ≤ w.heap.size)
    (hS : SeqsAt w base v S) (hlen : S.length ≤ 3000000) :
    Calls Try.prog 20 #[v, .int .i64 lo, .int .i64 hi] w (GivesParts base S lo hi w) := by
  have hgood : Good lo hi := ⟨h0, h, h1, by omega, by omega⟩
  obtain ⟨us, hl, hr, hs⟩ := hS
  obtain ⟨i0, hi0, hz0, hz1, hz2⟩ := info_parts infoSlice
  have HM := Lib.hid hm
  have HG := Lib.hid hgood
  have HL := Lib.hid hl
  have HSS := Lib.hid hs
  clear hm hgood hl hs
  have c3 : S.length + 1 ≤ maxLen := by unfold maxLen; omega
  have c4 : (S.length + 1) * 24 ≤ 140737488355328 := by omega
  rcases row_forms hr with ⟨rfl, hv0⟩ | ⟨gv, capv, rfl⟩ <;> rcases hg with hg | hg
  all_goals
    try have HV0 := Lib.hid hv0
    try clear hv0
    go_enter Try.func20, Try.ntmps20
    go_wp2_with fail
    refine (last_any lo hi h0 h h1 _).mono ?_
    rw [HM.out]
    rintro e w' ⟨rfl, rfl⟩
    go_wp2_with fail
    refine (seq_any lo hi HG.out _).mono ?_
    rintro e w1 ⟨u, rfl, hu, hb1⟩
    have hr1 := row_below hr hb1
    have hsz := hb1.size
    have HU := Lib.hid hu
    obtain ⟨g, cap, rfl⟩ := (row_forms hu).resolve_left (fun h => seqOf_ne HG.out h.2)
    have HB := Lib.hid hb1
    generalize hn : (seqOf (lo, hi)).length = n at HU
    have HN := Lib.hid hn
    clear hu hb1 hn
    go_wp2_with (at_builtin; go_loud (refine wpList_append_own _ rfl _ _ 27 rfl base 37 i0 (.slice none 0 0) 1 24 Try.underlying27 hi0 hz0 hz1 hz2 rfl (by decide) _ _ _ rfl (hr1.alloc _) ⟨w1.heap.size, 0, none⟩ 1 1 [.slice (some ⟨g, 0, none⟩) n cap] rfl rfl (cell_one_new _ _ _) ?c2 c3 c4 ?c5 ?_))
    case c2 => intro x hx; simp at hx; subst hx; rfl
    case c5 => simp; omega
    intro v' w2 hown' hgrow _
    go_wp2
    go_ret
    refine ⟨v', [(lo, hi)], rfl, .one h (by omega) (by have := HM.out; omega), ?_, ((HB.out.mono hb).alloc (by omega) _).grown hgrow (by simp; omega) (fun k hk => (hr1.lt k hk).1)⟩
    refine SeqsAt.appended (us := us) HL.out hr1 (fun i s h => ?_) ⟨g, cap, ?_, ?_⟩ hown' hgrow
    · obtain ⟨g', cap', e1, e2⟩ := HSS.out i s h
      exact ⟨g', cap', e1, row_below e2 HB.out⟩
    · rw [HN.out]
    · rw [HN.out]
      exact row_mono HU.out hb

/-- By induction on how many numbers there are: a call of itself serves by the hypothesis. -/
def DivideTo (k : Nat) : Prop := ∀ (lo hi : Int) (base : Nat) (v : Value) (S : List (List (Int × Int))) (w : World), hi - lo + 1 ≤ k → 0 ≤ lo → hi ≤ 1114111 → base ≤ w.heap.size → SeqsAt w base v S → (S.length : Int) + max 0 (hi - lo + 1) ≤ 3000000 →
  Calls Try.prog 20 #[v, .int .i64 lo, .int .i64 hi] w (GivesParts base S lo hi w)

theorem parts_two {base : Nat} {S : List (List (Int × Int))} {L M : List (Int × Int)} {W : World} {v : Value} (h : SeqsAt W base v ((S ++ L.map seqOf) ++ M.map seqOf)) : SeqsAt W base v (S ++ (L ++ M).map seqOf) := by
  simpa using h

set_option maxRecDepth 100000 in
set_option maxHeartbeats 2000000 in
theorem divide_gap (k : Nat) (ih : DivideTo k) (lo hi : Int) (base : Nat) (v : Value) (S : List (List (Int × Int))) (w : World) (hk : hi - lo + 1 ≤ k + 1) (h0 : 0 ≤ lo) (h : lo ≤ hi) (h1 : hi ≤ 1114111) (hg1 : lo ≤ 57343) (hg2 : 55296 ≤ hi) (hb : base ≤ w.heap.size)
    (hS : SeqsAt w base v S) (hlen : (S.length : Int) + (hi - lo + 1) ≤ 3000000) :
    Calls Try.prog 20 #[v, .int .i64 lo, .int .i64 hi] w (GivesParts base S lo hi w) := by
  have HS := Lib.hid hS
  have HI := Lib.hid ih
  clear hS ih
  go_enter Try.func20, Try.ntmps20
  go_wp2_with fail
  refine (HI.out lo 55295 base _ S _ (by omega) h0 (by omega) hb HS.out (by omega)).mono ?_
  rintro e w1 ⟨v1, L, rfl, hL, hS1, hb1⟩
  have HL := Lib.hid hL
  have HS1 := Lib.hid hS1
  have HB1 := Lib.hid hb1
  have hl1 := hL.len h0
  have hs1 := hb1.size
  clear hL hS1 hb1
  go_wp2_with fail
  refine (HI.out 57344 hi base _ _ _ (by omega) (by omega) h1 (by omega) HS1.out (by simp; omega)).mono ?_
  rintro e w2 ⟨v2, M, rfl, hM, hS2, hb2⟩
  have HM := Lib.hid hM
  have HS2 := Lib.hid hS2
  have HB2 := Lib.hid hb2
  clear hM hS2 hb2
  go_wp2_with fail
  go_ret
  exact ⟨v2, L ++ M, rfl, .gap h hg1 hg2 HL.out HM.out, parts_two HS2.out, HB1.out.trans HB2.out⟩

set_option maxRecDepth 100000 in
set_option maxHeartbeats 2000000 in
theorem divide_cut (k : Nat) (ih : DivideTo k) (lo hi m : Int) (base : Nat) (v : Value) (S : List (List (Int × Int))) (w : World) (hk : hi - lo + 1 ≤ k + 1) (h0 : 0 ≤ lo) (h : lo ≤ hi) (h1 : hi ≤ 1114111) (hg : 57343 < lo ∨ hi < 55296) (hm : lop lo hi = m) (hlt : m < hi)
    (hb : base ≤ w.heap.size) (hS : SeqsAt w base v S) (hlen : (S.length : Int) + (hi - lo + 1) ≤ 3000000) :
    Calls Try.prog 20 #[v, .int .i64 lo, .int .i64 hi] w (GivesParts base S lo hi w) := by
  have hm0 : lo ≤ m := by rw [← hm]; exact lop_lo h0 h
  have HS := Lib.hid hS
  have HI := Lib.hid ih
  have HM := Lib.hid hm
  clear hS ih hm
  rcases hg with hg | hg
  all_goals
    go_enter Try.func20, Try.ntmps20
    go_wp2_with fail
    refine (last_any lo hi h0 h h1 _).mono ?_
    rw [HM.out]
    rintro e w' ⟨rfl, rfl⟩
    go_wp2_with fail
    refine (HI.out lo m base _ S _ (by omega) h0 (by omega) hb HS.out (by omega)).mono ?_
    rintro e w1 ⟨v1, L, rfl, hL, hS1, hb1⟩
    have HL := Lib.hid hL
    have HS1 := Lib.hid hS1
    have HB1 := Lib.hid hb1
    have hl1 := hL.len h0
    have hs1 := hb1.size
    clear hL hS1 hb1
    go_wp2_with fail
    refine (HI.out (m + 1) hi base _ _ _ (by omega) (by omega) h1 (by omega) HS1.out (by simp; omega)).mono ?_
    rintro e w2 ⟨v2, M, rfl, hP, hS2, hb2⟩
    have HP := Lib.hid hP
    have HS2 := Lib.hid hS2
    have HB2 := Lib.hid hb2
    clear hP hS2 hb2
    go_wp2_with fail
    go_ret
    refine ⟨v2, L ++ M, rfl, .cut h (by omega) (by rw [HM.out]; exact hlt) (by rw [HM.out]; exact HL.out) (by rw [HM.out]; exact HP.out), parts_two HS2.out, HB1.out.trans HB2.out⟩

theorem divide_to : ∀ k, DivideTo k
  | 0 => fun lo hi base v S w hk _ _ _ hS _ => divide_none lo hi base v S w (by omega) hS
  | k + 1 => by
    intro lo hi base v S w hk h0 h1 hb hS hlen
    by_cases h : hi < lo
    · exact divide_none lo hi base v S w h hS
    by_cases hg : lo ≤ 57343 ∧ 55296 ≤ hi
    · exact divide_gap k (divide_to k) lo hi base v S w (by omega) h0 (by omega) h1 hg.1 hg.2 hb hS (by omega)
    have hle := lop_hi (lo := lo) (hi := hi) (by omega)
    by_cases hm : lop lo hi < hi
    · exact divide_cut k (divide_to k) lo hi _ base v S w (by omega) h0 (by omega) h1 (by omega) rfl hm hb hS (by omega)
    · exact divide_one lo hi base v S w h0 (by omega) h1 (by omega) (by omega) hb hS (by omega)

/-- The call returns sequences of its own: those of the parts of the range, as far as it is one of scalar values. -/
def GivesSeqs (lo hi : Int) (w : World) (e : Ending) (w' : World) : Prop :=
  ∃ v L, e = .returned v ∧ Parts (max lo 0) (min hi 1114111) L ∧ SeqsAt w' w.heap.size v (L.map seqOf) ∧ Below w.heap.size w w'

theorem parts_at {lo hi a b : Int} {L : List (Int × Int)} (ha : max lo 0 = a) (hb : min hi 1114111 = b) (h : Parts a b L) : Parts (max lo 0) (min hi 1114111) L := by rw [ha, hb]; exact h

set_option maxHeartbeats 2000000 in
theorem seqs_any (lo hi : Int) (w : World) : Calls Try.prog 13 #[.int .i64 lo, .int .i64 hi] w (GivesSeqs lo hi w) := by
  have HN := Lib.hid (SeqsAt.nil w w.heap.size)
  have h1 : lo < 0 ∨ 0 ≤ lo := by omega
  have h2 : hi ≤ 1114111 ∨ 1114111 < hi := by omega
  rcases h1 with h1 | h1 <;> rcases h2 with h2 | h2
  all_goals
    go_enter Try.func13, Try.ntmps13
    go_wp2_with fail
  all_goals
    refine (divide_to 1114112 _ _ w.heap.size _ [] _ (by omega) (by omega) (by omega) (Nat.le_refl _) HN.out (by simp; omega)).mono ?_
    rintro e w1 ⟨v, L, rfl, hL, hS, hb⟩
    have HL := Lib.hid hL
    have HS := Lib.hid hS
    clear hL hS
    go_wp2_with fail
    go_ret
    exact ⟨v, L, rfl, parts_at (by omega) (by omega) HL.out, by simpa using HS.out, hb⟩

end Go.Proofs.Ytdcjlncbchhanaa
