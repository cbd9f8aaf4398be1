/- The numbers of a span or of bytes are read by the program as the words say; for every text of at most 50000 bytes. -/
import Derived.Test.YtlaglkbcladfbaaDoorRLit
namespace Go.Proofs.YtlaglkbcladfbaaDoor
open Go.RowKit
set_option linter.unusedVariables false
set_option linter.unusedSimpArgs false

/-- The call reads what is asked for, by the words. -/
def Reads (R : Nat) (s : ByteArray) (d : Nat) (k : Ask) (p : Nat) (w : World) (e : Ending) (w' : World) : Prop := ∃ r : Got Tree, Ans (rd s) k d p r ∧ GivesTree R s d r w e w'

theorem numAt_lt {b lim : Int} {s : ByteArray} {p q : Nat} {v : Int} (hb : isDg b (-1) = false) (hp : p ≤ s.size) (h : numAt b lim (rd s) p = .ok v q) : p < q ∧ q ≤ s.size := by
  obtain ⟨hr, hq⟩ := run_at (P := isDg b) hb hp
  have hle := hr.le
  unfold numAt at h
  split at h
  · cases h
  · split at h
    · cases h
    · cases h; omega

theorem grown_own {a b c : World} {R g : Nat} (h : a.grownBy b (some R)) (k : b.grownBy c (some g)) (hg : a.heap.size ≤ g) : a.grownBy c (some R) :=
  ⟨k.os.trans h.os, k.tape.trans h.tape, k.output.trans h.output, Nat.le_trans h.size k.size, fun i hi hne => (k.block i (Nat.lt_of_lt_of_le hi h.size) (fun e => by have := Option.some.inj e; omega)).trans (h.block i hi hne)⟩

theorem res_kept {W W' : World} {g h : Nat} (hr : Res0 W g) (hk : W.grownBy W' (some h)) (hne : g ≠ h) : Res0 W' g := hr.kept (hk.block g hr.lt (fun e => hne (Option.some.inj e)))
theorem res_alloc {W : World} {g : Nat} (hr : Res0 W g) (o : Obj) : Res0 (W.alloc o) g := hr.kept (Below.heap_alloc W o g hr.lt)

theorem owns_alloc (w : World) (base : Nat) (h : base ≤ w.heap.size) (v : Int) : (w.alloc (.cells #[.int .i64 v] 3)).ownsRow base 3 1 (.slice (some ⟨w.heap.size, 0, none⟩) 1 1) 1 (icells [v]) :=
  row_of_block h (heap_alloc_new w _) (by unfold maxLen; omega) rfl

/-- What an append makes of a row of numbers. -/
theorem nums_push {W w' : World} {base : Nat} {v' : Value} {l : List Int} {u : Int} (h : w'.ownsRow base 3 1 v' (l.length + 1) (icells l ++ [.int .i64 u])) : w'.ownsRow base 3 1 v' (l ++ [u]).length (icells (l ++ [u])) := by
  rw [List.length_append, icells, List.map_append]
  exact h

theorem own_kept {w w' : World} {base size n R : Nat} {e : TypeId} {v : Value} {xs : List Value} (h : w.ownsRow base e size v n xs) (hg : w.grownBy w' (some R)) (hR : R < base) : w'.ownsRow base e size v n xs := by
  refine h.kept hg ?_
  rcases row_forms h with ⟨rfl, _⟩ | ⟨g, cap, rfl⟩
  · exact .inl rfl
  · refine .inr (fun e => ?_)
    have := Option.some.inj e
    have := (row_base h).1
    simp at *
    omega

/-- Within the loop. -/
def InDots (b : Int) (R : Nat) (s : ByteArray) (p d : Nat) (w wr : World) (v : Value) (q : Nat) : Prop :=
  ∃ l : List Int, wr.ownsRow (w.heap.size + 1) 3 1 v l.length (icells l) ∧ 0 < l.length ∧ l.length ≤ q ∧ q ≤ s.size ∧ At wr R s q d ∧ w.grownBy wr (some R) ∧ Res0 wr w.heap.size ∧ ∀ r, Ans (rd s) (.dots b l) d q r → Ans (rd s) (.nums b) d p r

set_option maxRecDepth 100000 in
set_option maxHeartbeats 4000000 in
theorem numbers_any {R p d : Nat} {s : ByteArray} {w : World} (b : Int) (hb : b = 2 ∨ b = 10 ∨ b = 16) (h : At w R s p d) (hs : s.size ≤ 50000) (hp : p ≤ s.size) :
    Calls Tryd.prog 164 #[.pointer (some ⟨R, 0, none⟩), .int .i64 b] w (Reads R s d (.nums b) p w) := by
  obtain ⟨i0, hi0, hi1⟩ := Option.map_eq_some_iff.1 infoInt
  obtain ⟨hz0, hz1, hz2⟩ : i0.zero = some (.int .i64 0) ∧ i0.size = 1 ∧ i0.bytes = 8 := by simpa using hi1
  clear hi1
  have hR := h.lt
  have hA0 := h.alloc (.cells #[.int .i64 0, .string ⟨#[]⟩, .slice none 0 0, .int .i64 0, .int .i64 0, .slice none 0 0] 43)
  have hG0 := World.grownBy_alloc w (.cells #[.int .i64 0, .string ⟨#[]⟩, .slice none 0 0, .int .i64 0, .int .i64 0, .slice none 0 0] 43) (some R)
  have HR := Lib.hid (res_new w)
  have HA := Lib.hid hA0
  have HG := Lib.hid hG0
  have hdg : isDg b (-1) = false := by rcases hb with rfl | rfl | rfl <;> decide
  have HDG := Lib.hid hdg
  have HBB := Lib.hid hb
  clear h hA0 hG0 hb hdg
  cases hn : numAt b 1114111 (rd s) p with
  | err c =>
    have HE := Lib.hid hn
    clear hn
    go_enter Tryd.func164, Tryd.ntmps164
    go_wp2_with fail
    refine (number_any b 1114111 HBB.out (by omega) (by omega) HA.out hs hp).mono ?_
    rw [HE.out]
    rintro e w1 ⟨rfl, hg⟩
    have HG1 := Lib.hid (HG.out.trans hg)
    clear hg
    go_wp2_with fail
    exact ⟨rfl, _, .numsErr HE.out, rfl, HG1.out⟩
  | ok v q =>
    have HE := Lib.hid hn
    obtain ⟨hpq, hqs⟩ := numAt_lt HDG.out hp hn
    clear hn
    go_enter Tryd.func164, Tryd.ntmps164
    go_wp2_with fail
    refine (number_any b 1114111 HBB.out (by omega) (by omega) HA.out hs hp).mono ?_
    rw [HE.out]
    rintro e w1 ⟨_, rfl, ha, hg⟩
    have hz1' : w.heap.size + 1 ≤ w1.heap.size := by have := hg.size; simp at this; omega
    have HR1 := Lib.hid (res_alloc (res_kept HR.out hg (by omega)) (.cells #[.int .i64 v] 3))
    have HA1 := Lib.hid (ha.alloc (.cells #[.int .i64 v] 3))
    have HG1 := Lib.hid (grown_alloc (HG.out.trans hg) (.cells #[.int .i64 v] 3))
    have HROW := Lib.hid (owns_alloc w1 (w.heap.size + 1) hz1' v)
    clear ha hg HR HA HG
    by_cases h45 : rd s q = 45
    · have H45 := Lib.hid h45
      have hlt := rd_lt (by omega) h45
      clear h45
      go_wp2_with fail
      refine (taken_yes HA1.out hs 45 (by omega) H45.out).mono ?_
      rintro e w2 ⟨rfl, ha, hg⟩
      have HR2 := Lib.hid (res_kept HR1.out hg (by omega))
      have HA2 := Lib.hid ha
      have HG2 := Lib.hid (HG1.out.trans hg)
      have HROW2 := Lib.hid (own_kept HROW.out hg (by omega))
      clear ha hg HR1 HA1 HG1 HROW
      cases hn2 : numAt b 1114111 (rd s) (q + 1) with
      | err c =>
        have HE2 := Lib.hid hn2
        clear hn2
        go_wp2_with fail
        refine (number_any b 1114111 HBB.out (by omega) (by omega) HA2.out hs (by omega)).mono ?_
        rw [HE2.out]
        rintro e w3 ⟨rfl, hg⟩
        have HG3 := Lib.hid (HG2.out.trans hg)
        clear hg
        go_wp2_with fail
        exact ⟨rfl, _, .spanErr HE.out H45.out HE2.out, rfl, HG3.out⟩
      | ok u q2 =>
        have HE2 := Lib.hid hn2
        obtain ⟨hpq2, hqs2⟩ := numAt_lt HDG.out (by omega) hn2
        clear hn2
        go_wp2_with fail
        refine (number_any b 1114111 HBB.out (by omega) (by omega) HA2.out hs (by omega)).mono ?_
        rw [HE2.out]
        rintro e w3 ⟨_, rfl, ha, hg⟩
        have HR3 := Lib.hid (res_kept HR2.out hg (by omega))
        have HA3 := Lib.hid ha
        have HG3 := Lib.hid (HG2.out.trans hg)
        have HROW3 := Lib.hid (own_kept HROW2.out hg (by omega))
        have hb3 : w.heap.size + 1 ≤ w3.heap.size := by have := HG3.out.size; have := HR3.out.lt; omega
        clear ha hg HR2 HA2 HG2 HROW2
        go_wp2_with (at_builtin; go_loud (refine wpList_append_own_at _ rfl _ _ 40 rfl (w.heap.size + 1) 3 i0 (.int .i64 0) 1 8 Tryd.underlying40 hi0 hz0 hz1 hz2 rfl (by decide) _ _ _ rfl (HROW3.out.alloc _) ⟨w3.heap.size, 0, none⟩ 1 1 [.int .i64 u] rfl rfl (cell_one_new _ _ _) ?c2 ?c3 ?c4 ?c5 ?_))
        case c2 => intro x hx; simp at hx; subst hx; rfl
        case c3 => unfold maxLen; omega
        case c4 => omega
        case c5 => simp; omega
        intro v' w4 hown hgrow0 _ hat
        have hgrow : (w3.alloc (.cells #[.int .i64 u] 3)).grownBy w4 (some w1.heap.size) := hgrow0
        clear hgrow0
        have hg1 : w.heap.size + 1 ≤ w1.heap.size := hz1'
        have HR4 := Lib.hid (res_kept (res_alloc HR3.out _) hgrow (by omega))
        have HA4 := Lib.hid ((HA3.out.alloc _).kept hgrow (fun e => by have := Option.some.inj e; omega))
        have HG4 := Lib.hid (grown_own (grown_alloc HG3.out _) hgrow (by omega))
        have HROW4 := Lib.hid (nums_push (W := w3) (l := [v]) hown)
        obtain ⟨g4, cap4, rfl⟩ := (row_forms hown).resolve_left (fun h => by cases h.2)
        have c0 := row_cell hown (j := 0) rfl
        have c1 := row_cell hown (j := 1) rfl
        obtain ⟨k1, k2, k3, k4⟩ := row_base hown
        clear hown hgrow hat HR3 HA3 HG3 HROW3
        by_cases huv : u < v
        · have hq1 : decide (u < v) = true := decide_eq_true huv
          have HUV := Lib.hid huv
          clear huv
          go_wp2_with fail
          go_quiet (fail)
          go_wp2_with fail
          refine (fail_any _ _).mono ?_
          rintro e w5 ⟨rfl, rfl⟩
          go_wp2_with fail
          exact ⟨rfl, _, .spanLess HE.out H45.out HE2.out (by have := HUV.out; omega), rfl, grown_drew HG4.out _⟩
        · have hq1 : decide (u < v) = false := decide_eq_false huv
          have HUV := Lib.hid huv
          clear huv
          go_wp2_with fail
          go_quiet (fail)
          go_wp2_with (refine store_res rfl _ _ rfl w.heap.size ⟨7, ⟨#[]⟩, .slice (some ⟨g4, 0, none⟩) 2 cap4, 0, 0, .slice none 0 0⟩ rfl rfl HR4.out rfl rfl ?_)
          refine bodyPost_ret_by (run_res rfl _ _ w.heap.size ⟨7, ⟨#[]⟩, .slice (some ⟨g4, 0, none⟩) 2 cap4, 0, 0, .slice none 0 0⟩ rfl HR4.out) rfl ⟨_, .span HE.out H45.out HE2.out (by have := HUV.out; omega), _, ?_, hqs2, rfl, (HA4.out.drew _).set_row (by omega) _, grown_row (grown_drew HG4.out _) (Nat.le_refl _) _⟩
          have h1 := tree_nums (W := w4.drewN nq) (P := fun b => w.heap.size + 1 ≤ b) 7 (row_drawn HROW4.out nq) (fun b hb => hb)
          exact (h1.set_row (fun b hb => by omega) _).weak (fun b hb _ => by omega)
    · have H45 := Lib.hid h45
      clear h45
      go_wp2_with fail
      refine (taken_no HA1.out hs hqs 45 (by omega) H45.out).mono ?_
      rintro e w2 ⟨rfl, ha, hg⟩
      have H0 : Hid (InDots b R s p d w w2 (.slice (some ⟨w1.heap.size, 0, none⟩) 1 1) q) :=
        ⟨[v], own_kept HROW.out hg (by omega), by simp, by simp; omega, hqs, ha, HG1.out.trans hg, res_kept HR1.out hg (by omega), fun r hr => .nums HE.out H45.out hr⟩
      clear ha hg HR1 HA1 HG1 HROW
      go_wp2_with fail
      go_loopw [5] (fun v wr => ∃ q : Nat, Hid (InDots b R s p d w wr v q)) (fun _ wr => s.size - posOf R wr)
      case atStart => exact ⟨q, H0⟩
      case round =>
        obtain ⟨q, HI⟩ := hrel
        obtain ⟨l, hrow, hl0, hlq, hqs, ha, hg, hres, hall⟩ := HI.out
        have HA := Lib.hid ha
        have HG := Lib.hid hg
        have HR := Lib.hid hres
        have HROW := Lib.hid hrow
        have HALL := Lib.hid hall
        have HM := Lib.hid ha.pos
        obtain ⟨g, cap, rfl⟩ := (row_forms hrow).resolve_left (fun h => by omega)
        have hgb := (row_base hrow).1
        have HLL : Hid (l.length = l.length) := rfl
        clear hrow ha hg hres hall
        by_cases h46 : rd s q = 46
        · have H46 := Lib.hid h46
          have hlt := rd_lt (by omega) h46
          clear h46
          go_wp2_with fail
          refine (taken_yes HA.out hs 46 (by omega) H46.out).mono ?_
          rintro e w2 ⟨rfl, ha, hg⟩
          have HR2 := Lib.hid (res_kept HR.out hg (by omega))
          have HA2 := Lib.hid ha
          have HG2 := Lib.hid (HG.out.trans hg)
          have HROW2 := Lib.hid (own_kept HROW.out hg (by omega))
          clear ha hg HR HA HG HROW
          cases hn2 : numAt b 1114111 (rd s) (q + 1) with
          | err c =>
            have HE2 := Lib.hid hn2
            clear hn2
            go_wp2_with fail
            refine (number_any b 1114111 HBB.out (by omega) (by omega) HA2.out hs (by omega)).mono ?_
            rw [HE2.out]
            rintro e w3 ⟨rfl, hg⟩
            have HG3 := Lib.hid (HG2.out.trans hg)
            clear hg
            go_wp2_with fail
            exact ⟨rfl, _, HALL.out _ (.dotsErr H46.out HE2.out), rfl, HG3.out⟩
          | ok u q2 =>
            have HE2 := Lib.hid hn2
            obtain ⟨hpq2, hqs2⟩ := numAt_lt HDG.out (by omega) hn2
            clear hn2
            go_wp2_with fail
            refine (number_any b 1114111 HBB.out (by omega) (by omega) HA2.out hs (by omega)).mono ?_
            rw [HE2.out]
            rintro e w3 ⟨_, rfl, ha, hg⟩
            have HR3 := Lib.hid (res_kept HR2.out hg (by omega))
            have HA3 := Lib.hid ha
            have HG3 := Lib.hid (HG2.out.trans hg)
            have HROW3 := Lib.hid (own_kept HROW2.out hg (by omega))
            have hb3 : w.heap.size + 1 ≤ w3.heap.size := by have := HG3.out.size; have := HR3.out.lt; omega
            clear ha hg HR2 HA2 HG2 HROW2
            go_wp2_with (at_builtin; go_loud (refine wpList_append_own_at _ rfl _ _ 40 rfl (w.heap.size + 1) 3 i0 (.int .i64 0) 1 8 Tryd.underlying40 hi0 hz0 hz1 hz2 rfl (by decide) _ _ _ rfl (HROW3.out.alloc _) ⟨w3.heap.size, 0, none⟩ 1 1 [.int .i64 u] rfl rfl (cell_one_new _ _ _) ?c2 ?c3 ?c4 ?c5 ?_))
            case c2 => intro x hx; simp at hx; subst hx; rfl
            case c3 => unfold maxLen; omega
            case c4 => omega
            case c5 => simp; omega
            intro v' w4 hown hgrow0 _ hat
            have hgrow : (w3.alloc (.cells #[.int .i64 u] 3)).grownBy w4 (some g) := hgrow0
            clear hgrow0
            have HR4 := Lib.hid (res_kept (res_alloc HR3.out _) hgrow (by omega))
            have HA4 := Lib.hid ((HA3.out.alloc _).kept hgrow (fun e => by have := Option.some.inj e; omega))
            have HG4 := Lib.hid (grown_own (grown_alloc HG3.out _) hgrow (by omega))
            have HROW4 := Lib.hid (nums_push (W := w3) hown)
            clear hown hgrow hat HR3 HA3 HG3 HROW3
            go_wp2_with fail
            go_roundw
            case rel => exact ⟨q2, l ++ [u], HROW4.out, by simp, by simp; omega, hqs2, HA4.out, HG4.out, HR4.out, fun r hr => HALL.out r (.dotsOk H46.out HE2.out hr)⟩
            case measure =>
              rw [HM.out, HA4.out.pos]
              omega
        · have H46 := Lib.hid h46
          clear h46
          go_wp2_with fail
          refine (taken_no HA.out hs hqs 46 (by omega) H46.out).mono ?_
          rintro e w2 ⟨rfl, ha, hg⟩
          have HR2 := Lib.hid (res_kept HR.out hg (by omega))
          have HA2 := Lib.hid ha
          have HG2 := Lib.hid (HG.out.trans hg)
          have HROW2 := Lib.hid (own_kept HROW.out hg (by omega))
          clear ha hg HR HA HG HROW
          go_wp2_with (refine store_res rfl _ _ rfl w.heap.size ⟨6, ⟨#[]⟩, .slice (some ⟨g, 0, none⟩) l.length cap, 0, 0, .slice none 0 0⟩ rfl rfl HR2.out rfl rfl ?_)
          refine bodyPost_ret_by (run_res rfl _ _ w.heap.size ⟨6, ⟨#[]⟩, .slice (some ⟨g, 0, none⟩) l.length cap, 0, 0, .slice none 0 0⟩ rfl HR2.out) rfl ⟨_, HALL.out _ (.dotsEnd H46.out), _, ?_, hqs, rfl, HA2.out.set_row (by omega) _, grown_row HG2.out (Nat.le_refl _) _⟩
          have h1 := tree_nums (P := fun b => w.heap.size + 1 ≤ b) 6 HROW2.out (fun b hb => hb)
          exact (h1.set_row (fun b hb => by omega) _).weak (fun b hb _ => by omega)

end Go.Proofs.YtlaglkbcladfbaaDoor
