/- The rules of a text, all of them, are read by the program as the words say; for every text of at most 50000 bytes. -/
import Derived.Test.YtlaglkbcladfbaaDoorRLines
namespace Go.Proofs.YtlaglkbcladfbaaDoor
open Go.RowKit
set_option linter.unusedVariables false
set_option linter.unusedSimpArgs false

/-- The call returns the rules, or panics. -/
def ReadsAll (R : Nat) (s : ByteArray) (w : World) (e : Ending) (w' : World) : Prop :=
  ∃ r : Got (List Rule), Rules (rd s) [] 0 r ∧ match r with
    | .ok l _ => ∃ v, e = .returned v ∧ LinesAt w' w.heap.size v l ∧ w.grownBy w' (some R)
    | .err c => Fails R c w e w'

/-- Within the loop. -/
def InLines (R : Nat) (s : ByteArray) (w wr : World) (v : Value) (q : Nat) : Prop :=
  ∃ l : List Rule, LinesAt wr w.heap.size v l ∧ l.length ≤ 500 ∧ q ≤ s.size ∧ At wr R s q 0 ∧ w.grownBy wr (some R) ∧ ∀ r, Rules (rd s) l q r → Rules (rd s) [] 0 r

theorem own_slice {W : World} {base : Nat} {v : Value} {l : List Rule} (h : LinesAt W base v l) : (v = .slice none 0 0 ∧ l.length = 0) ∨ ∃ g cap, v = .slice (some ⟨g, 0, none⟩) l.length cap := by
  obtain ⟨vs, _, h2, _⟩ := h
  exact row_forms h2

set_option maxRecDepth 100000 in
set_option maxHeartbeats 8000000 in
theorem lines_any {R : Nat} {s : ByteArray} {w : World} (h : At w R s 0 0) (hs : s.size ≤ 50000) :
    Calls Tryd.prog 41 #[.pointer (some ⟨R, 0, none⟩)] w (ReadsAll R s w) := by
  have hR := h.lt
  have H0 : Hid (InLines R s w w (.slice none 0 0) 0) := ⟨[], LinesAt.nil w _, by simp, by omega, h, grown_refl _ _, fun r hr => hr⟩
  clear h
  go_enter Tryd.func41, Tryd.ntmps41
  go_wp2_with fail
  go_loopw [3] (fun v wr => ∃ q : Nat, Hid (InLines R s w wr v q)) (fun _ wr => s.size - posOf R wr)
  case atStart => exact ⟨0, H0⟩
  case round =>
    clear H0
    obtain ⟨q, HI⟩ := hrel
    obtain ⟨l, hk0, hl, hqs, ha, hg, hall⟩ := HI.out
    have HA := Lib.hid ha
    have HG := Lib.hid hg
    have HK := Lib.hid hk0
    have HALL := Lib.hid hall
    have HM := Lib.hid ha.pos
    obtain ⟨c0, c1, c2, z0, z1, z2⟩ := ha.cells
    have hz : w.heap.size ≤ wr.heap.size := hg.size
    clear ha hg hk0 hall
    by_cases hlt : q < s.size
    · have q1 : decide ((q : Int) < (s.size : Int)) = true := decide_eq_true (by omega)
      have q2 : decide (q < s.size) = true := decide_eq_true hlt
      have hr := nx_range s q
      have hpos : 0 ≤ rd s q := by rw [rd_in hlt]; omega
      cases hal : isAl (rd s q)
      · have HAL := Lib.hid (isAl_nx.trans hal)
        have HAL0 := Lib.hid hal
        obtain ⟨hrun, hq1⟩ := run_at (P := isBl) (by decide) hqs
        have hq1' := hrun.le
        clear hal hrun
        cases hle : lineEnd (rd s) (runEnd isBl (rd s) q) with
        | none =>
          have HLE := Lib.hid hle
          clear hle
          go_wp2_with fail
          go_quiet (fail)
          go_wp2_with fail
          refine (next_any (HA.out.drew _) hs hqs).mono ?_
          rintro e w1 ⟨rfl, n, rfl⟩
          go_wp2_with fail
          refine (letter_any _ _).mono ?_
          rw [HAL.out]
          rintro e w1 ⟨rfl, rfl⟩
          go_wp2_with fail
          refine (empty_no (HA.out.drew (nq + n)) hs hqs rfl HLE.out).mono ?_
          rintro e w2 ⟨rfl, hg⟩
          have HG2 := Lib.hid ((grown_drew HG.out (nq + n)).trans hg)
          clear hg
          go_wp2_with fail
          exact ⟨rfl, _, HALL.out _ (.bad hpos HAL0.out HLE.out), rfl, HG2.out⟩
        | some e0 =>
          have HLE := Lib.hid hle
          have he1 := end_le hq1 hle
          have he2 : q < e0 := by
            by_cases g : q < runEnd isBl (rd s) q
            · omega
            · have h2 : runEnd isBl (rd s) q = q := by omega
              rw [h2] at hle
              exact end_lt hlt hle
          clear hle
          go_wp2_with fail
          go_quiet (fail)
          go_wp2_with fail
          refine (next_any (HA.out.drew _) hs hqs).mono ?_
          rintro e w1 ⟨rfl, n, rfl⟩
          go_wp2_with fail
          refine (letter_any _ _).mono ?_
          rw [HAL.out]
          rintro e w1 ⟨rfl, rfl⟩
          go_wp2_with fail
          refine (empty_yes (HA.out.drew (nq + n)) hs hqs rfl HLE.out).mono ?_
          rintro e w2 ⟨rfl, ha, hg⟩
          have HA2 := Lib.hid ha
          have HG2 := Lib.hid ((grown_drew HG.out (nq + n)).trans hg)
          have HK2 := Lib.hid (((HK.out.below (below_drawn (Below.refl _ _) (nq + n))).grown hg hR))
          clear ha hg
          go_wp2_with fail
          go_roundw
          case rel => exact ⟨e0, l, HK2.out, hl, he1.2, HA2.out, HG2.out, fun r hr => HALL.out r (.empty hpos HAL0.out HLE.out hr)⟩
          case measure =>
            rw [HM.out, HA2.out.pos]
            omega
      · have HAL := Lib.hid (isAl_nx.trans hal)
        have HAL0 := Lib.hid hal
        clear hal
        go_wp2_with fail
        go_quiet (fail)
        go_wp2_with fail
        refine (next_any (HA.out.drew _) hs hqs).mono ?_
        rintro e w1 ⟨rfl, n, rfl⟩
        go_wp2_with fail
        refine (letter_any _ _).mono ?_
        rw [HAL.out]
        rintro e w1 ⟨rfl, rfl⟩
        go_wp2_with fail
        refine (rule_any (HA.out.drew (nq + n)) hs hqs).mono ?_
        rintro e w2 ⟨r, hans, hgv⟩
        cases r with
        | err c =>
          obtain ⟨rfl, hg⟩ := hgv
          have HANS := Lib.hid hans
          have HG2 := Lib.hid ((grown_drew HG.out (nq + n)).trans hg)
          clear hans hg
          go_wp2_with fail
          exact ⟨rfl, _, HALL.out _ (.err HAL0.out HANS.out), rfl, HG2.out⟩
        | ok x q3 =>
          obtain ⟨y, ht, hqs3, rfl, ha, hg⟩ := hgv
          have hb3 := (rule_bound hqs hans).1
          have HANS := Lib.hid hans
          have h2 := one_cell_ns ht.2.2
          have h5 := one_cell_ks ht.2.2
          have H2 := Lib.hid h2
          have H5 := Lib.hid h5
          have hz2 : w.heap.size ≤ w2.heap.size := Nat.le_trans hz hg.size
          have hk1 := HK.out.below (below_drawn (Below.refl wr.heap.size wr) (nq + n))
          have HK2 := Lib.hid ((hk1.grown hg hR).below ((Below.refl w2.heap.size w2).alloc (Nat.le_refl _) (.cells y.arr 45)))
          have HT2 := Lib.hid ((lines_sep hk1 ht hz).kept (W' := w2.alloc (.cells y.arr 45)) (fun b hP hl => ⟨Below.heap_alloc _ _ _ hl, hP⟩) (by simp))
          have HA2 := Lib.hid (ha.alloc (.cells y.arr 45))
          have HG2 := Lib.hid (grown_alloc ((grown_drew HG.out (nq + n)).trans hg) (.cells y.arr 45))
          clear hans ha hg ht h2 h5 hk1
          go_wp2_with (first
            | (refine build_line rfl _ rfl y rfl H2.out H5.out ?_)
            | (at_builtin; go_loud (refine push_lines rfl _ _ rfl w.heap.size _ l x y w2.heap.size rfl rfl HK2.out HT2.out (heap_alloc_new w2 _) ?c1 ?c2 ?_)))
          case c1 => omega
          case c2 => simp; omega
          intro v' w5 hk5 hgrow
          have HK5 := Lib.hid hk5
          have HA5 := Lib.hid (lines_at HK2.out HA2.out hgrow (by omega))
          have HG5 := Lib.hid (lines_grown HK2.out HG2.out hgrow (Nat.le_refl _))
          have hform := own_slice hk5
          have hlen : (l ++ [x]).length = l.length + 1 := by simp
          rw [hlen] at hform
          obtain ⟨g5, cap5, rfl⟩ := hform.resolve_left (fun h => by omega)
          clear hk5 hgrow HK2 HA2 HG2 HT2 H2 H5 hform hlen
          by_cases hmany : 500 ≤ l.length
          · have q3 : decide ((500 : Int) < ((l.length + 1 : Nat) : Int)) = true := decide_eq_true (by omega)
            have q4 : decide (500 < l.length + 1) = true := decide_eq_true (by omega)
            go_wp2_with fail
            refine (fail_any _ _).mono ?_
            rintro e w6 ⟨rfl, rfl⟩
            go_wp2_with fail
            exact ⟨rfl, _, HALL.out _ (.many HAL0.out HANS.out hmany), rfl, HG5.out⟩
          · have q3' : decide ((500 : Int) < ((l.length + 1 : Nat) : Int)) = false := decide_eq_false (by omega)
            have q4 : decide (500 < l.length + 1) = false := decide_eq_false (by omega)
            go_wp2_with fail
            go_roundw
            case rel => exact ⟨q3, l ++ [x], HK5.out, by simp; omega, hqs3, HA5.out, HG5.out, fun r hr => HALL.out r (.rule HAL0.out HANS.out (by omega) hr)⟩
            case measure =>
              rw [HM.out, HA5.out.pos]
              omega
    · obtain ⟨m, hm⟩ : ∃ m, m = s.size := ⟨_, rfl⟩
      have HMM := Lib.hid hm
      obtain rfl : q = m := by omega
      have q1 : decide ((q : Int) < (s.size : Int)) = false := decide_eq_false (by omega)
      have q2 : decide (q < s.size) = false := decide_eq_false hlt
      have HEND := Lib.hid (HALL.out _ (.done (rd_neg.2 hlt)))
      clear hm
      go_wp2_with fail
      go_quiet (fail)
      go_wp2_with fail
      go_ret
      exact ⟨_, HEND.out, _, rfl, HK.out.below (below_drawn (Below.refl _ _) _), grown_drew HG.out _⟩

end Go.Proofs.YtlaglkbcladfbaaDoor
