/- Concatenations and alternatives are read by the program as the words say, if repetitions are. -/
import Derived.Test.YtlaglkbcladfbaaDoorRRep
namespace Go.Proofs.YtlaglkbcladfbaaDoor
open Go.RowKit
set_option linter.unusedVariables false
set_option linter.unusedSimpArgs false

theorem cells_new {w : World} {g : Nat} {x : XV} (hb : w.heap[g]? = some (.cells x.arr 43 (0, 0))) : ∀ (j : Nat) (u : Value), x.cells[j]? = some u → w.cell? ((⟨g, 0, none⟩ : Addr).add j) = some u := by
  intro j u hj
  have e : (⟨g, 0, none⟩ : Addr).add j = ⟨g, j, none⟩ := by cases j <;> simp [Addr.add]
  rw [e]
  simp only [World.cell?, hb]
  have : x.arr.toList = x.cells := rfl
  rw [← this] at hj
  simpa using hj

/-- Appending one expression to a row of the call's own. -/
theorem push_kids {ops : Array Oper} {rest : List Oper} {o : Oper} {a : Act} {w : World} {Q : Exit → Act → World → Prop} (hgd : o.guard = none) (sx xx : Operand)
    (ho : o.op = .call { callee := .builtin .append, args := #[sx, xx], argTypes := #[41, 41] }) (base : Nat) (v : Value) (l : List Tree) (t : Tree) (x : XV) (g : Nat)
    (hs : a.eval sx = v) (hx : a.eval xx = .slice (some ⟨g, 0, none⟩) 1 1) (hk : KidsAt w base v l) (ht : TreeAt w (fun b => base ≤ b ∧ some b ≠ v.ownBlock) x t)
    (hb : w.heap[g]? = some (.cells x.arr 43 (0, 0))) (hl : l.length ≤ 100000) (hbase : base ≤ w.heap.size)
    (h : ∀ v' w', KidsAt w' base v' (l ++ [t]) → w.grownBy w' v.ownBlock → wpList Tryd.prog ops Q rest (a.put o.dst v') w') : wpList Tryd.prog ops Q (o :: rest) a w := by
  obtain ⟨i0, hi0, hi1⟩ := Option.map_eq_some_iff.1 infoX
  obtain ⟨hz0, hz1, hz2⟩ : i0.zero = some _ ∧ i0.size = 6 ∧ i0.bytes = _ := by simpa using hi1
  obtain ⟨vs, h1, h2, h3⟩ := hk
  have o2 := one_cell_ns ht
  have o5 := one_cell_ks ht
  refine wpList_append_own_at _ hgd sx xx 41 ho base 43 i0 _ 6 88 Tryd.underlying41 hi0 hz0 hz1 hz2 rfl (by decide) v l.length (vs.flatMap XV.cells) hs h2 ⟨g, 0, none⟩ 1 1 x.cells hx rfl (cells_new hb) ?_ (by unfold maxLen; omega) (by omega) hbase ?_
  · intro u hu
    simp [XV.cells] at hu
    rcases hu with rfl | rfl | rfl | rfl | rfl | rfl
    all_goals first | rfl | assumption
  · intro v' w' hown hgrow _ hat
    exact h v' w' (KidsAt.push h1 h2 h3 ht hown hgrow (hat.imp id (fun e => ⟨_, e, Nat.le_refl _⟩))) hgrow

/-- What an append leaves as it was. -/
theorem kids_grown {W w w' : World} {base R : Nat} {v : Value} {l : List Tree} (hk : KidsAt w base v l) (h : W.grownBy w (some R)) (hg : w.grownBy w' v.ownBlock) (hW : W.heap.size ≤ base) : W.grownBy w' (some R) := by
  obtain ⟨vs, _, h2, _⟩ := hk
  rcases row_forms h2 with ⟨rfl, _⟩ | ⟨g, cap, rfl⟩
  · exact h.trans ⟨hg.os, hg.tape, hg.output, hg.size, fun k hk _ => hg.block k hk (by simp [Value.ownBlock])⟩
  · have hb := (row_base h2).1
    exact grown_own h hg (show W.heap.size ≤ g by omega)
theorem kids_at {w w' : World} {base R : Nat} {s : ByteArray} {p d : Nat} {v : Value} {l : List Tree} (hk : KidsAt w base v l) (h : At w R s p d) (hg : w.grownBy w' v.ownBlock) (hR : R < base) : At w' R s p d := by
  obtain ⟨vs, _, h2, _⟩ := hk
  refine h.kept hg (fun e => ?_)
  rcases row_forms h2 with ⟨rfl, _⟩ | ⟨g, cap, rfl⟩
  · simp [Value.ownBlock] at e
  · have hb := (row_base h2).1
    have := Option.some.inj e
    simp at this
    omega
theorem kids_res {w w' : World} {base g : Nat} {v : Value} {l : List Tree} (hk : KidsAt w base v l) (h : Res0 w g) (hg : w.grownBy w' v.ownBlock) (hR : g < base) : Res0 w' g := by
  obtain ⟨vs, _, h2, _⟩ := hk
  refine h.kept (hg.block g h.lt (fun e => ?_))
  rcases row_forms h2 with ⟨rfl, _⟩ | ⟨k, cap, rfl⟩
  · simp [Value.ownBlock] at e
  · have hb := (row_base h2).1
    have := Option.some.inj e
    simp at this
    omega
theorem kids_sep {w w1 : World} {base : Nat} {v : Value} {l : List Tree} {x : XV} {t : Tree} (hk : KidsAt w base v l) (ht : TreeAt w1 (fun b => w.heap.size ≤ b) x t) (hb : base ≤ w.heap.size) : TreeAt w1 (fun b => base ≤ b ∧ some b ≠ v.ownBlock) x t := by
  obtain ⟨vs, _, h2, _⟩ := hk
  refine ht.weak (fun b hP _ => ⟨by omega, fun e => ?_⟩)
  rcases row_forms h2 with ⟨rfl, _⟩ | ⟨k, cap, rfl⟩
  · simp [Value.ownBlock] at e
  · have hb := (row_base h2).2.2.2
    have := Option.some.inj e
    simp at this
    omega

theorem isRp_nx {s : ByteArray} {q : Nat} : isRp (nx (rd s) q) = isRp (rd s q) := by
  by_cases g : q < s.size
  · rw [nx_in g, ← rd_in g]
  · rw [nx_out g, rd_out g]; decide

/-- Within the loop. -/
def InConc (R : Nat) (s : ByteArray) (p d : Nat) (w wr : World) (v : Value) (q : Nat) : Prop :=
  ∃ l : List Tree, KidsAt wr (w.heap.size + 1) v l ∧ 0 < l.length ∧ l.length ≤ q + 1 ∧ p ≤ q ∧ q ≤ s.size ∧ At wr R s q d ∧ w.grownBy wr (some R) ∧ Res0 wr w.heap.size ∧ ∀ r, Ans (rd s) (.concMore l) d q r → Ans (rd s) .conc d p r

set_option maxRecDepth 100000 in
set_option maxHeartbeats 4000000 in
theorem conc_step {k : Nat} (hel : AskTo 128 .rep k) : AskTo 109 .conc k := by
  intro R p d s w h hs hp hd hk
  have hR := h.lt
  have HR := Lib.hid (res_new w)
  have HA := Lib.hid (h.alloc (.cells #[.int .i64 0, .string ⟨#[]⟩, .slice none 0 0, .int .i64 0, .int .i64 0, .slice none 0 0] 43))
  have HG := Lib.hid (World.grownBy_alloc w (.cells #[.int .i64 0, .string ⟨#[]⟩, .slice none 0 0, .int .i64 0, .int .i64 0, .slice none 0 0] 43) (some R))
  have HEL : Hid (AskTo 128 .rep k) := @hel
  clear h hel
  go_enter Tryd.func109, Tryd.ntmps109
  go_wp2_with fail
  refine (HEL.out HA.out hs hp hd (by omega)).mono ?_
  rintro e w1 ⟨r, hans, hgv⟩
  cases r with
  | err c =>
    obtain ⟨rfl, hg⟩ := hgv
    have HANS := Lib.hid hans
    have HG2 := Lib.hid (HG.out.trans hg)
    clear hans hg
    go_wp2_with fail
    exact ⟨rfl, _, .concErr HANS.out, rfl, HG2.out⟩
  | ok t q =>
    obtain ⟨x, ht, hqs, rfl, ha, hg⟩ := hgv
    have hpq := (hans.bound trivial hp t q rfl).1
    obtain ⟨h2, h5⟩ : x.ns.oneCell' = true ∧ x.ks.oneCell' = true := ⟨one_cell_ns ht, one_cell_ks ht⟩
    have H2 := Lib.hid h2
    have H5 := Lib.hid h5
    have hz1 : w.heap.size + 1 ≤ w1.heap.size := by have := hg.size; simp at this; omega
    have ht1 : TreeAt w1 (fun b => w.heap.size + 1 ≤ b) x t := ht.weak (fun b hb _ => by simp at hb; omega)
    have H0 : Hid (InConc R s p d w (w1.alloc (.cells x.arr 43)) (.slice (some ⟨w1.heap.size, 0, none⟩) 1 1) q) :=
      ⟨[t], KidsAt.one ht1 (Nat.le_refl _) hz1 (heap_alloc_new w1 _) (fun b _ hl => heap_alloc_old _ _ hl) (by simp), by simp, by simp, hpq, hqs, ha.alloc _, grown_alloc (HG.out.trans hg) _, res_alloc (res_kept HR.out hg (by omega)) _,
        fun r hr => .concOk hans hr⟩
    clear hans ha hg h2 h5 ht ht1 HR HA HG
    go_wp2_with (refine build_one rfl _ rfl x rfl H2.out H5.out ?_)
    clear H2 H5
    go_loopw [3] (fun v wr => ∃ q : Nat, Hid (InConc R s p d w wr v q)) (fun _ wr => s.size - posOf R wr)
    case atStart => exact ⟨q, H0⟩
    case round =>
      clear H0 hz1 hpq hqs
      obtain ⟨q, HI⟩ := hrel
      obtain ⟨l, hk0, hl0, hlq, hpq, hqs, ha, hg, hres, hall⟩ := HI.out
      have HA := Lib.hid ha
      have HG := Lib.hid hg
      have HRES := Lib.hid hres
      have HK := Lib.hid hk0
      have HALL := Lib.hid hall
      have HM := Lib.hid ha.pos
      have hz : w.heap.size + 1 ≤ wr.heap.size := by have := hres.lt; omega
      clear ha hg hres hk0 hall
      obtain ⟨q1, hq1⟩ : ∃ q1, q1 = skipEnd (rd s) q := ⟨_, rfl⟩
      obtain ⟨hsk0, hle1, hls1⟩ := skip_at hqs
      rw [← hq1] at hsk0 hle1 hls1
      have HSK := Lib.hid hsk0
      have HQ1 := Lib.hid hq1
      clear hsk0 hq1
      go_wp2_with fail
      refine (space_any HA.out hs hqs).mono ?_
      rintro e w2 ⟨q2, hsk, hle, hls, rfl, ha, hg⟩
      obtain rfl : q2 = q1 := hsk.one HSK.out
      have HA2 := Lib.hid ha
      have HG2 := Lib.hid (HG.out.trans hg)
      have HK2 := Lib.hid (HK.out.grown hg (by omega))
      have HRES2 := Lib.hid (res_kept HRES.out hg (by omega))
      have hz2 : w.heap.size + 1 ≤ w2.heap.size := by have := hg.size; omega
      clear hsk ha hg HA HG HK HRES
      by_cases hlt : q < q2
      · have hb1 : decide (q < q2) = true := decide_eq_true hlt
        have hr := nx_range s q2
        cases hrp : isRp (rd s q2)
        · have HRP := Lib.hid (isRp_nx.trans hrp)
          have HEND : Hid (Ans (rd s) .conc d p (.ok (joinT 2 l) q2)) := HALL.out _ (by
            have := Ans.cmoreEnd (f := rd s) (d := d) (p := q) (l := l) (by rw [← HQ1.out, hrp]; simp)
            rwa [← HQ1.out] at this)
          clear hrp
          rw [hb1]
          go_wp2_with fail
          refine (next_any HA2.out hs hls).mono ?_
          rintro e w3 ⟨rfl, n, rfl⟩
          go_wp2_with fail
          refine (starts_any _ hr.1 hr.2 _).mono ?_
          rw [HRP.out]
          rintro e w3 ⟨rfl, rfl⟩
          have HA3 := Lib.hid (HA2.out.drew n)
          have HG3 := Lib.hid (grown_drew HG2.out n)
          have HK3 := Lib.hid (HK2.out.below (W' := w2.drewN n) (below_drawn (Below.refl _ _) n))
          have HRES3 : Hid (Res0 (w2.drewN n) w.heap.size) := HRES2.out
          have hz3 : w.heap.size + 1 ≤ (w2.drewN n).heap.size := hz2
          obtain ⟨w3, hw3⟩ : ∃ x, x = w2.drewN n := ⟨_, rfl⟩
          rw [← hw3] at HA3 HG3 HK3 HRES3 hz3 ⊢
          clear hw3
          go_wp2_with fail
          refine (joined_any 2 HK3.out hz3 (by omega)).mono ?_
          rintro e w4 ⟨x, ht, rfl, hb⟩
          have H2 := Lib.hid (one_cell_ns ht)
          have H5 := Lib.hid (one_cell_ks ht)
          have HR4 := Lib.hid (HRES3.out.kept (hb.block _ HRES3.out.lt))
          have HA4 := Lib.hid (HA3.out.below hb)
          have HG4 := Lib.hid (grown_below HG3.out hb)
          have HT := Lib.hid ht
          clear ht hb
          go_wp2_with (refine store_res rfl _ _ rfl w.heap.size x rfl rfl HR4.out H2.out H5.out ?_)
          refine bodyPost_ret_by (run_res rfl _ _ w.heap.size x rfl HR4.out) rfl ⟨_, HEND.out, x, ?_, hls, rfl, HA4.out.set_row (by omega) _, grown_row HG4.out (Nat.le_refl _) _⟩
          exact (HT.out.set_row (fun b hb => by omega) _).weak (fun b hb _ => by omega)
        · have HRP := Lib.hid (isRp_nx.trans hrp)
          have HC : Hid (q < skipEnd (rd s) q ∧ isRp (rd s (skipEnd (rd s) q)) = true) := by rw [← HQ1.out]; exact ⟨hlt, hrp⟩
          clear hrp
          rw [hb1]
          go_wp2_with fail
          refine (next_any HA2.out hs hls).mono ?_
          rintro e w3 ⟨rfl, n, rfl⟩
          go_wp2_with fail
          refine (starts_any _ hr.1 hr.2 _).mono ?_
          rw [HRP.out]
          rintro e w3 ⟨rfl, rfl⟩
          have HK3 := Lib.hid (HK2.out.below (W' := w2.drewN n) (below_drawn (Below.refl _ _) n))
          go_wp2_with fail
          refine (HEL.out (HA2.out.drew n) hs hls hd (by omega)).mono ?_
          rintro e w4 ⟨r, hans, hgv⟩
          cases r with
          | err c =>
            obtain ⟨rfl, hg⟩ := hgv
            have HANS := Lib.hid hans
            have HG4 := Lib.hid ((grown_drew HG2.out n).trans hg)
            clear hans hg
            go_wp2_with fail
            refine ⟨rfl, _, HALL.out _ (.cmoreErr HC.out ?_), rfl, HG4.out⟩
            rw [← HQ1.out]
            exact HANS.out
          | ok t q3 =>
            obtain ⟨x, ht, hqs3, rfl, ha, hg⟩ := hgv
            have hpq3 := (hans.bound trivial hls t q3 rfl).1
            have h2 := one_cell_ns ht
            have h5 := one_cell_ks ht
            have H2 := Lib.hid h2
            have H5 := Lib.hid h5
            have hz4 : w.heap.size + 1 ≤ w4.heap.size := by have := hg.size; exact Nat.le_trans hz2 this
            have HK4 := Lib.hid ((HK3.out.grown hg (by omega)).below ((Below.refl w4.heap.size w4).alloc (Nat.le_refl _) (.cells x.arr 43)))
            have HT4 := Lib.hid ((kids_sep HK3.out ht hz2).under ((Below.refl w4.heap.size w4).alloc (Nat.le_refl _) (.cells x.arr 43)))
            have HA4 := Lib.hid (ha.alloc (.cells x.arr 43))
            have HG4 := Lib.hid (grown_alloc ((grown_drew HG2.out n).trans hg) (.cells x.arr 43))
            have HR4 := Lib.hid (res_alloc (res_kept (W := w2.drewN n) HRES2.out hg (by omega)) (.cells x.arr 43))
            have HANS := Lib.hid hans
            clear hans ha hg ht HK3 HA2 HG2 HK2 HRES2 h2 h5
            go_wp2_with (first
              | (refine build_one rfl _ rfl x rfl H2.out H5.out ?_)
              | (at_builtin; go_loud (refine push_kids rfl _ _ rfl (w.heap.size + 1) _ l t x w4.heap.size rfl rfl HK4.out HT4.out (heap_alloc_new w4 _) ?c1 ?c2 ?_)))
            case c1 => omega
            case c2 => simp; omega
            intro v' w5 hk5 hgrow
            have HK5 := Lib.hid hk5
            have HA5 := Lib.hid (kids_at HK4.out HA4.out hgrow (by omega))
            have HG5 := Lib.hid (kids_grown HK4.out HG4.out hgrow (by omega))
            have HR5 := Lib.hid (kids_res HK4.out HR4.out hgrow (by omega))
            clear hk5 hgrow HK4 HA4 HG4 HR4 HT4 H2 H5
            go_wp2_with fail
            go_roundw
            case rel => exact ⟨q3, l ++ [t], HK5.out, by simp, by simp; omega, by omega, hqs3, HA5.out, HG5.out, HR5.out, fun r hr => HALL.out r (.cmoreOk HC.out (by rw [← HQ1.out]; exact HANS.out) hr)⟩
            case measure =>
              rw [HM.out, HA5.out.pos]
              omega
      · have hb1 : decide (q < q2) = false := decide_eq_false hlt
        have HEND : Hid (Ans (rd s) .conc d p (.ok (joinT 2 l) q2)) := HALL.out _ (by
          have := Ans.cmoreEnd (f := rd s) (d := d) (p := q) (l := l) (by rw [← HQ1.out]; exact fun h => hlt h.1)
          rwa [← HQ1.out] at this)
        rw [hb1]
        have HA3 := HA2
        have HG3 := HG2
        have HK3 := HK2
        have HRES3 := HRES2
        have hz3 := hz2
        clear HA2 HG2 HK2 HRES2 hz2
        obtain ⟨w3, hw3⟩ : ∃ x, x = w2 := ⟨_, rfl⟩
        subst hw3
        go_wp2_with fail
        refine (joined_any 2 HK3.out hz3 (by omega)).mono ?_
        rintro e w4 ⟨x, ht, rfl, hb⟩
        have H2 := Lib.hid (one_cell_ns ht)
        have H5 := Lib.hid (one_cell_ks ht)
        have HR4 := Lib.hid (HRES3.out.kept (hb.block _ HRES3.out.lt))
        have HA4 := Lib.hid (HA3.out.below hb)
        have HG4 := Lib.hid (grown_below HG3.out hb)
        have HT := Lib.hid ht
        clear ht hb
        go_wp2_with (refine store_res rfl _ _ rfl w.heap.size x rfl rfl HR4.out H2.out H5.out ?_)
        refine bodyPost_ret_by (run_res rfl _ _ w.heap.size x rfl HR4.out) rfl ⟨_, HEND.out, x, ?_, hls, rfl, HA4.out.set_row (by omega) _, grown_row HG4.out (Nat.le_refl _) _⟩
        exact (HT.out.set_row (fun b hb => by omega) _).weak (fun b hb _ => by omega)

end Go.Proofs.YtlaglkbcladfbaaDoor
