/- Joined texts; each begins with what it says. -/
import Derived.Test.YtjeplmnjgdpgbaaGreatDoorW2
import Derived.Test.YtjeplmnjgdpgbaaGreatDoorForm
import Derived.Test.YtjeplmnjgdpgbaaGreatDoorReMem
import Derived.StillTailTactics
/-! settled, for whether one derives the empty text: the program's stack. No condition but size. -/
namespace Go.Proofs.YtjeplmnjgdpgbaaGreatDoor
open Go.RowKit Go.Lib
set_option linter.unusedVariables false
set_option linter.unusedSimpArgs false

theorem infoPartN : (Tryz.prog.info? 81).map (fun i => (i.zero, i.size, i.bytes)) = some (some (.agg #[.pointer none, .pointer none, .int .i64 0, .slice none 0 0]), 4, 48) := by kernel_rfl
theorem partN_parts : ∃ i0, Tryz.prog.info? 81 = some i0 ∧ i0.zero = some (.agg #[.pointer none, .pointer none, .int .i64 0, .slice none 0 0]) ∧ i0.size = 4 ∧ i0.bytes = 48 := by
  have h := infoPartN
  cases e : Tryz.prog.info? 81 with
  | none => rw [e] at h; cases h
  | some j =>
    rw [e] at h
    simp at h
    exact ⟨j, rfl, h.1, h.2.1, h.2.2⟩
theorem bool_parts : ∃ i0, Tryz.prog.info? 4 = some i0 ∧ i0.zero = some (.bool false) ∧ i0.size = 1 ∧ i0.bytes = 1 := by
  have h : (Tryz.prog.info? 4).map (fun i => (i.zero, i.size, i.bytes)) = some (some (.bool false), 1, 1) := by kernel_rfl
  cases e : Tryz.prog.info? 4 with
  | none => rw [e] at h; cases h
  | some j =>
    rw [e] at h
    simp at h
    exact ⟨j, rfl, h.1, h.2.1, h.2.2⟩

set_option maxRecDepth 100000 in
set_option maxHeartbeats 8000000 in
theorem settledN_any {P : Nat → Prop} (w : World) (b0 o0 : Nat) (x0 : ReV) (t0 : RT) (hp0 : PlaceR w b0 o0 x0) (ht0 : RAt w P x0 t0) (hsz0 : t0.sz ≤ 8000000000) :
    Calls Tryz.prog 25 #[.pointer (some ⟨b0, o0, none⟩), .func (.func 26) #[] #[], .func (.func 22) #[] #[]] w (GivesBool (nullM t0) w) := by
  obtain ⟨i0, hi0, hz0, hz1, hz2⟩ := partN_parts
  obtain ⟨i1, hi1, hy0, hy1, hy2⟩ := bool_parts
  obtain ⟨D, hD⟩ : ∃ D, D = t0.sz + 1 := ⟨_, rfl⟩
  have hDb : D ≤ 8000000001 := by omega
  have HOK0 : Hid (PA.OkN w P D ⟨b0, o0, none, 1, x0, t0, 0, none, 0⟩) := ⟨hp0, ht0, .inl rfl, by show 1 + t0.sz ≤ D; omega, fun j hj => by have hj : j < 0 := hj; omega⟩
  have HDE := Lib.hid hD
  obtain ⟨R, hR⟩ : ∃ R, R = nullM t0 := ⟨_, rfl⟩
  rw [← hR]
  have HRE := Lib.hid hR
  clear hp0 ht0 hsz0 hD hR
  go_enter Tryz.func25, Tryz.ntmps25
  go_wp2
  go_loopg [7] (2 * D) (fun gk v wr => ∃ (S : List PA) (go cap : Nat), v = .slice (some ⟨go, 0, none⟩) S.length cap ∧ Hid (InvN w P D t0 wr go cap S) ∧ Hid (mu S ≤ gk))
  case atStart =>
    refine ⟨[⟨b0, o0, none, 1, x0, t0, 0, none, 0⟩], _, _, rfl, ⟨?_, ?_, ?_, ?_, ?_, ?_, ?_⟩, ?_⟩
    · exact (Below.refl _ _).alloc (Nat.le_refl _) _
    · exact row_of_block (Nat.le_refl _) (heap_alloc_new w _) (by unfold maxLen; simp) rfl
    · intro e he
      simp at he
      subst he
      exact HOK0.out
    · intro e he
      simp at he
      subst he
      exact World.ownsRow_nil _ _ _ _
    · intro e he
      simp at he
      subst he
      simp [PA.kv, Value.ownBlock]
    · simp
    · exact ⟨rfl, rfl⟩
    · unfold Hid mu remT
      have := HDE.out
      simp
      omega
  case round =>
    obtain ⟨S, go, cap, rfl, HI, HMU⟩ := hrel
    obtain ⟨e, S', rfl⟩ : ∃ e S', S = e :: S' := by
      cases S with
      | nil => exact absurd HI.out.link (by simp [LinkN])
      | cons e S' => exact ⟨e, S', rfl⟩
    obtain ⟨n, hn⟩ : ∃ n, n = S'.length := ⟨_, rfl⟩
    have HOK := Lib.hid (HI.out.ok e (by simp))
    have hdn : e.d = n + 1 := by rw [hn]; exact LinkN.len HI.out.link
    have hlen : (e :: S').length = n + 1 := by rw [hn]; rfl
    have hrow := HI.out.row
    rw [hlen, List.reverse_cons, List.flatMap_append] at hrow
    have hl4 : (S'.reverse.flatMap PA.cells).length = n * 4 := by rw [flat4_len, hn]; simp
    have g0 := row_cell hrow (j := n * 4) (u := .pointer (some ⟨e.b, e.o, none⟩)) (by rw [List.getElem?_append_right (by omega), hl4, Nat.sub_self]; rfl)
    have g1 := row_cell hrow (j := n * 4 + 1) (u := .pointer e.m) (by rw [List.getElem?_append_right (by omega), hl4, show n * 4 + 1 - n * 4 = 1 by omega]; rfl)
    have g2 := row_cell hrow (j := n * 4 + 2) (u := .int .i64 e.d) (by rw [List.getElem?_append_right (by omega), hl4, show n * 4 + 2 - n * 4 = 2 by omega]; rfl)
    have g3 := row_cell hrow (j := n * 4 + 3) (u := .slice e.q e.i e.kc) (by rw [List.getElem?_append_right (by omega), hl4, show n * 4 + 3 - n * 4 = 3 by omega]; rfl)
    obtain ⟨q1, q2, q3, q4⟩ := row_base hrow
    have hfa := HI.out.facts e (by simp)
    have hle := moreN_le HOK.out.more
    have hll := saidN_len HOK.out
    have hrb := rowb_of hfa hll.symm
    have hdep := HOK.out.dep
    have hsz := sz_pos e.t
    have hkb : e.i ≤ 8000000001 := by have := kids_len e.t; omega
    have hdr : Below wr.heap.size wr wr.drew := below_drawn (Below.refl _ _) 1
    have hm := isopen_any wr.drew e.b e.o e.x e.t ((HOK.out.place.under HI.out.below).under hdr) ((HOK.out.tree.under HI.out.below).under hdr) (hrb.under hdr) (by omega) (fun h0 => by
      obtain ⟨u2, h2⟩ : ∃ u2, e.t.kids[e.i - 1]? = some u2 := ⟨_, List.getElem?_eq_getElem (by omega)⟩
      unfold saidN
      rw [List.getElem?_map, List.getElem?_take, if_pos (by omega), List.getD_eq_getElem?_getD, h2]
      rfl)
    obtain ⟨M, hM⟩ : ∃ M, M = moreN e.t e.i := ⟨_, rfl⟩
    rw [← hM] at hm
    have HM := Lib.hid hM
    have HFA := Lib.hid hfa
    have HLL := Lib.hid hll
    have HRB := Lib.hid hrb
    have HROW := Lib.hid hrow
    have HL4 := Lib.hid hl4
    have HN := Lib.hid hn
    have HDR := Lib.hid hdr
    have hn1 : ((n + 1 : Nat) : Int) - 1 = (n : Int) := by omega
    have hnb : n + 1 ≤ 8000000001 := by omega
    have hdb : e.d ≤ 8000000001 := by omega
    clear hdn
    rw [hlen]
    clear hfa hrb hll hrow hl4 hn hM hle hlen hdr
    go_upto_region 3 with fail
    go_cut [30] from 21 to 31 (fun s30 W => s30 = .bool M ∧ W = wr.drew)
    case first =>
      go_region_law (first | (go_simp; go_at_call 26; (with_reducible (refine hm.mono ?_)); rintro _ _ ⟨rfl, rfl⟩) | fail)
      all_goals (go_wp2_with fail; go_meet; exact ⟨rfl, rfl⟩)
    case rest =>
      obtain ⟨rfl, rfl⟩ := hcut
      have hi2 : InvN w P D t0 wr.drew go cap (e :: S') := HI.out.under HDR.out
      cases M with
      | true =>
        obtain ⟨kt, hkt⟩ : ∃ kt, e.t.kids[e.i]? = some kt := ⟨_, List.getElem?_eq_getElem (moreN_lt HM.out.symm)⟩
        obtain ⟨vs, et, hok, hkids⟩ := HOK.out.tree.kids
        have hil : e.i < e.t.kids.length := (List.getElem?_eq_some_iff.1 hkt).1
        have hxn : e.x.n = e.t.kids.length := hkids.num
        obtain ⟨gk2, offk, hxp⟩ := hkids.rowv.some_of (i := e.i) (by omega)
        obtain ⟨y, hy⟩ : ∃ y, vs[e.i]? = some y := ⟨_, List.getElem?_eq_getElem (by rw [hkids.len]; exact hil)⟩
        have hktree := hkids.each e.i y kt hy hkt
        have hkplace : PlaceR w gk2 (offk + e.i * 6) y := by rw [hxp] at hkids; exact hkids.place hy
        have hksz : kt.sz < e.t.sz := kids_sz (List.mem_of_getElem? hkt)
        obtain ⟨mk, hmk⟩ : ∃ mk, mk = markK e.b e.o e.m e.d := ⟨_, rfl⟩
        have hmark : MarkR w mk kt.sz := by
          rw [hmk]
          unfold markK
          split
          · exact .inr ⟨e.b, e.o, e.x, e.t, rfl, HOK.out.place, HOK.out.tree.weak fun _ _ _ => trivial, hksz⟩
          · exact HOK.out.mark.less (by omega)
        have HF : Hid (PA.OkN w P D ⟨gk2, offk + e.i * 6, mk, e.d + 1, y, kt, 0, none, 0⟩) := ⟨hkplace, hktree, hmark, by show e.d + 1 + kt.sz ≤ D; omega, fun j hj => by have hj : j < 0 := hj; omega⟩
        obtain ⟨W, hW⟩ : ∃ W : World, W = wr.drew := ⟨_, rfl⟩
        have k0 : W.cell? ⟨go, n * 4, none⟩ = some (.pointer (some ⟨e.b, e.o, none⟩)) := by rw [hW]; exact g0
        have k1 : W.cell? ⟨go, n * 4 + 1, none⟩ = some (.pointer e.m) := by rw [hW]; exact g1
        have k2 : W.cell? ⟨go, n * 4 + 2, none⟩ = some (.int .i64 e.d) := by rw [hW]; exact g2
        have k3 : W.cell? ⟨go, n * 4 + 3, none⟩ = some (.slice e.q e.i e.kc) := by rw [hW]; exact g3
        rw [← hW] at hi2
        have c1 := nextB_any W go (n * 4) e.b e.o e.d e.i e.kc e.m e.q e.x gk2 offk k0 k1 k2 k3 (HOK.out.place.under hi2.below) hxp (by omega) (by omega)
        rw [← hmk] at c1
        rw [← hW]
        have HI2 := Lib.hid hi2
        have HKT := Lib.hid hkt
        clear hi2 hkt et hok hkids hy hktree hkplace hmark hmk hW k0 k1 k2 k3 g0 g1 g2 g3 hm hxp vs
        go_wp2_with fail
        ((with_reducible refine c1.mono ?_))
        rintro _ w2 ⟨rfl, hb2⟩
        have hi3 : InvN w P D t0 (w2.alloc (.cells #[.pointer (some ⟨gk2, offk + e.i * 6, none⟩), .pointer mk, .int .i64 ((e.d : Int) + 1), .slice none 0 0] 81)) go cap (e :: S') := (HI2.out.under hb2).under ((Below.refl _ _).alloc (Nat.le_refl _) _)
        have hpe := eql_markD HF.out.mark HF.out.place HF.out.tree hi3.below
        have HI3 := Lib.hid hi3
        have hi4 : InvN w P D t0 ((w2.alloc (.cells #[.pointer (some ⟨gk2, offk + e.i * 6, none⟩), .pointer mk, .int .i64 ((e.d : Int) + 1), .slice none 0 0] 81)).alloc (.cells #[.pointer (some ⟨gk2, offk + e.i * 6, none⟩), .pointer mk, .int .i64 ((e.d : Int) + 1), .slice none 0 0] 81)) go cap (e :: S') := hi3.under ((Below.refl _ _).alloc (Nat.le_refl _) _)
        have HI4 := Lib.hid hi4
        have HRW : Hid (((w2.alloc (.cells #[.pointer (some ⟨gk2, offk + e.i * 6, none⟩), .pointer mk, .int .i64 ((e.d : Int) + 1), .slice none 0 0] 81)).alloc (.cells #[.pointer (some ⟨gk2, offk + e.i * 6, none⟩), .pointer mk, .int .i64 ((e.d : Int) + 1), .slice none 0 0] 81)).ownsRow w.heap.size 81 4 (.slice (some ⟨go, 0, none⟩) (n + 1) cap) (n + 1) ((e :: S').reverse.flatMap PA.cells)) := by
          have h := hi4.row
          rw [show (e :: S').length = n + 1 by rw [HN.out]; rfl] at h
          exact h
        have hw2 : w.heap.size ≤ w2.heap.size := by have := (HI2.out.under hb2).below.size; exact this
        clear hb2 c1 hi3 hi4
        go_wp2_with (at_builtin; go_loud (refine wpList_append_own_at _ rfl _ _ 82 rfl w.heap.size 81 i0 _ 4 48 Tryz.underlying82 hi0 hz0 hz1 hz2 rfl (by decide) _ _ _ rfl HRW.out ⟨w2.heap.size + 1, 0, none⟩ 1 1 [.pointer (some ⟨gk2, offk + e.i * 6, none⟩), .pointer mk, .int .i64 ((e.d : Int) + 1), .slice none 0 0] rfl rfl ?c1 ?c2 ?c3 ?c4 ?c5 ?_))
        case c1 =>
          have h := new3 (w2.alloc (.cells #[.pointer (some ⟨gk2, offk + e.i * 6, none⟩), .pointer mk, .int .i64 ((e.d : Int) + 1), .slice none 0 0] 81)) #[.pointer (some ⟨gk2, offk + e.i * 6, none⟩), .pointer mk, .int .i64 ((e.d : Int) + 1), .slice none 0 0] 81 [.pointer (some ⟨gk2, offk + e.i * 6, none⟩), .pointer mk, .int .i64 ((e.d : Int) + 1), .slice none 0 0] rfl
          rw [show (w2.alloc (.cells #[.pointer (some ⟨gk2, offk + e.i * 6, none⟩), .pointer mk, .int .i64 ((e.d : Int) + 1), .slice none 0 0] 81)).heap.size = w2.heap.size + 1 by simp] at h
          exact h
        case c2 => intro x hx; simp at hx; rcases hx with rfl | rfl | rfl | rfl <;> rfl
        case c3 => unfold maxLen; omega
        case c4 => omega
        case c5 => simp; omega
        intro v' w4 hown hgrow _ hat
        obtain ⟨g4, cap4, rfl⟩ := (row_forms hown).resolve_left (fun h => by cases h.2)
        have HOWN := Lib.hid hown
        have HGROW := Lib.hid hgrow
        have HAT := Lib.hid hat
        clear hown hgrow hat
        go_wp2
        go_roundg (mu (⟨gk2, offk + e.i * 6, mk, e.d + 1, y, kt, 0, none, 0⟩ :: e :: S'))
        case measure =>
          have h1 := mu_push (e := e) (f := ⟨gk2, offk + e.i * 6, mk, e.d + 1, y, kt, 0, none, 0⟩) (S := S') HKT.out rfl
          have h2 := HMU.out
          omega
        case rel =>
          refine ⟨⟨gk2, offk + e.i * 6, mk, e.d + 1, y, kt, 0, none, 0⟩ :: e :: S', g4, cap4, by rw [HN.out]; rfl, ?_, Nat.le_refl _⟩
          refine HI4.out.push HF.out rfl rfl rfl rfl HKT.out HM.out.symm ?_ HGROW.out ?_
          · have h := HOWN.out
            rw [← List.append_assoc] at h
            rw [← HN.out, List.reverse_cons, List.flatMap_append, show [e].flatMap PA.cells = e.cells by simp]
            exact h
          · rcases HAT.out with h | h
            · exact .inl (by simpa [Value.ownBlock] using h)
            · right
              simp [Value.ownBlock] at h
              simp
              omega
      | false =>
        have hset := settleN_any wr.drew.drew e.b e.o e.x e.t ((HOK.out.place.under hi2.below).under (below_drawn (Below.refl _ _) 1)) ((HOK.out.tree.under hi2.below).under (below_drawn (Below.refl _ _) 1)) ((HRB.out.under HDR.out).under (below_drawn (Below.refl _ _) 1)) (by omega) HOK.out.more HM.out.symm
        obtain ⟨W, hW⟩ : ∃ W : World, W = wr.drew := ⟨_, rfl⟩
        have k0 : W.cell? ⟨go, n * 4, none⟩ = some (.pointer (some ⟨e.b, e.o, none⟩)) := by rw [hW]; exact g0
        have k3 : W.cell? ⟨go, n * 4 + 3, none⟩ = some (.slice e.q e.i e.kc) := by rw [hW]; exact g3
        rw [← hW] at hi2 hset ⊢
        obtain ⟨N, hNN⟩ : ∃ N, N = nullM e.t := ⟨_, rfl⟩
        rw [← hNN] at hset
        have HNN := Lib.hid hNN
        have hi3 : InvN w P D t0 W.drew go cap (e :: S') := hi2.under (below_drawn (Below.refl _ _) 1)
        have HI3 := Lib.hid hi3
        clear hW g0 g1 g2 g3 hm hi2 hi3 hNN
        go_upto_region 9 with fail
        go_cut [11] from 43 to 53 (fun s11 W2 => s11 = .bool N ∧ W2 = W.drew)
        case first =>
          go_region_law (first | (go_simp; go_at_call 22; (with_reducible (refine hset.mono ?_)); rintro _ _ ⟨rfl, rfl⟩) | fail)
          all_goals (go_wp2_with fail; go_meet; exact ⟨rfl, rfl⟩)
        case rest =>
          obtain ⟨rfl, rfl⟩ := hcut
          obtain ⟨w6, hw6⟩ : ∃ w6 : World, w6 = W.drew := ⟨_, rfl⟩
          rw [← hw6] at HI3 ⊢
          clear hw6 k0 k3 hset
          by_cases hn0 : n = 0
          · subst hn0
            have hlen1 : S'.length + 1 = 0 + 1 := by rw [← HN.out]
            have hlink : e.t = t0 := by
              have h := HI3.out.link
              cases S' with
              | nil => exact h.1
              | cons f S' => simp at hlen1
            have HET := Lib.hid hlink
            clear hlen1 hlink
            go_wp2
            go_ret
            refine ⟨?_, HI3.out.below⟩
            rw [HRE.out, ← HET.out, ← HNN.out]
            rfl
          · obtain ⟨f, S2, rfl⟩ : ∃ f S2, S' = f :: S2 := by
              cases S' with
              | nil => exact absurd HN.out hn0
              | cons f S2 => exact ⟨f, S2, rfl⟩
            obtain ⟨k, hk⟩ : ∃ k, k = S2.length := ⟨_, rfl⟩
            obtain rfl : n = k + 1 := by rw [HN.out, hk]; rfl
            have hnz : (((k + 1 : Nat) : Int) == 0) = false := by simp; omega
            have hk1 : ((k + 1 : Nat) : Int) - 1 = (k : Int) := by omega
            have hrow6 := HI3.out.row
            rw [show (e :: f :: S2).length = k + 1 + 1 by rw [hk]; rfl, List.reverse_cons, List.reverse_cons, List.flatMap_append, List.flatMap_append] at hrow6
            have hl4b : (S2.reverse.flatMap PA.cells).length = k * 4 := by rw [flat4_len, hk]; simp
            have r3 := row_cell hrow6 (j := k * 4 + 3) (u := .slice f.q f.i f.kc) (by rw [List.append_assoc, List.getElem?_append_right (by omega), hl4b, show k * 4 + 3 - k * 4 = 3 by omega]; rfl)
            have rf3 := own_frozenR hrow6 (k * 4 + 3)
            have hff := HI3.out.facts f (by simp)
            have hfok := HI3.out.ok f (by simp)
            have hfi := moreN_le hfok.more
            have hfb : f.i ≤ 8000000001 := by have h1 := kids_len f.t; have h2 := hfok.dep; omega
            have hgo6 : go < w6.heap.size := HI3.out.blocks.1.2
            have hbA : Below w6.heap.size w6 (w6.alloc (.cells #[.bool N] 4)) := (Below.refl _ _).alloc (Nat.le_refl _) _
            have HRF : Hid ((w6.alloc (.cells #[.bool N] 4)).ownsRow w.heap.size 4 1 (.slice f.q f.i f.kc) f.i (bcells (saidN f))) := row_at hff fun g hg => hbA.block g (row_lt hff g hg).2
            have HGO : Hid (∀ w8, (w6.alloc (.cells #[.bool N] 4)).grownBy w8 (Value.slice f.q f.i f.kc).ownBlock → w8.cell? ⟨go, k * 4 + 3, none⟩ = some (.slice f.q f.i f.kc) ∧ w8.frozen? ⟨go, k * 4 + 3, none⟩ = false) := fun w8 hg => by
              have hfar : f.kv.ownBlock ≠ some go := HI3.out.far f (by simp)
              have e1 : w8.heap[go]? = w6.heap[go]? := (hg.block go (Nat.lt_of_lt_of_le hgo6 hbA.size) fun q => hfar q.symm).trans (hbA.block go hgo6)
              refine ⟨(World.cell?_of_block (a := ⟨go, k * 4 + 3, none⟩) e1).trans r3, ?_⟩
              have h2 := rf3
              unfold World.frozen? at h2 ⊢
              simp only [e1]
              exact h2
            have HIA := Lib.hid (HI3.out.under hbA)
            have HKL := Lib.hid hk
            have hw16 : w.heap.size ≤ w6.heap.size := HI3.out.below.size
            clear hrow6 hl4b hff hfok hfi hgo6 hbA hk hn0 rf3
            go_wp2_with (at_builtin; go_loud (refine wpList_append_own_at _ rfl _ _ 57 rfl w.heap.size 4 i1 _ 1 1 Tryz.underlying57 hi1 hy0 hy1 hy2 rfl (by decide) _ _ _ rfl HRF.out ⟨w6.heap.size, 0, none⟩ 1 1 [.bool N] rfl rfl (new3 _ _ _ _ rfl) ?c2 ?c3 ?c4 ?c5 ?_))
            case c2 => intro x hx; simp at hx; subst hx; rfl
            case c3 => unfold maxLen; omega
            case c4 => omega
            case c5 => simp; omega
            intro v' w8 hown hgrow _ hat
            obtain ⟨g8, cp8, rfl⟩ := (row_forms hown).resolve_left (fun h => by cases h.2)
            obtain ⟨z3, zf3⟩ := HGO.out w8 hgrow
            have HOWN := Lib.hid hown
            have HGROW := Lib.hid hgrow
            have HAT := Lib.hid hat
            clear hown hgrow hat
            go_wp2_with fail
            go_roundg (mu (f.told g8 cp8 :: S2))
            case measure =>
              have h1 := mu_pop (e := e) (f := f) (f' := f.told g8 cp8) (S := S2) rfl rfl
              have h2 := HMU.out
              omega
            case rel =>
              refine ⟨f.told g8 cp8 :: S2, go, cap, by rw [HKL.out]; rfl, ?_, Nat.le_refl _⟩
              have hown := HOWN.out
              rw [HNN.out] at hown
              have hp := HIA.out.pop HGROW.out hown (by
                rcases HAT.out with h | h
                · exact .inl (show (Value.slice f.q f.i f.kc).ownBlock = some g8 from h.symm)
                · right
                  simp [Value.ownBlock] at h
                  simp
                  omega)
              rw [← HKL.out] at hp
              exact hp

end Go.Proofs.YtjeplmnjgdpgbaaGreatDoor

/-! The program's Deriv. No condition but the library's table, sizes and depths. -/
namespace Go.Proofs.YtjeplmnjgdpgbaaGreatDoor
open Go.RowKit Go.Lib
set_option linter.unusedVariables false
set_option linter.unusedSimpArgs false

theorem fieldD (k a b c d : Int) (p : Option Addr) (n cap : Nat) (nb : Bool) (w : World) : (Instr.field 50 (.agg #[.int .i64 k, .int .u64 a, .int .u64 b, .int .u64 c, .int .u64 d, .slice p n cap, .bool nb]) 0).run Tryz.prog w = .ok (.agg #[.int .i64 k, .int .u64 a, .int .u64 b, .int .u64 c, .int .u64 d, .slice p n cap]) w := by
  kernel_rfl

set_option maxRecDepth 100000 in
set_option maxHeartbeats 8000000 in
theorem deriv_any {P : Nat → Prop} (w : World) (c : Nat) (hc : c < 256) (x : ReV) (t : RT) (ht : RAt w P x t) (hT : Tab1 w) (hf : FitA c t) (hsz : t.sz ≤ 1000000000) :
    Calls Tryz.prog 9 #[x.val, .int .i64 (c : Int)] w (GivesRe (fun g => P g ∨ w.heap.size ≤ g) (derivM c t) w) := by
  obtain ⟨R, hR⟩ : ∃ R, R = derivM c t := ⟨_, rfl⟩
  have HRE := Lib.hid hR
  obtain ⟨k, a, b, c', d, p, n, cap⟩ := x
  unfold ReV.val
  simp only []
  obtain ⟨B0, hB0⟩ : ∃ B0, B0 = w.heap.size := ⟨_, rfl⟩
  obtain ⟨w3, hw3⟩ : ∃ w3 : World, w3 = ((w.alloc (.cells #[.int .i64 k, .int .u64 a, .int .u64 b, .int .u64 c', .int .u64 d, .slice p n cap] 29)).alloc (.cells #[.int .i64 (c : Int)] 3)).alloc (.cells #[.int .i64 0, .int .u64 0, .int .u64 0, .int .u64 0, .int .u64 0, .slice none 0 0] 29) := ⟨_, rfl⟩
  have hb3 : Below w.heap.size w w3 := by rw [hw3]; exact (((Below.refl _ _).alloc (Nat.le_refl _) _).alloc (by simp) _).alloc (by simp; omega) _
  have h0 : w3.heap[B0]? = some (.cells #[.int .i64 k, .int .u64 a, .int .u64 b, .int .u64 c', .int .u64 d, .slice p n cap] 29 (0, 0)) := by
    rw [hw3, hB0]
    exact (heap_alloc_old _ _ _ (by simp; omega)).trans ((heap_alloc_old _ _ _ (by simp)).trans (heap_alloc_new w _))
  have h1 : w3.heap[B0 + 1]? = some (.cells #[.int .i64 (c : Int)] 3 (0, 0)) := by rw [hw3, hB0]; exact mid_new w _ _ _
  have h2 : w3.heap[B0 + 1 + 1]? = some (.cells #[.int .i64 0, .int .u64 0, .int .u64 0, .int .u64 0, .int .u64 0, .slice none 0 0] 29 (0, 0)) := by rw [hw3, hB0]; exact end_new w _ _ _
  have hs3 : w3.heap.size = B0 + 3 := by rw [hw3, hB0]; simp
  have hp3 : PlaceR w3 B0 0 ⟨k, a, b, c', d, p, n, cap⟩ := ⟨⟨_, _, by decide, h0⟩, fun j u hj => by rw [Nat.zero_add]; simp only [World.cell?, h0]; simpa [ReV.cells] using hj⟩
  have hbx : w3.cell? ⟨B0 + 1, 0, none⟩ = some (.int .i64 (c : Int)) := by simp [World.cell?, h1]
  have con := settledD_any w3 c hc (B0 + 1) hbx B0 0 _ t hp3 ((ht.weak fun g hg hl => (⟨hg, hl⟩ : P g ∧ g < w.heap.size)).under hb3) (hT.stays hb3) hf hsz
  have HB3 := Lib.hid hb3
  have H2 := Lib.hid h2
  have HW3 := Lib.hid hw3
  have HBB := Lib.hid hB0
  have HS3 := Lib.hid hs3
  clear ht hT hf hsz hb3 h0 h1 h2 hw3 hB0 hs3 hp3 hbx hR
  go_enter Tryz.func9, Tryz.ntmps9
  go_wp2_with fail
  rw [← HBB.out, ← HW3.out]
  ((with_reducible refine con.mono ?_))
  rintro _ w5 ⟨y, rfl, hy, hyn, hb5⟩
  obtain ⟨⟨e0, e1, e2, e3, e4, q5, m5, cp5⟩, nb⟩ := y
  have h5 : w5.heap[B0 + 1 + 1]? = some (.cells #[.int .i64 0, .int .u64 0, .int .u64 0, .int .u64 0, .int .u64 0, .slice none 0 0] 29 (0, 0)) := (hb5.block _ (by rw [HS3.out]; omega)).trans H2.out
  obtain ⟨⟨d0, d1, d2, d3, d4, d5⟩, f0, f1, f2, f3, f4, f5⟩ := zero_facts h5
  have H5 := Lib.hid h5
  have HY := Lib.hid hy
  have HB5 := Lib.hid hb5
  clear hy hyn hb5 h5 con
  unfold FV.val
  have hfd := fun w => fieldD e0 e1 e2 e3 e4 q5 m5 cp5 nb w
  go_wp2
  refine bodyPost_ret_by (results_cell_row rfl _ _ (B0 + 1 + 1) 29 #[.int .i64 e0, .int .u64 e1, .int .u64 e2, .int .u64 e3, .int .u64 e4, .slice q5 m5 cp5] (0, 0) _ rfl (set6_heap H5.out _ _ _ _ _ _) Tryz.underlying29 rfl (by kernel_rfl)) rfl ?_
  have h1 := HBB.out
  have h2 := HS3.out
  refine ⟨⟨e0, e1, e2, e3, e4, q5, m5, cp5⟩, rfl, ?_, six_set (HB3.out.trans (HB5.out.mono HB3.out.size)) (by omega) _ _ _ _ _ _⟩
  refine HY.out.kept (Keeps.of (by simp [World.setCell]) fun z hz _ => ?_)
  refine ⟨six_ne (by rcases hz with ⟨_, hz⟩ | hz <;> omega) _ _ _ _ _ _, ?_⟩
  rcases hz with ⟨hz, _⟩ | hz
  · exact .inl hz
  · exact .inr (by omega)

end Go.Proofs.YtjeplmnjgdpgbaaGreatDoor

/-! The program's Nullable and Match. No condition but the library's table, sizes and depths. -/
namespace Go.Proofs.YtjeplmnjgdpgbaaGreatDoor
open Go.RowKit Go.Lib
set_option linter.unusedVariables false
set_option linter.unusedSimpArgs false

set_option maxRecDepth 100000 in
set_option maxHeartbeats 8000000 in
theorem nullable_any {P : Nat → Prop} (w : World) (x : ReV) (t : RT) (ht : RAt w P x t) (hsz : t.sz ≤ 8000000000) :
    Calls Tryz.prog 10 #[x.val] w (GivesBool (nullM t) w) := by
  obtain ⟨k, a, b, c, d, p, n, cap⟩ := x
  unfold ReV.val
  simp only []
  have hb1 : Below w.heap.size w (w.alloc (.cells #[.int .i64 k, .int .u64 a, .int .u64 b, .int .u64 c, .int .u64 d, .slice p n cap] 29)) := (Below.refl _ _).alloc (Nat.le_refl _) _
  have h0 := heap_alloc_new w (.cells #[.int .i64 k, .int .u64 a, .int .u64 b, .int .u64 c, .int .u64 d, .slice p n cap] 29)
  have hp : PlaceR (w.alloc (.cells #[.int .i64 k, .int .u64 a, .int .u64 b, .int .u64 c, .int .u64 d, .slice p n cap] 29)) w.heap.size 0 ⟨k, a, b, c, d, p, n, cap⟩ := ⟨⟨_, _, by decide, h0⟩, fun j u hj => by rw [Nat.zero_add]; simp only [World.cell?, h0]; simpa [ReV.cells] using hj⟩
  have con := settledN_any _ w.heap.size 0 _ t hp (ht.under hb1) hsz
  obtain ⟨R, hR⟩ : ∃ R, R = nullM t := ⟨_, rfl⟩
  rw [← hR] at con ⊢
  have HB1 := Lib.hid hb1
  clear ht hsz hb1 h0 hp hR
  go_enter Tryz.func10, Tryz.ntmps10
  go_wp2_with fail
  ((with_reducible refine con.mono ?_))
  rintro _ w5 ⟨rfl, hb5⟩
  have HB5 : Hid (Below w.heap.size w w5) := HB1.out.trans (hb5.mono HB1.out.size)
  clear hb5 con
  go_wp2
  go_ret
  exact ⟨rfl, HB5.out⟩

/-- What Match asks of each step. -/
def FitM : RT → List Nat → Prop
  | t, [] => t.sz ≤ 8000000000
  | t, c :: l => FitA c t ∧ t.sz ≤ 1000000000 ∧ FitM (derivM c t) l
theorem none_ders {t : RT} (h : t.kind = 0) : ∀ l, nullM (dersM t l) = false := by
  intro l
  induction l generalizing t with
  | nil => exact null_none h
  | cons c l ih =>
    refine ih ?_
    obtain ⟨k, s, kids⟩ := t
    simp only [RT.kind] at h
    subst h
    show (derivM c (.mk 0 s kids)).kind = 0
    rw [deriv_mk]
    rfl

theorem set6_any {W : World} {D : Nat} {cs : List Value} {t : TypeId} (h : W.heap[D]? = some (.cells cs.toArray t (0, 0))) (hl : cs.length = 6) (a b c d e f : Value) :
    ((((((W.setCell ⟨D, 0, none⟩ a).setCell ⟨D, 1, none⟩ b).setCell ⟨D, 2, none⟩ c).setCell ⟨D, 3, none⟩ d).setCell ⟨D, 4, none⟩ e).setCell ⟨D, 5, none⟩ f).heap[D]? = some (.cells #[a, b, c, d, e, f] t (0, 0)) := by
  match cs, hl with
  | [x0, x1, x2, x3, x4, x5], _ => exact set6_heap h a b c d e f
theorem six_facts {W : World} {D : Nat} {x0 x1 x2 x3 x4 x5 : Value} {t : TypeId} (h : W.heap[D]? = some (.cells #[x0, x1, x2, x3, x4, x5] t (0, 0))) :
    (W.cell? ⟨D, 0, none⟩ = some x0 ∧ W.cell? ⟨D, 1, none⟩ = some x1 ∧ W.cell? ⟨D, 2, none⟩ = some x2 ∧ W.cell? ⟨D, 3, none⟩ = some x3 ∧ W.cell? ⟨D, 4, none⟩ = some x4 ∧ W.cell? ⟨D, 5, none⟩ = some x5) ∧
    (W.frozen? ⟨D, 0, none⟩ = false ∧ W.frozen? ⟨D, 1, none⟩ = false ∧ W.frozen? ⟨D, 2, none⟩ = false ∧ W.frozen? ⟨D, 3, none⟩ = false ∧ W.frozen? ⟨D, 4, none⟩ = false ∧ W.frozen? ⟨D, 5, none⟩ = false) :=
  ⟨⟨by simp [World.cell?, h], by simp [World.cell?, h], by simp [World.cell?, h], by simp [World.cell?, h], by simp [World.cell?, h], by simp [World.cell?, h]⟩, frozen_no h 0, frozen_no h 1, frozen_no h 2, frozen_no h 3, frozen_no h 4, frozen_no h 5⟩
def byteL (S : ByteArray) : List Nat := S.data.toList.map UInt8.toNat

set_option maxRecDepth 100000 in
set_option maxHeartbeats 8000000 in
theorem match_any {P : Nat → Prop} (w : World) (x : ReV) (t : RT) (S : ByteArray) (ht : RAt w P x t) (hT : Tab1 w) (hf : FitM t (byteL S)) (hS : S.size ≤ 1000000000) :
    Calls Tryz.prog 8 #[x.val, .string S] w (GivesBool (nullM (dersM t (byteL S))) w) := by
  obtain ⟨R, hR⟩ : ∃ R, R = nullM (dersM t (byteL S)) := ⟨_, rfl⟩
  rw [← hR]
  obtain ⟨k, a, b, c, d, p, n, cap⟩ := x
  unfold ReV.val
  simp only []
  obtain ⟨R0, hR0⟩ : ∃ R0, R0 = w.heap.size := ⟨_, rfl⟩
  obtain ⟨N, hN⟩ : ∃ N, N = S.size := ⟨_, rfl⟩
  have hNb : N ≤ 1000000000 := by omega
  have hN2 := hN.symm
  have hbl : (byteL S).length = N := by unfold byteL; rw [List.length_map, hN]; rfl
  obtain ⟨w1, hw1⟩ : ∃ w1 : World, w1 = w.alloc (.cells #[.int .i64 k, .int .u64 a, .int .u64 b, .int .u64 c, .int .u64 d, .slice p n cap] 29) := ⟨_, rfl⟩
  have hb1 : Below w.heap.size w w1 := by rw [hw1]; exact (Below.refl _ _).alloc (Nat.le_refl _) _
  have h0 : w1.heap[R0]? = some (.cells #[.int .i64 k, .int .u64 a, .int .u64 b, .int .u64 c, .int .u64 d, .slice p n cap] 29 (0, 0)) := by rw [hw1, hR0]; exact heap_alloc_new _ _
  have hs1 : w1.heap.size = R0 + 1 := by rw [hw1, hR0]; simp
  obtain ⟨Q, hQ⟩ : ∃ Q : Nat → Prop, Q = fun g => (P g ∧ g < w.heap.size) ∨ R0 < g := ⟨_, rfl⟩
  have ht1 : RAt w1 Q ⟨k, a, b, c, d, p, n, cap⟩ t := by rw [hQ]; exact ((ht.weak fun g hg hl => (⟨hg, hl⟩ : P g ∧ g < w.heap.size)).under hb1).weak fun g hg hl => .inl hg
  have HT1 := Lib.hid hT
  have HF0 : Hid (FitM t ((byteL S).drop 0)) := hf
  have HRR : Hid (R = nullM (dersM t ((byteL S).drop 0))) := hR
  have HTR := Lib.hid ht1
  have HB1 := Lib.hid hb1
  have H0 := Lib.hid h0
  have HW1 := Lib.hid hw1
  have HR0 := Lib.hid hR0
  have HS1 := Lib.hid hs1
  have HQ := Lib.hid hQ
  have HBL := Lib.hid hbl
  have HNS := Lib.hid hN
  clear ht hT hf hS hR hb1 h0 hw1 hR0 hs1 hQ ht1 hbl hN
  go_enter Tryz.func8, Tryz.ntmps8
  go_wp2
  rw [← HW1.out, ← HR0.out]
  go_loopg [5] N (fun gk v wr => ∃ (i : Nat) (k a b c d : Int) (p : Option Addr) (n cap : Nat) (u : RT), v = .int .i64 (i : Int) ∧ i ≤ N ∧ N - i ≤ gk ∧ Hid (Below w.heap.size w wr) ∧ Hid (wr.heap[R0]? = some (.cells #[.int .i64 k, .int .u64 a, .int .u64 b, .int .u64 c, .int .u64 d, .slice p n cap] 29 (0, 0))) ∧ Hid (RAt wr Q ⟨k, a, b, c, d, p, n, cap⟩ u) ∧ Hid (FitM u ((byteL S).drop i)) ∧ Hid (R = nullM (dersM u ((byteL S).drop i))))
  case atStart => exact ⟨0, k, a, b, c, d, p, n, cap, t, rfl, by omega, by omega, HB1.out, H0.out, HTR.out, HF0.out, HRR.out⟩
  case round =>
    obtain ⟨i, k, a, b, c, d, p, n, cap, u, rfl, hi, hgk, HB, HR6, HU, HFM, HRI⟩ := hrel
    obtain ⟨⟨c0, c1, c2, c3, c4, c5⟩, _⟩ := six_facts HR6.out
    have hkd : u.kind = k := by
      obtain ⟨_, e, _⟩ := HU.out.kids
      rw [e]
      rfl
    have HKD := Lib.hid hkd
    have hRl : R0 < wr.heap.size := (Array.getElem?_eq_some_iff.1 HR6.out).1
    have HRL := Lib.hid hRl
    clear hkd hRl
    by_cases hlt : i < N
    · have hltz : (i : Int) < (N : Int) := by omega
      obtain ⟨cb, hcb⟩ : ∃ cb, S.data.toList[i]? = some cb := ⟨_, List.getElem?_eq_getElem (by have := HNS.out; simp; omega)⟩
      have hSc : ∀ h : i < S.size, S[i]'h = cb := fun h => by
        have h1 := (List.getElem?_eq_some_iff.1 hcb).2
        rw [← h1]
        rfl
      have hdr : (byteL S).drop i = cb.toNat :: (byteL S).drop (i + 1) := by
        have hg : (byteL S)[i]? = some cb.toNat := by unfold byteL; rw [List.getElem?_map, hcb]; rfl
        have hl := (List.getElem?_eq_some_iff.1 hg).1
        rw [List.drop_eq_getElem_cons hl]
        congr 1
        exact (List.getElem?_eq_some_iff.1 hg).2
      have hfm := HFM.out
      have hri := HRI.out
      rw [hdr] at hfm hri
      obtain ⟨f1, f2, f3⟩ := hfm
      have HDR := Lib.hid hdr
      have HRJ := Lib.hid hri
      have HF3 := Lib.hid f3
      by_cases hk : k = 0
      · subst hk
        have cn := nullable_any wr _ u HU.out (by omega)
        have hRu : Hid (R = nullM u) := by
          unfold Hid
          rw [HRJ.out, none_ders HKD.out, null_none HKD.out]
        unfold ReV.val at cn
        simp only [] at cn
        rw [← hRu.out] at cn
        clear hSc hcb hdr hri f1 f2 f3
        go_wp2_with fail
        ((with_reducible refine cn.mono ?_))
        rintro _ w5 ⟨rfl, hb5⟩
        have HB5 : Hid (Below w.heap.size w w5) := HB.out.trans (hb5.mono HB.out.size)
        clear hb5 cn
        go_wp2
        go_ret
        exact ⟨rfl, HB5.out⟩
      · have hkz : (k == 0) = false := by simpa using hk
        have hdr2 : Below wr.heap.size wr wr.drew := below_drawn (Below.refl _ _) 1
        have con := deriv_any wr.drew cb.toNat (UInt8.toNat_lt cb) _ u (HU.out.under hdr2) ((HT1.out.stays HB.out).stays hdr2) f1 f2
        unfold ReV.val at con
        simp only [] at con
        have HDR2 := Lib.hid hdr2
        have hwz : IntKind.i64.wrap (cb.toNat : Int) = (cb.toNat : Int) := by have := UInt8.toNat_lt cb; rw [IntKind.wrap_i64]; omega
        clear hcb hdr hri f1 f2 f3 hdr2 hk
        go_wp2_with fail
        go_region_law (first | (go_simp; go_at_call 9; (with_reducible (refine con.mono ?_)); rintro _ w6 ⟨x6, rfl, hx6, hb6⟩; obtain ⟨e0, e1, e2, e3, e4, q6, m6, cp6⟩ := x6; unfold ReV.val; have h6 := (hb6.block R0 (Nat.lt_of_lt_of_le HRL.out HDR2.out.size)).trans ((HDR2.out.block R0 HRL.out).trans HR6.out); obtain ⟨⟨z0, z1, z2, z3, z4, z5⟩, y0, y1, y2, y3, y4, y5⟩ := six_facts h6; have HX6 := Lib.hid hx6; have HB6 := Lib.hid hb6; have H6 := Lib.hid h6; clear hx6 hb6 h6) | fail)
        all_goals go_wp2
        all_goals
          go_roundg (N - (i + 1))
          case measure => omega
          case rel =>
            have hRw : w.heap.size ≤ R0 := by rw [HR0.out]; exact Nat.le_refl _
            have hall : Below w.heap.size w w6 := HB.out.trans ((HDR2.out.trans (HB6.out.mono HDR2.out.size)).mono HB.out.size)
            refine ⟨i + 1, e0, e1, e2, e3, e4, q6, m6, cp6, derivM cb.toNat u, by go_num, by omega, Nat.le_refl _, ?_, ?_, ?_, HF3.out, HRJ.out⟩
            · first | exact six_set hall hRw _ _ _ _ _ _ | exact below_drawn (six_set hall hRw _ _ _ _ _ _) 1
            · exact set6_heap H6.out _ _ _ _ _ _
            · have hk := HX6.out.kept (W' := ((((((w6.setCell ⟨R0, 0, none⟩ (.int .i64 e0)).setCell ⟨R0, 1, none⟩ (.int .u64 e1)).setCell ⟨R0, 2, none⟩ (.int .u64 e2)).setCell ⟨R0, 3, none⟩ (.int .u64 e3)).setCell ⟨R0, 4, none⟩ (.int .u64 e4)).setCell ⟨R0, 5, none⟩ (.slice q6 m6 cp6))) (P' := Q) (Keeps.of (by simp [World.setCell]) fun z hz _ => ?_)
              · first | exact hk | exact hk.kept (Keeps.of (Nat.le_refl _) fun b hp hl => ⟨rfl, hp⟩)
              · have h1 := HRL.out
                have h2 : wr.heap.size ≤ wr.drew.heap.size := HDR2.out.size
                rw [HQ.out] at hz ⊢
                have hne : z ≠ R0 := by rcases hz with (⟨_, hz⟩ | hz) | hz <;> omega
                refine ⟨six_ne hne _ _ _ _ _ _, ?_⟩
                rcases hz with hz | hz
                · exact hz
                · exact .inr (by omega)
    · have hltz : ¬ (i : Int) < (N : Int) := by omega
      have hdr : (byteL S).drop i = [] := List.drop_eq_nil_of_le (by rw [HBL.out]; omega)
      have hfm := HFM.out
      have hri := HRI.out
      rw [hdr] at hfm hri
      have cn := nullable_any wr _ u HU.out hfm
      have hri2 : R = nullM u := hri
      unfold ReV.val at cn
      simp only [] at cn
      rw [← hri2] at cn
      clear hdr hfm hri hri2
      go_wp2_with fail
      ((with_reducible refine cn.mono ?_))
      rintro _ w5 ⟨rfl, hb5⟩
      have HB5 : Hid (Below w.heap.size w w5) := HB.out.trans (hb5.mono HB.out.size)
      clear hb5 cn
      go_wp2
      go_ret
      exact ⟨rfl, HB5.out⟩

end Go.Proofs.YtjeplmnjgdpgbaaGreatDoor

/-! What the calls want of sizes and depths follows from how big what is left of one becomes. No condition. -/
namespace Go.Proofs.YtjeplmnjgdpgbaaGreatDoor
open Go.Lib
set_option linter.unusedVariables false
set_option linter.unusedSimpArgs false

theorem Dm_more (k : RT) (R : List RT) : Dm 0 k [] ≤ Dm 0 k R := by
  unfold Dm
  have : ∀ L : List (List RT), (L.map fun s => 3 + T 0 (s ++ [])).sum ≤ (L.map fun s => 3 + T 0 (s ++ R)).sum := by
    intro L
    induction L with
    | nil => simp
    | cons a L ih =>
      have h1 := T0_append a []
      have h2 := T0_append a R
      have h3 : T 0 ([] : List RT) = 0 := rfl
      simp only [List.map_cons, List.sum_cons]
      omega
  exact this _
theorem sz_left {c : Nat} {k : RT} (hg : good k) (R : List RT) : (derivM c k).sz + T 0 R ≤ Dm 0 k R + 1 + T 0 R ∧ ((derivM c k).kind ≠ 0 → (derivM c k).sz + T 0 R + 2 ≤ Dm 0 k R) := by
  have h1 := cost_deriv c 0 k hg R
  have hgd := good_deriv c k hg
  have h2 := seq_sz hgd
  by_cases h0 : (derivM c k).kind = 0
  · have : (derivM c k).sz = 1 := by
      revert h0 hgd
      generalize derivM c k = d
      intro hgd h0
      obtain ⟨k', s, kids⟩ := d
      simp only [RT.kind] at h0
      subst h0
      obtain ⟨⟨_, q⟩, _⟩ := good_mk.1 hgd
      rcases q with ⟨_, q⟩ | ⟨q, _⟩ | ⟨q, _⟩ | ⟨q, _⟩
      · subst q; rw [sz_mk]; rfl
      · omega
      · omega
      · omega
    exact ⟨by omega, fun h => absurd h0 h⟩
  · unfold cost at h1
    rw [if_neg h0, T0_append] at h1
    exact ⟨by omega, fun _ => by omega⟩
/-- One by one, what the needed kids cost is what the Cat costs. -/
theorem cat_costs (c : Nat) : ∀ kids : List RT, (∀ t ∈ kids, good t ∧ t.kind ≠ 0 ∧ t.kind ≠ 1 ∧ t.kind ≠ 3) →
    ((catTo kids ((needed kids).map (derivM c)) (needed kids).length).map RT.sz).sum ≤ ((dls kids).map fun s => 3 + T 0 (s ++ [])).sum ∧
    ∀ j, j < (needed kids).length → ∃ k, (needed kids)[j]? = some k ∧ Dm 0 k (kids.drop (j + 1)) ≤ ((dls kids).map fun s => 3 + T 0 (s ++ [])).sum ∧ good k
  | [], _ => by simp [needed, catTo]
  | k :: kids, h => by
    obtain ⟨hgk, hk0, hk1, hk3⟩ := h k (by simp)
    obtain ⟨i1, i2⟩ := cat_costs c kids fun t ht => h t (by simp [ht])
    have shift : ∀ (l : List RT) (d : RT) (i : Nat), catTo (k :: kids) (d :: l) (i + 1) = catAt (k :: kids) (d :: l) 0 ++ catTo kids l i := by
      intro l d i
      induction i with
      | zero => rw [catTo_succ]; simp [catTo]
      | succ i ih =>
        rw [catTo_succ, ih, catTo_succ, List.append_assoc]
        rfl
    have hD : ((dls (k :: kids)).map fun s => 3 + T 0 (s ++ [])).sum = Dm 0 k kids + (if nullM k then ((dls kids).map fun s => 3 + T 0 (s ++ [])).sum else 0) := by
      rw [dls_cons, List.map_append, List.sum_append, List.map_map]
      unfold Dm
      congr 1
      · congr 1
        refine List.map_congr_left fun s _ => ?_
        simp
      · split
        · rfl
        · rfl
    have hone : ((catAt (k :: kids) (derivM c k :: ((if nullM k then needed kids else []).map (derivM c))) 0).map RT.sz).sum ≤ Dm 0 k kids := by
      unfold catAt
      show (List.map RT.sz (if (derivM c k).kind = 0 then [] else [catM (derivM c k :: kids)])).sum ≤ _
      by_cases h0 : (derivM c k).kind = 0
      · rw [if_pos h0]; simp
      · rw [if_neg h0]
        simp only [List.map_cons, List.map_nil, List.sum_cons, List.sum_nil]
        have h1 := (sz_left (c := c) hgk kids).2 h0
        have h2 := sz_cat (derivM c k :: kids)
        simp only [List.map_cons, List.sum_cons] at h2
        have h3 : T 0 kids = (kids.map RT.sz).sum := rfl
        omega
    rw [hD, needed, List.map_cons, List.length_cons, shift, List.map_append, List.sum_append]
    by_cases hn : nullM k = true
    · rw [if_pos hn] at hone ⊢
      rw [if_pos hn]
      refine ⟨by omega, fun j hj => ?_⟩
      cases j with
      | zero => exact ⟨k, rfl, by show Dm 0 k kids ≤ _; omega, hgk⟩
      | succ j =>
        obtain ⟨u, hu, hc, hg⟩ := i2 j (by omega)
        exact ⟨u, hu, by show Dm 0 u (kids.drop (j + 1)) ≤ _; omega, hg⟩
    · rw [if_neg hn] at hone ⊢
      rw [if_neg hn]
      refine ⟨by simp [catTo]; exact hone, fun j hj => ?_⟩
      cases j with
      | zero => exact ⟨k, rfl, by show Dm 0 k kids ≤ _; omega, hgk⟩
      | succ j => simp at hj
theorem dep_catTo {n : Nat} (kids l : List RT) (hk : ∀ t ∈ kids, t.dep ≤ n) (hl : ∀ t ∈ l, t.dep ≤ n) (hn : 1 ≤ n) : ∀ i, ∀ u ∈ catTo kids l i, u.dep ≤ n + 1
  | 0, u, hu => by simp [catTo] at hu
  | i + 1, u, hu => by
    rw [catTo_succ] at hu
    rcases List.mem_append.1 hu with h | h
    · exact dep_catTo kids l hk hl hn i u h
    · unfold catAt at h
      split at h
      · simp at h
      · simp at h
        subst h
        refine dep_cat fun v hv => ?_
        rcases List.mem_cons.1 hv with rfl | hv
        · by_cases hi : i < l.length
          · rw [List.getElem?_eq_getElem hi]
            exact hl _ (List.getElem_mem hi)
          · rw [List.getElem?_eq_none (by omega)]
            exact Nat.le_trans (Nat.le_of_eq (dep_leaf _ _)) hn
        · exact hk v (List.mem_of_mem_drop hv)
theorem kid_le {t k : RT} (h : k ∈ t.kids) {n : Nat} (hd : t.dep ≤ n + 1) : k.dep ≤ n := by
  obtain ⟨k', s, kids⟩ := t
  exact dep_mk.1 hd k h
theorem fitD_of {c : Nat} {t : RT} (hg : good t) (hs : Dm 0 t [] + t.sz + 1 ≤ 9000000000) (hd : t.dep ≤ 4000) : FitD c t := by
  have hkg : ∀ k ∈ t.kids, good k := fun k hk => good_kid hg hk
  have hkd : ∀ k ∈ t.kids, k.dep ≤ 3999 := fun k hk => kid_le hk hd
  have hdd : ∀ k ∈ t.kids, (derivM c k).dep ≤ 7998 := fun k hk => by have h1 := dep_deriv c k; have h2 := hkd k hk; omega
  have hks := kids_sum t
  refine ⟨fun e => ?_, fun e => ?_, fun e => ?_⟩
  · have hne : need t = needed t.kids := by unfold need; rw [if_pos e]
    have hkinds : ∀ k ∈ t.kids, good k ∧ k.kind ≠ 0 ∧ k.kind ≠ 1 ∧ k.kind ≠ 3 := fun k hk => ⟨hkg k hk, by
      obtain ⟨k', s, kids⟩ := t
      exact (good_kinds hg).1 e k hk⟩
    have hD : Dm 0 t [] = ((dls t.kids).map fun s => 3 + T 0 (s ++ [])).sum := by
      obtain ⟨k', s, kids⟩ := t
      simp only [RT.kind] at e
      subst e
      unfold Dm
      rw [dl_mk, if_neg (by decide), if_pos rfl]
      rfl
    obtain ⟨c1, c2⟩ := cat_costs c t.kids hkinds
    rw [← hD] at c1 c2
    rw [hne]
    have hnd : ∀ u ∈ (needed t.kids).map (derivM c), u.dep ≤ 7998 := fun u hu => by
      obtain ⟨k, hk, rfl⟩ := List.mem_map.1 hu
      obtain ⟨m, h1, _⟩ := needed_pre t.kids
      rw [h1] at hk
      exact hdd k (List.mem_of_mem_take hk)
    refine ⟨fun j hj => ?_, fun u hu => ?_, by omega, ?_⟩
    · obtain ⟨k, hk, hc, hgk⟩ := c2 j hj
      have h1 := (sz_left (c := c) hgk (t.kids.drop (j + 1))).1
      have h2 : ((needed t.kids).map (derivM c)).getD j noneM = derivM c k := by rw [List.getD_eq_getElem?_getD, List.getElem?_map, hk]; rfl
      have h3 : T 0 (t.kids.drop (j + 1)) = ((t.kids.drop (j + 1)).map RT.sz).sum := rfl
      have h4 : ((t.kids.drop (j + 1)).map RT.sz).sum ≤ (t.kids.map RT.sz).sum := by
        have : t.kids.map RT.sz = (t.kids.take (j + 1)).map RT.sz ++ (t.kids.drop (j + 1)).map RT.sz := by rw [← List.map_append, List.take_append_drop]
        rw [this, List.sum_append]
        omega
      rw [h2]
      omega
    · have := dep_catTo t.kids ((needed t.kids).map (derivM c)) (n := 7998) (fun k hk => by have := hkd k hk; omega) hnd (by omega) _ u hu
      omega
    · have := kids_len t
      omega
  · have hne : need t = t.kids := by unfold need; rw [if_neg (by omega), if_pos e]
    rw [hne]
    have hD : Dm 0 t [] = (t.kids.map fun x => Dm 0 x []).sum := Dm_either' 0 [] e
    refine ⟨fun u hu => ?_, ?_⟩
    · obtain ⟨k, hk, rfl⟩ := List.mem_map.1 hu
      have := hdd k hk
      omega
    · have h1 : ((t.kids.map (derivM c)).map RT.sz).sum ≤ (t.kids.map fun x => Dm 0 x []).sum + (t.kids.map RT.sz).sum := by
        clear hs hd hkd hdd hks hne hD
        revert hkg
        generalize t.kids = L
        intro hkg
        induction L with
        | nil => simp
        | cons a L ih =>
          have i1 := ih fun k hk => hkg k (by simp [hk])
          have h1 := (sz_left (c := c) (hkg a (by simp)) []).1
          have h2 := sz_pos a
          simp only [List.map_cons, List.sum_cons]
          omega
      omega
  · intro d hd'
    obtain ⟨k, hk, rfl⟩ := List.mem_map.1 hd'
    have hkk := need_kids hk
    obtain ⟨k', s, kids⟩ := t
    simp only [RT.kind] at e
    subst e
    obtain ⟨x, rfl⟩ := (good_kinds hg).2 rfl
    have hkx : k = x := by simpa [RT.kids] using hkk
    subst hkx
    have h1 := (sz_left (c := c) (hkg k (by simp [RT.kids])) []).1
    have h2 := Dm_more k [.mk 5 s [k]]
    have hD : Dm 0 (.mk 5 s [k]) [] = Dm 0 k [.mk 5 s [k]] := by
      unfold Dm
      rw [dl_mk, if_neg (by decide), if_neg (by decide), if_neg (by decide), if_pos rfl]
      simp [Function.comp_def]
    have h3 : T 0 ([] : List RT) = 0 := rfl
    omega
theorem need_Dm {t k : RT} (hg : good t) (hk : k ∈ need t) : Dm 0 k [] ≤ Dm 0 t [] := by
  obtain ⟨k', s, kids⟩ := t
  unfold need at hk
  change k ∈ (if k' = 3 then needed kids else if k' = 4 then kids else if k' = 5 then (if kids.length = 1 then kids else []) else []) at hk
  by_cases h3 : k' = 3
  · subst h3
    rw [if_pos rfl] at hk
    have hkinds : ∀ k ∈ kids, good k ∧ k.kind ≠ 0 ∧ k.kind ≠ 1 ∧ k.kind ≠ 3 := fun k hk => ⟨good_kid hg hk, (good_kinds hg).1 rfl k hk⟩
    obtain ⟨j, hj, e⟩ := List.getElem_of_mem hk
    obtain ⟨u, hu, hc, _⟩ := (cat_costs 0 kids hkinds).2 j hj
    have hku : k = u := by
      have h1 : (needed kids)[j]? = some k := by rw [← e]; exact List.getElem?_eq_getElem hj
      exact Option.some.inj (h1.symm.trans hu)
    subst hku
    have h2 := Dm_more k (kids.drop (j + 1))
    have hD : Dm 0 (.mk 3 s kids) [] = ((dls kids).map fun s => 3 + T 0 (s ++ [])).sum := by
      unfold Dm
      rw [dl_mk, if_neg (by decide), if_pos rfl]
      rfl
    omega
  · rw [if_neg h3] at hk
    by_cases h4 : k' = 4
    · subst h4
      rw [if_pos rfl] at hk
      rw [Dm_either]
      exact sum_ge (g := fun x => Dm 0 x []) hk
    · rw [if_neg h4] at hk
      by_cases h5 : k' = 5
      · subst h5
        obtain ⟨x, rfl⟩ := (good_kinds hg).2 rfl
        rw [if_pos rfl] at hk
        have hkx : k = x := by simpa [RT.kids] using hk
        subst hkx
        have hD : Dm 0 (.mk 5 s [k]) [] = Dm 0 k [.mk 5 s [k]] := by
          unfold Dm
          rw [dl_mk, if_neg (by decide), if_neg (by decide), if_neg (by decide), if_pos rfl]
          simp [Function.comp_def]
        rw [hD]
        exact Dm_more k _
      · rw [if_neg h5] at hk
        simp at hk
theorem fitA_of {c : Nat} (t : RT) : good t → Dm 0 t [] + t.sz + 1 ≤ 9000000000 → t.dep ≤ 4000 → FitA c t := by
  induction t using RT.ind with
  | h k s kids ih =>
    intro hg hs hd
    refine .mk (fitD_of hg hs hd) fun u hu => ?_
    have hm : u ∈ kids := need_kids hu
    have h1 := need_Dm hg hu
    have h2 := sz_kid (k := k) (s := s) hm
    have h3 := kid_dep (y := .mk k s kids) hm
    exact ih u hm (good_kid hg hm) (by omega) (by omega)
/-- So Match may be asked. -/
theorem fitM_of : ∀ (l : List Nat) (t : RT), good t → t.dep * 2 ^ l.length ≤ 4000 → (∀ k, k < l.length → T k (seqOf t) + l.length ≤ 400000000) → T l.length (seqOf t) + l.length ≤ 6000000000 → FitM t l
  | [], t, hg, hd, h1, h2 => by
    have := (seq_sz hg).2.1
    show t.sz ≤ 8000000000
    simp at h2
    omega
  | c :: l, t, hg, hd, h1, h2 => by
    have hsz := (seq_sz hg).2.1
    have h0 := h1 0 (by simp)
    have hN : Dm 0 t [] = T 1 (seqOf t) := by
      have h := T_seq 0 t []
      rw [List.append_nil] at h
      have e : T (0 + 1) ([] : List RT) = 0 := rfl
      rw [e] at h
      have h : T 1 (seqOf t) = _ := h
      rw [h]
      simp
    have hT1 : T 1 (seqOf t) ≤ 6000000000 := by
      cases l with
      | nil => simp at h2; omega
      | cons d l => have := h1 1 (by simp); simp only [List.length_cons] at this; omega
    have hp : 1 ≤ 2 ^ l.length := Nat.pow_pos (by decide)
    rw [List.length_cons, Nat.pow_succ] at hd
    have hdl : t.dep ≤ 4000 := by
      have : t.dep * 1 ≤ t.dep * (2 ^ l.length * 2) := Nat.mul_le_mul_left _ (by omega)
      omega
    refine ⟨fitA_of t hg (by omega) hdl, by omega, fitM_of l (derivM c t) (good_deriv c t hg) ?_ (fun k hk => ?_) ?_⟩
    · have h3 := dep_deriv c t
      have h4 : (derivM c t).dep * 2 ^ l.length ≤ 2 * t.dep * 2 ^ l.length := Nat.mul_le_mul_right _ h3
      have h5 : 2 * t.dep * 2 ^ l.length = t.dep * (2 ^ l.length * 2) := by rw [Nat.mul_comm 2 t.dep, Nat.mul_assoc, Nat.mul_comm 2]
      omega
    · have h3 := T_deriv c k hg
      have h4 := h1 (k + 1) (by simp; omega)
      simp only [List.length_cons] at h4
      omega
    · have h3 := T_deriv c l.length hg
      simp only [List.length_cons] at h2
      omega

end Go.Proofs.YtjeplmnjgdpgbaaGreatDoor

/-! How big what is left of the laws' expressions by numbers becomes behind six bytes. No condition. -/
namespace Go.Proofs.YtjeplmnjgdpgbaaGreatDoor
open Go.Lib
set_option linter.unusedVariables false
set_option linter.unusedSimpArgs false

def Psi (q : List RT) : Nat := 16777216 * T 0 q + 1048576 * T 1 q + 65536 * T 2 q + 4096 * T 3 q + 256 * T 4 q + 16 * T 5 q + T 6 q
def Del (t : RT) (R : List RT) : Nat := 1048576 * Dm 0 t R + 65536 * Dm 1 t R + 4096 * Dm 2 t R + 256 * Dm 3 t R + 16 * Dm 4 t R + Dm 5 t R
theorem psi_seq {t : RT} (hg : good t) (R : List RT) : Psi (seqOf t ++ R) ≤ 16777216 * t.sz + Del t R + Psi R := by
  have h0 := T0_append (seqOf t) R
  have h1 := (seq_sz hg).1
  have k := fun j => T_seq j t R
  have k0 := k 0
  have k1 := k 1
  have k2 := k 2
  have k3 := k 3
  have k4 := k 4
  have k5 := k 5
  unfold Psi Del
  simp only [Nat.zero_add, Nat.reduceAdd] at k0 k1 k2 k3 k4 k5
  rw [k0, k1, k2, k3, k4, k5, h0]
  split <;> omega
def fl (l : List RT) : List RT := l.flatMap seqOf
theorem seq_kinds {t : RT} (hg : good t) (h0 : t.kind ≠ 0) : ∀ u ∈ seqOf t, u.kind ≠ 0 ∧ u.kind ≠ 1 ∧ u.kind ≠ 3 := by
  intro u hu
  unfold seqOf at hu
  split at hu
  · obtain ⟨k', s, kids⟩ := t
    exact (good_kinds hg).1 (by assumption) u hu
  · split at hu
    · simp at hu
    · simp at hu
      subst hu
      exact ⟨h0, by assumption, by assumption⟩
theorem fl_filter : ∀ {l : List RT}, (∀ t ∈ l, good t) → ((flatM 3 l).filter fun r => !(r.kind == 1)) = fl l := by
  intro l hg
  induction l with
  | nil => rfl
  | cons a l ih =>
    have e : flatM 3 (a :: l) = (if a.kind = 3 then a.kids else [a]) ++ flatM 3 l := by simp [flatM]
    have e2 : fl (a :: l) = seqOf a ++ fl l := by simp [fl]
    rw [e, e2, List.filter_append, ih fun t ht => hg t (by simp [ht])]
    congr 1
    unfold seqOf
    split
    · rw [List.filter_eq_self]
      intro t ht
      have hga := hg a (by simp)
      obtain ⟨k', s, kids⟩ := a
      have := ((good_kinds hga).1 (by assumption) t ht).2.1
      simpa using this
    · split
      · simp_all
      · simp_all
theorem cat_is {l : List RT} (hg : ∀ t ∈ l, good t) : ((∃ t ∈ l, t.kind = 0) → catM l = noneM) ∧ ((∀ t ∈ l, t.kind ≠ 0) → catM l = someM 3 1 (fl l)) := by
  have hfil := fl_filter hg
  refine ⟨fun ⟨t, ht, h0⟩ => ?_, fun h0 => ?_⟩
  · unfold catM
    rw [if_pos]
    refine List.any_eq_true.2 ⟨t, ?_, by simp [h0]⟩
    unfold flatM
    exact List.mem_flatMap.2 ⟨t, ht, by rw [if_neg (by omega)]; simp⟩
  · unfold catM
    rw [if_neg, hfil]
    intro h
    obtain ⟨t, ht, hk⟩ := List.any_eq_true.1 h
    have hk : t.kind = 0 := by simpa using hk
    rcases flat_mem ht with ⟨h1, _⟩ | ⟨y, hy, h3, hx⟩
    · exact h0 t h1 hk
    · have hgy := hg y hy
      obtain ⟨k', s, kids⟩ := y
      exact ((good_kinds hgy).1 h3 t hx).1 hk
def DelL : List RT → List RT → Nat
  | [], _ => 0
  | t :: l, R => Del t (fl l ++ R) + (if nullM t then DelL l R else 0)
def Dq (j : Nat) (q R : List RT) : Nat := ((dls q).map fun s => 3 + T j (s ++ R)).sum
theorem Dq_cons (j : Nat) (t : RT) (B R : List RT) : Dq j (seqOf t ++ B) R = Dm j t (B ++ R) + (if nullM t then Dq j B R else 0) := by
  unfold Dq
  rw [dls_append, dls_seq, null_seq, List.map_append, List.sum_append, List.map_map]
  unfold Dm
  congr 1
  · congr 1
    refine List.map_congr_left fun s _ => ?_
    simp [List.append_assoc]
  · split
    · rfl
    · rfl
theorem Dm_some (j : Nat) (L R : List RT) : Dm j (someM 3 1 L) R = Dq j L R := by
  match L with
  | [] =>
    show Dm j (.mk 1 W4.zero []) R = _
    unfold Dm Dq
    rw [dl_mk]
    rfl
  | [y] =>
    show Dm j y R = _
    unfold Dm Dq
    rw [dls_cons, dls_nil]
    simp
  | x :: y :: l =>
    show Dm j (.mk 3 W4.zero (x :: y :: l)) R = _
    unfold Dm Dq
    rw [dl_mk, if_neg (by decide), if_pos rfl]
    rfl
theorem null_some (L : List RT) : nullM (someM 3 1 L) = L.all nullM := by
  match L with
  | [] =>
    show nullM (.mk 1 W4.zero []) = _
    rw [null_mk]
    simp
  | [y] => simp [someM]
  | x :: y :: l =>
    show nullM (.mk 3 W4.zero (x :: y :: l)) = _
    rw [null_mk]
    rfl
theorem null_cat {l : List RT} (hg : ∀ t ∈ l, good t) : nullM (catM l) = l.all nullM := by
  by_cases h : ∃ t ∈ l, t.kind = 0
  · rw [(cat_is hg).1 h]
    obtain ⟨t, ht, hk⟩ := h
    have h1 : nullM noneM = false := null_none rfl
    rw [h1]
    symm
    rw [List.all_eq_false]
    exact ⟨t, ht, by rw [null_none hk]; simp⟩
  · rw [(cat_is hg).2 fun t ht hk => h ⟨t, ht, hk⟩, null_some]
    unfold fl
    clear h hg
    induction l with
    | nil => rfl
    | cons a l ih => rw [List.flatMap_cons, List.all_append, ih, null_seq, List.all_cons]
theorem del_cat {l : List RT} (hg : ∀ t ∈ l, good t) (R : List RT) : Del (catM l) R ≤ DelL l R := by
  by_cases h : ∃ t ∈ l, t.kind = 0
  · rw [(cat_is hg).1 h]
    unfold Del
    rw [Dm_none 0 R rfl, Dm_none 1 R rfl, Dm_none 2 R rfl, Dm_none 3 R rfl, Dm_none 4 R rfl, Dm_none 5 R rfl]
    omega
  · rw [(cat_is hg).2 fun t ht hk => h ⟨t, ht, hk⟩]
    unfold Del
    simp only [Dm_some]
    clear h hg
    induction l with
    | nil => simp [fl, Dq, dls_nil, DelL]
    | cons a l ih =>
      have e2 : fl (a :: l) = seqOf a ++ fl l := by simp [fl]
      rw [e2]
      simp only [Dq_cons, DelL, Del]
      split <;> omega
theorem Dm_eitherM (j : Nat) (R : List RT) (l : List RT) : Dm j (eitherM l) R ≤ (l.map fun x => Dm j x R).sum := by
  have h := Dm_parts j R l
  have hE : eitherM l = someM 4 0 (partsM l) := rfl
  rw [hE]
  revert h
  match partsM l with
  | [] =>
    intro h
    show Dm j (.mk 0 W4.zero []) R ≤ _
    rw [Dm_none j R rfl]
    omega
  | [p] =>
    intro h
    simp only [List.map_cons, List.map_nil, List.sum_cons, List.sum_nil] at h
    show Dm j p R ≤ _
    omega
  | p :: q :: P =>
    intro h
    show Dm j (.mk 4 W4.zero (p :: q :: P)) R ≤ _
    rw [Dm_either]
    exact h
theorem del_either (l : List RT) (R : List RT) : Del (eitherM l) R ≤ (l.map fun x => Del x R).sum := by
  have e : (l.map fun x => Del x R).sum = 1048576 * (l.map fun x => Dm 0 x R).sum + 65536 * (l.map fun x => Dm 1 x R).sum + 4096 * (l.map fun x => Dm 2 x R).sum + 256 * (l.map fun x => Dm 3 x R).sum + 16 * (l.map fun x => Dm 4 x R).sum + (l.map fun x => Dm 5 x R).sum := by
    induction l with
    | nil => rfl
    | cons a l ih =>
      simp only [List.map_cons, List.sum_cons, ih]
      unfold Del
      omega
  rw [e]
  have h0 := Dm_eitherM 0 R l
  have h1 := Dm_eitherM 1 R l
  have h2 := Dm_eitherM 2 R l
  have h3 := Dm_eitherM 3 R l
  have h4 := Dm_eitherM 4 R l
  have h5 := Dm_eitherM 5 R l
  unfold Del
  omega
theorem del_byte {t : RT} (h : t.kind = 2) (R : List RT) : 16 * Del t R ≤ 53687088 + Psi R := by
  unfold Del Psi
  rw [Dm_byte' 0 R h, Dm_byte' 1 R h, Dm_byte' 2 R h, Dm_byte' 3 R h, Dm_byte' 4 R h, Dm_byte' 5 R h]
  omega
/-- Of leaves an Either has one Byte at most. -/
theorem del_leaves {l : List RT} (hl : ∀ t ∈ l, t.kind ≤ 2 ∧ 0 ≤ t.kind) (R : List RT) : 16 * Del (eitherM l) R ≤ 53687088 + Psi R := by
  have hz : ∀ t : RT, t.kind = 0 ∨ t.kind = 1 → Del t R = 0 := fun t h => by
    obtain ⟨k, s, kids⟩ := t
    simp only [RT.kind] at h
    have : ∀ j, Dm j (.mk k s kids) R = 0 := fun j => by
      unfold Dm
      rw [dl_mk, if_neg (by omega), if_neg (by omega), if_neg (by omega), if_neg (by omega)]
      rfl
    unfold Del
    rw [this, this, this, this, this, this]
  have hfl : flatM 4 l = l := flat_same fun t ht => by have := hl t ht; omega
  have hsum : ∀ j, ((partsM l).map fun x => Dm j x R).sum ≤ 3 + T j R := fun j => by
    have h1 := sumg_puts (fun x => Dm j x R) (byteM l ++ othersM l)
    have e2 : putsM (byteM l ++ othersM l) = partsM l := by unfold partsM; rw [hfl]
    rw [e2, List.map_append, List.sum_append] at h1
    have h2 : ((byteM l).map fun x => Dm j x R).sum ≤ 3 + T j R := by
      unfold byteM
      split
      · simp
      · simp [Dm_byte]
    have h3 : ((othersM l).map fun x => Dm j x R).sum = 0 := by
      have : ∀ x ∈ othersM l, Dm j x R = 0 := fun x hx => by
        have h4 := List.mem_filter.1 hx
        have h5 := h4.2
        simp at h5
        have h6 := hl x h4.1
        obtain ⟨k, s, kids⟩ := x
        simp only [RT.kind] at h5 h6
        unfold Dm
        rw [dl_mk, if_neg (by omega), if_neg (by omega), if_neg (by omega), if_neg (by omega)]
        rfl
      revert this
      generalize othersM l = O
      intro h
      induction O with
      | nil => rfl
      | cons a O ih =>
        have h7 := h a (by simp)
        have h8 := ih fun x hx => h x (by simp [hx])
        simp only [List.map_cons, List.sum_cons]
        omega
    omega
  have hE : eitherM l = someM 4 0 (partsM l) := rfl
  have hd : ∀ j, Dm j (eitherM l) R ≤ 3 + T j R := fun j => by
    have h := hsum j
    rw [hE]
    revert h
    match partsM l with
    | [] => intro h; show Dm j (.mk 0 W4.zero []) R ≤ _; rw [Dm_none j R rfl]; omega
    | [p] => intro h; simp only [List.map_cons, List.map_nil, List.sum_cons, List.sum_nil] at h; show Dm j p R ≤ _; omega
    | p :: q :: P => intro h; show Dm j (.mk 4 W4.zero (p :: q :: P)) R ≤ _; rw [Dm_either]; exact h
  have h0 := hd 0
  have h1 := hd 1
  have h2 := hd 2
  have h3 := hd 3
  have h4 := hd 4
  have h5 := hd 5
  unfold Del Psi
  omega
theorem del_star (s : W4) (t : RT) (R : List RT) : Del (.mk 5 s [t]) R = Del t (.mk 5 s [t] :: R) := by
  have h : ∀ j, Dm j (.mk 5 s [t]) R = Dm j t (.mk 5 s [t] :: R) := fun j => by
    unfold Dm
    rw [dl_mk, if_neg (by decide), if_neg (by decide), if_neg (by decide), if_pos rfl]
    simp [Function.comp_def]
  unfold Del
  rw [h, h, h, h, h, h]
structure Lv (S C A Cn An : Nat) (t : RT) : Prop where
  good : good t
  sz : t.sz ≤ S
  nn : nullM t = false → ∀ R, 1024 * Del t R ≤ C + A * Psi R
  nu : nullM t = true → ∀ R, 1024 * Del t R ≤ Cn + An * Psi R

theorem lv0_any {t : RT} (h : Lv 1 3435973632 64 0 0 t) (R : List RT) : 1024 * Del t R ≤ 3435973632 + 64 * Psi R := by
  cases e : nullM t with
  | true => have := h.nu e R; omega
  | false => have := h.nn e R; omega
theorem lv0_up {t : RT} (h : Lv 1 3435973632 64 0 0 t) : Lv 5 6093484621 73 5955687767 69 t :=
  ⟨h.good, by have := h.sz; omega, fun e R => by have := h.nn e R; omega, fun e R => by have := h.nu e R; omega⟩
theorem lv0_star {t : RT} (h : Lv 1 3435973632 64 0 0 t) : Lv 5 6093484621 73 5955687767 69 (starM t) := by
  unfold starM
  split
  · refine ⟨good_empty, by show (RT.mk 1 W4.zero []).sz ≤ _; rw [sz_mk]; simp, fun e => by have e : nullM (.mk 1 W4.zero []) = false := e; rw [null_mk] at e; simp at e, fun _ R => ?_⟩
    have : ∀ j, Dm j emptyM R = 0 := fun j => by
      show Dm j (.mk 1 W4.zero []) R = 0
      unfold Dm
      rw [dl_mk]
      rfl
    unfold Del
    rw [this, this, this, this, this, this]
    omega
  · split
    · exact lv0_up h
    · rename_i h1 h5
      have hgs : good (.mk 5 W4.zero [t]) := by have := good_star h.good; unfold starM at this; rw [if_neg h1, if_neg h5] at this; exact this
      have hsz : (RT.mk 5 W4.zero [t]).sz ≤ 2 := by have := h.sz; rw [sz_mk]; simp; omega
      refine ⟨hgs, by omega, fun e => by rw [null_mk] at e; simp at e, fun _ R => ?_⟩
      have h2 := lv0_any h (.mk 5 W4.zero [t] :: R)
      have h3 := psi_seq hgs R
      have h4 : seqOf (.mk 5 W4.zero [t]) = [.mk 5 W4.zero [t]] := rfl
      rw [h4] at h3
      have h3 : Psi (.mk 5 W4.zero [t] :: R) ≤ _ := h3
      have h5 := del_star W4.zero t R
      omega
theorem lv0_cat3 {a b c : RT} (ha : Lv 1 3435973632 64 0 0 a) (hb : Lv 1 3435973632 64 0 0 b) (hc : Lv 1 3435973632 64 0 0 c) : Lv 5 6093484621 73 5955687767 69 (catM [a, b, c]) := by
  have hg : ∀ t ∈ [a, b, c], good t := by
    intro t ht
    simp at ht
    rcases ht with rfl | rfl | rfl
    · exact ha.good
    · exact hb.good
    · exact hc.good
  have hs := sz_cat [a, b, c]
  have s1 := ha.sz
  have s2 := hb.sz
  have s3 := hc.sz
  simp only [List.map_cons, List.map_nil, List.sum_cons, List.sum_nil] at hs
  have hn := null_cat hg
  simp only [List.all_cons, List.all_nil, Bool.and_true] at hn
  have key : ∀ R, ∃ P2 P3 D1 D2 D3 P : Nat, P = Psi R ∧ P3 ≤ 16777216 + D3 + P ∧ P2 ≤ 16777216 + D2 + P3 ∧ 1024 * D1 ≤ 3435973632 + 64 * P2 ∧ 1024 * D2 ≤ 3435973632 + 64 * P3 ∧ 1024 * D3 ≤ 3435973632 + 64 * P ∧ (nullM a = true → 1024 * D1 ≤ 0 + 0 * P2) ∧ (nullM b = true → 1024 * D2 ≤ 0 + 0 * P3) ∧ (nullM c = true → 1024 * D3 ≤ 0 + 0 * P) ∧
      (nullM a = false → 1024 * D1 ≤ 3435973632 + 64 * P2) ∧ (nullM b = false → 1024 * D2 ≤ 3435973632 + 64 * P3) ∧ (nullM c = false → 1024 * D3 ≤ 3435973632 + 64 * P) ∧ Del (catM [a, b, c]) R ≤ D1 + (if nullM a then D2 + (if nullM b then D3 else 0) else 0) := fun R => by
    refine ⟨Psi (fl [b, c] ++ R), Psi (fl [c] ++ R), Del a (fl [b, c] ++ R), Del b (fl [c] ++ R), Del c R, Psi R, rfl, ?_, ?_, lv0_any ha _, lv0_any hb _, lv0_any hc _, fun e => ha.nu e _, fun e => hb.nu e _, fun e => hc.nu e _, fun e => ha.nn e _, fun e => hb.nn e _, fun e => hc.nn e _, ?_⟩
    · have h := psi_seq hc.good R
      have e : fl [c] ++ R = seqOf c ++ R := by simp [fl]
      rw [e]
      omega
    · have h := psi_seq hb.good (fl [c] ++ R)
      have e : fl [b, c] ++ R = seqOf b ++ (fl [c] ++ R) := by simp [fl]
      rw [e]
      omega
    · have h := del_cat hg R
      simp only [DelL] at h
      have e : Del c (fl [] ++ R) = Del c R := by simp [fl]
      rw [e] at h
      revert h
      cases nullM a <;> cases nullM b <;> cases nullM c <;> (intro h; simp at h ⊢; omega)
  refine ⟨good_cat hg, by omega, fun e R => ?_, fun e R => ?_⟩
  · obtain ⟨P2, P3, D1, D2, D3, P, hP, h1, h2, h3, h4, h5, h6, h7, h8, h9, h10, h11, h12⟩ := key R
    rw [← hP]
    rw [e] at hn
    cases na : nullM a with
    | false =>
      have := h9 na
      rw [na] at h12
      simp at h12
      clear h6 h7 h8 h9 h10 h11 h3
      omega
    | true =>
      cases nb : nullM b with
      | false =>
        have q1 := h6 na
        have q2 := h10 nb
        rw [na, nb] at h12
        simp at h12
        clear h6 h7 h8 h9 h10 h11 h3 h4
        omega
      | true =>
        have q1 := h6 na
        have q2 := h7 nb
        rw [na, nb] at hn h12
        have nc : nullM c = false := by simpa using hn.symm
        have q3 := h11 nc
        simp at h12
        clear h6 h7 h8 h9 h10 h11 h3 h4 h5
        omega
  · obtain ⟨P2, P3, D1, D2, D3, P, hP, h1, h2, h3, h4, h5, h6, h7, h8, h9, h10, h11, h12⟩ := key R
    rw [← hP]
    rw [e] at hn
    obtain ⟨na, nb, nc⟩ : nullM a = true ∧ nullM b = true ∧ nullM c = true := by simpa using hn.symm
    have q1 := h6 na
    have q2 := h7 nb
    have q3 := h8 nc
    rw [na, nb] at h12
    simp at h12
    clear h6 h7 h8 h9 h10 h11 h3 h4 h5
    omega

theorem lv1_any {t : RT} (h : Lv 5 6093484621 73 5955687767 69 t) (R : List RT) : 1024 * Del t R ≤ 6093484621 + 73 * Psi R := by
  cases e : nullM t with
  | true => have := h.nu e R; omega
  | false => have := h.nn e R; omega
theorem lv1_up {t : RT} (h : Lv 5 6093484621 73 5955687767 69 t) : Lv 17 37042969165 227 36852477422 222 t :=
  ⟨h.good, by have := h.sz; omega, fun e R => by have := h.nn e R; omega, fun e R => by have := h.nu e R; omega⟩
theorem lv1_star {t : RT} (h : Lv 5 6093484621 73 5955687767 69 t) : Lv 17 37042969165 227 36852477422 222 (starM t) := by
  unfold starM
  split
  · refine ⟨good_empty, by show (RT.mk 1 W4.zero []).sz ≤ _; rw [sz_mk]; simp, fun e => by have e : nullM (.mk 1 W4.zero []) = false := e; rw [null_mk] at e; simp at e, fun _ R => ?_⟩
    have : ∀ j, Dm j emptyM R = 0 := fun j => by
      show Dm j (.mk 1 W4.zero []) R = 0
      unfold Dm
      rw [dl_mk]
      rfl
    unfold Del
    rw [this, this, this, this, this, this]
    omega
  · split
    · exact lv1_up h
    · rename_i h1 h5
      have hgs : good (.mk 5 W4.zero [t]) := by have := good_star h.good; unfold starM at this; rw [if_neg h1, if_neg h5] at this; exact this
      have hsz : (RT.mk 5 W4.zero [t]).sz ≤ 6 := by have := h.sz; rw [sz_mk]; simp; omega
      refine ⟨hgs, by omega, fun e => by rw [null_mk] at e; simp at e, fun _ R => ?_⟩
      have h2 := lv1_any h (.mk 5 W4.zero [t] :: R)
      have h3 := psi_seq hgs R
      have h4 : seqOf (.mk 5 W4.zero [t]) = [.mk 5 W4.zero [t]] := rfl
      rw [h4] at h3
      have h3 : Psi (.mk 5 W4.zero [t] :: R) ≤ _ := h3
      have h5 := del_star W4.zero t R
      omega
theorem lv1_cat3 {a b c : RT} (ha : Lv 5 6093484621 73 5955687767 69 a) (hb : Lv 5 6093484621 73 5955687767 69 b) (hc : Lv 5 6093484621 73 5955687767 69 c) : Lv 17 37042969165 227 36852477422 222 (catM [a, b, c]) := by
  have hg : ∀ t ∈ [a, b, c], good t := by
    intro t ht
    simp at ht
    rcases ht with rfl | rfl | rfl
    · exact ha.good
    · exact hb.good
    · exact hc.good
  have hs := sz_cat [a, b, c]
  have s1 := ha.sz
  have s2 := hb.sz
  have s3 := hc.sz
  simp only [List.map_cons, List.map_nil, List.sum_cons, List.sum_nil] at hs
  have hn := null_cat hg
  simp only [List.all_cons, List.all_nil, Bool.and_true] at hn
  have key : ∀ R, ∃ P2 P3 D1 D2 D3 P : Nat, P = Psi R ∧ P3 ≤ 83886080 + D3 + P ∧ P2 ≤ 83886080 + D2 + P3 ∧ 1024 * D1 ≤ 6093484621 + 73 * P2 ∧ 1024 * D2 ≤ 6093484621 + 73 * P3 ∧ 1024 * D3 ≤ 6093484621 + 73 * P ∧ (nullM a = true → 1024 * D1 ≤ 5955687767 + 69 * P2) ∧ (nullM b = true → 1024 * D2 ≤ 5955687767 + 69 * P3) ∧ (nullM c = true → 1024 * D3 ≤ 5955687767 + 69 * P) ∧
      (nullM a = false → 1024 * D1 ≤ 6093484621 + 73 * P2) ∧ (nullM b = false → 1024 * D2 ≤ 6093484621 + 73 * P3) ∧ (nullM c = false → 1024 * D3 ≤ 6093484621 + 73 * P) ∧ Del (catM [a, b, c]) R ≤ D1 + (if nullM a then D2 + (if nullM b then D3 else 0) else 0) := fun R => by
    refine ⟨Psi (fl [b, c] ++ R), Psi (fl [c] ++ R), Del a (fl [b, c] ++ R), Del b (fl [c] ++ R), Del c R, Psi R, rfl, ?_, ?_, lv1_any ha _, lv1_any hb _, lv1_any hc _, fun e => ha.nu e _, fun e => hb.nu e _, fun e => hc.nu e _, fun e => ha.nn e _, fun e => hb.nn e _, fun e => hc.nn e _, ?_⟩
    · have h := psi_seq hc.good R
      have e : fl [c] ++ R = seqOf c ++ R := by simp [fl]
      rw [e]
      omega
    · have h := psi_seq hb.good (fl [c] ++ R)
      have e : fl [b, c] ++ R = seqOf b ++ (fl [c] ++ R) := by simp [fl]
      rw [e]
      omega
    · have h := del_cat hg R
      simp only [DelL] at h
      have e : Del c (fl [] ++ R) = Del c R := by simp [fl]
      rw [e] at h
      revert h
      cases nullM a <;> cases nullM b <;> cases nullM c <;> (intro h; simp at h ⊢; omega)
  refine ⟨good_cat hg, by omega, fun e R => ?_, fun e R => ?_⟩
  · obtain ⟨P2, P3, D1, D2, D3, P, hP, h1, h2, h3, h4, h5, h6, h7, h8, h9, h10, h11, h12⟩ := key R
    rw [← hP]
    rw [e] at hn
    cases na : nullM a with
    | false =>
      have := h9 na
      rw [na] at h12
      simp at h12
      clear h6 h7 h8 h9 h10 h11 h3
      omega
    | true =>
      cases nb : nullM b with
      | false =>
        have q1 := h6 na
        have q2 := h10 nb
        rw [na, nb] at h12
        simp at h12
        clear h6 h7 h8 h9 h10 h11 h3 h4
        omega
      | true =>
        have q1 := h6 na
        have q2 := h7 nb
        rw [na, nb] at hn h12
        have nc : nullM c = false := by simpa using hn.symm
        have q3 := h11 nc
        simp at h12
        clear h6 h7 h8 h9 h10 h11 h3 h4 h5
        omega
  · obtain ⟨P2, P3, D1, D2, D3, P, hP, h1, h2, h3, h4, h5, h6, h7, h8, h9, h10, h11, h12⟩ := key R
    rw [← hP]
    rw [e] at hn
    obtain ⟨na, nb, nc⟩ : nullM a = true ∧ nullM b = true ∧ nullM c = true := by simpa using hn.symm
    have q1 := h6 na
    have q2 := h7 nb
    have q3 := h8 nc
    rw [na, nb] at h12
    simp at h12
    clear h6 h7 h8 h9 h10 h11 h3 h4 h5
    omega

theorem lv2_any {t : RT} (h : Lv 17 37042969165 227 36852477422 222 t) (R : List RT) : 1024 * Del t R ≤ 37042969165 + 227 * Psi R := by
  cases e : nullM t with
  | true => have := h.nu e R; omega
  | false => have := h.nn e R; omega
theorem lv2_up {t : RT} (h : Lv 17 37042969165 227 36852477422 222 t) : Lv 53 340608368686 830 339936650648 821 t :=
  ⟨h.good, by have := h.sz; omega, fun e R => by have := h.nn e R; omega, fun e R => by have := h.nu e R; omega⟩
theorem lv2_star {t : RT} (h : Lv 17 37042969165 227 36852477422 222 t) : Lv 53 340608368686 830 339936650648 821 (starM t) := by
  unfold starM
  split
  · refine ⟨good_empty, by show (RT.mk 1 W4.zero []).sz ≤ _; rw [sz_mk]; simp, fun e => by have e : nullM (.mk 1 W4.zero []) = false := e; rw [null_mk] at e; simp at e, fun _ R => ?_⟩
    have : ∀ j, Dm j emptyM R = 0 := fun j => by
      show Dm j (.mk 1 W4.zero []) R = 0
      unfold Dm
      rw [dl_mk]
      rfl
    unfold Del
    rw [this, this, this, this, this, this]
    omega
  · split
    · exact lv2_up h
    · rename_i h1 h5
      have hgs : good (.mk 5 W4.zero [t]) := by have := good_star h.good; unfold starM at this; rw [if_neg h1, if_neg h5] at this; exact this
      have hsz : (RT.mk 5 W4.zero [t]).sz ≤ 18 := by have := h.sz; rw [sz_mk]; simp; omega
      refine ⟨hgs, by omega, fun e => by rw [null_mk] at e; simp at e, fun _ R => ?_⟩
      have h2 := lv2_any h (.mk 5 W4.zero [t] :: R)
      have h3 := psi_seq hgs R
      have h4 : seqOf (.mk 5 W4.zero [t]) = [.mk 5 W4.zero [t]] := rfl
      rw [h4] at h3
      have h3 : Psi (.mk 5 W4.zero [t] :: R) ≤ _ := h3
      have h5 := del_star W4.zero t R
      omega
theorem lv2_cat3 {a b c : RT} (ha : Lv 17 37042969165 227 36852477422 222 a) (hb : Lv 17 37042969165 227 36852477422 222 b) (hc : Lv 17 37042969165 227 36852477422 222 c) : Lv 53 340608368686 830 339936650648 821 (catM [a, b, c]) := by
  have hg : ∀ t ∈ [a, b, c], good t := by
    intro t ht
    simp at ht
    rcases ht with rfl | rfl | rfl
    · exact ha.good
    · exact hb.good
    · exact hc.good
  have hs := sz_cat [a, b, c]
  have s1 := ha.sz
  have s2 := hb.sz
  have s3 := hc.sz
  simp only [List.map_cons, List.map_nil, List.sum_cons, List.sum_nil] at hs
  have hn := null_cat hg
  simp only [List.all_cons, List.all_nil, Bool.and_true] at hn
  have key : ∀ R, ∃ P2 P3 D1 D2 D3 P : Nat, P = Psi R ∧ P3 ≤ 285212672 + D3 + P ∧ P2 ≤ 285212672 + D2 + P3 ∧ 1024 * D1 ≤ 37042969165 + 227 * P2 ∧ 1024 * D2 ≤ 37042969165 + 227 * P3 ∧ 1024 * D3 ≤ 37042969165 + 227 * P ∧ (nullM a = true → 1024 * D1 ≤ 36852477422 + 222 * P2) ∧ (nullM b = true → 1024 * D2 ≤ 36852477422 + 222 * P3) ∧ (nullM c = true → 1024 * D3 ≤ 36852477422 + 222 * P) ∧
      (nullM a = false → 1024 * D1 ≤ 37042969165 + 227 * P2) ∧ (nullM b = false → 1024 * D2 ≤ 37042969165 + 227 * P3) ∧ (nullM c = false → 1024 * D3 ≤ 37042969165 + 227 * P) ∧ Del (catM [a, b, c]) R ≤ D1 + (if nullM a then D2 + (if nullM b then D3 else 0) else 0) := fun R => by
    refine ⟨Psi (fl [b, c] ++ R), Psi (fl [c] ++ R), Del a (fl [b, c] ++ R), Del b (fl [c] ++ R), Del c R, Psi R, rfl, ?_, ?_, lv2_any ha _, lv2_any hb _, lv2_any hc _, fun e => ha.nu e _, fun e => hb.nu e _, fun e => hc.nu e _, fun e => ha.nn e _, fun e => hb.nn e _, fun e => hc.nn e _, ?_⟩
    · have h := psi_seq hc.good R
      have e : fl [c] ++ R = seqOf c ++ R := by simp [fl]
      rw [e]
      omega
    · have h := psi_seq hb.good (fl [c] ++ R)
      have e : fl [b, c] ++ R = seqOf b ++ (fl [c] ++ R) := by simp [fl]
      rw [e]
      omega
    · have h := del_cat hg R
      simp only [DelL] at h
      have e : Del c (fl [] ++ R) = Del c R := by simp [fl]
      rw [e] at h
      revert h
      cases nullM a <;> cases nullM b <;> cases nullM c <;> (intro h; simp at h ⊢; omega)
  refine ⟨good_cat hg, by omega, fun e R => ?_, fun e R => ?_⟩
  · obtain ⟨P2, P3, D1, D2, D3, P, hP, h1, h2, h3, h4, h5, h6, h7, h8, h9, h10, h11, h12⟩ := key R
    rw [← hP]
    rw [e] at hn
    cases na : nullM a with
    | false =>
      have := h9 na
      rw [na] at h12
      simp at h12
      clear h6 h7 h8 h9 h10 h11 h3
      omega
    | true =>
      cases nb : nullM b with
      | false =>
        have q1 := h6 na
        have q2 := h10 nb
        rw [na, nb] at h12
        simp at h12
        clear h6 h7 h8 h9 h10 h11 h3 h4
        omega
      | true =>
        have q1 := h6 na
        have q2 := h7 nb
        rw [na, nb] at hn h12
        have nc : nullM c = false := by simpa using hn.symm
        have q3 := h11 nc
        simp at h12
        clear h6 h7 h8 h9 h10 h11 h3 h4 h5
        omega
  · obtain ⟨P2, P3, D1, D2, D3, P, hP, h1, h2, h3, h4, h5, h6, h7, h8, h9, h10, h11, h12⟩ := key R
    rw [← hP]
    rw [e] at hn
    obtain ⟨na, nb, nc⟩ : nullM a = true ∧ nullM b = true ∧ nullM c = true := by simpa using hn.symm
    have q1 := h6 na
    have q2 := h7 nb
    have q3 := h8 nc
    rw [na, nb] at h12
    simp at h12
    clear h6 h7 h8 h9 h10 h11 h3 h4 h5
    omega

theorem lv3_any {t : RT} (h : Lv 53 340608368686 830 339936650648 821 t) (R : List RT) : 1024 * Del t R ≤ 340608368686 + 830 * Psi R := by
  cases e : nullM t with
  | true => have := h.nu e R; omega
  | false => have := h.nn e R; omega
theorem lv3_up {t : RT} (h : Lv 53 340608368686 830 339936650648 821 t) : Lv 161 4842888568831 5008 5766931476091 4966 t :=
  ⟨h.good, by have := h.sz; omega, fun e R => by have := h.nn e R; omega, fun e R => by have := h.nu e R; omega⟩
theorem lv3_star {t : RT} (h : Lv 53 340608368686 830 339936650648 821 t) : Lv 161 4842888568831 5008 5766931476091 4966 (starM t) := by
  unfold starM
  split
  · refine ⟨good_empty, by show (RT.mk 1 W4.zero []).sz ≤ _; rw [sz_mk]; simp, fun e => by have e : nullM (.mk 1 W4.zero []) = false := e; rw [null_mk] at e; simp at e, fun _ R => ?_⟩
    have : ∀ j, Dm j emptyM R = 0 := fun j => by
      show Dm j (.mk 1 W4.zero []) R = 0
      unfold Dm
      rw [dl_mk]
      rfl
    unfold Del
    rw [this, this, this, this, this, this]
    omega
  · split
    · exact lv3_up h
    · rename_i h1 h5
      have hgs : good (.mk 5 W4.zero [t]) := by have := good_star h.good; unfold starM at this; rw [if_neg h1, if_neg h5] at this; exact this
      have hsz : (RT.mk 5 W4.zero [t]).sz ≤ 54 := by have := h.sz; rw [sz_mk]; simp; omega
      refine ⟨hgs, by omega, fun e => by rw [null_mk] at e; simp at e, fun _ R => ?_⟩
      have h2 := lv3_any h (.mk 5 W4.zero [t] :: R)
      have h3 := psi_seq hgs R
      have h4 : seqOf (.mk 5 W4.zero [t]) = [.mk 5 W4.zero [t]] := rfl
      rw [h4] at h3
      have h3 : Psi (.mk 5 W4.zero [t] :: R) ≤ _ := h3
      have h5 := del_star W4.zero t R
      omega
theorem lv3_cat3 {a b c : RT} (ha : Lv 53 340608368686 830 339936650648 821 a) (hb : Lv 53 340608368686 830 339936650648 821 b) (hc : Lv 53 340608368686 830 339936650648 821 c) : Lv 161 4842888568831 5008 5766931476091 4966 (catM [a, b, c]) := by
  have hg : ∀ t ∈ [a, b, c], good t := by
    intro t ht
    simp at ht
    rcases ht with rfl | rfl | rfl
    · exact ha.good
    · exact hb.good
    · exact hc.good
  have hs := sz_cat [a, b, c]
  have s1 := ha.sz
  have s2 := hb.sz
  have s3 := hc.sz
  simp only [List.map_cons, List.map_nil, List.sum_cons, List.sum_nil] at hs
  have hn := null_cat hg
  simp only [List.all_cons, List.all_nil, Bool.and_true] at hn
  have key : ∀ R, ∃ P2 P3 D1 D2 D3 P : Nat, P = Psi R ∧ P3 ≤ 889192448 + D3 + P ∧ P2 ≤ 889192448 + D2 + P3 ∧ 1024 * D1 ≤ 340608368686 + 830 * P2 ∧ 1024 * D2 ≤ 340608368686 + 830 * P3 ∧ 1024 * D3 ≤ 340608368686 + 830 * P ∧ (nullM a = true → 1024 * D1 ≤ 339936650648 + 821 * P2) ∧ (nullM b = true → 1024 * D2 ≤ 339936650648 + 821 * P3) ∧ (nullM c = true → 1024 * D3 ≤ 339936650648 + 821 * P) ∧
      (nullM a = false → 1024 * D1 ≤ 340608368686 + 830 * P2) ∧ (nullM b = false → 1024 * D2 ≤ 340608368686 + 830 * P3) ∧ (nullM c = false → 1024 * D3 ≤ 340608368686 + 830 * P) ∧ Del (catM [a, b, c]) R ≤ D1 + (if nullM a then D2 + (if nullM b then D3 else 0) else 0) := fun R => by
    refine ⟨Psi (fl [b, c] ++ R), Psi (fl [c] ++ R), Del a (fl [b, c] ++ R), Del b (fl [c] ++ R), Del c R, Psi R, rfl, ?_, ?_, lv3_any ha _, lv3_any hb _, lv3_any hc _, fun e => ha.nu e _, fun e => hb.nu e _, fun e => hc.nu e _, fun e => ha.nn e _, fun e => hb.nn e _, fun e => hc.nn e _, ?_⟩
    · have h := psi_seq hc.good R
      have e : fl [c] ++ R = seqOf c ++ R := by simp [fl]
      rw [e]
      omega
    · have h := psi_seq hb.good (fl [c] ++ R)
      have e : fl [b, c] ++ R = seqOf b ++ (fl [c] ++ R) := by simp [fl]
      rw [e]
      omega
    · have h := del_cat hg R
      simp only [DelL] at h
      have e : Del c (fl [] ++ R) = Del c R := by simp [fl]
      rw [e] at h
      revert h
      cases nullM a <;> cases nullM b <;> cases nullM c <;> (intro h; simp at h ⊢; omega)
  refine ⟨good_cat hg, by omega, fun e R => ?_, fun e R => ?_⟩
  · obtain ⟨P2, P3, D1, D2, D3, P, hP, h1, h2, h3, h4, h5, h6, h7, h8, h9, h10, h11, h12⟩ := key R
    rw [← hP]
    rw [e] at hn
    cases na : nullM a with
    | false =>
      have := h9 na
      rw [na] at h12
      simp at h12
      clear h6 h7 h8 h9 h10 h11 h3
      omega
    | true =>
      cases nb : nullM b with
      | false =>
        have q1 := h6 na
        have q2 := h10 nb
        rw [na, nb] at h12
        simp at h12
        clear h6 h7 h8 h9 h10 h11 h3 h4
        omega
      | true =>
        have q1 := h6 na
        have q2 := h7 nb
        rw [na, nb] at hn h12
        have nc : nullM c = false := by simpa using hn.symm
        have q3 := h11 nc
        simp at h12
        clear h6 h7 h8 h9 h10 h11 h3 h4 h5
        omega
  · obtain ⟨P2, P3, D1, D2, D3, P, hP, h1, h2, h3, h4, h5, h6, h7, h8, h9, h10, h11, h12⟩ := key R
    rw [← hP]
    rw [e] at hn
    obtain ⟨na, nb, nc⟩ : nullM a = true ∧ nullM b = true ∧ nullM c = true := by simpa using hn.symm
    have q1 := h6 na
    have q2 := h7 nb
    have q3 := h8 nc
    rw [na, nb] at h12
    simp at h12
    clear h6 h7 h8 h9 h10 h11 h3 h4 h5
    omega
theorem lv0_cat1 {a : RT} (ha : Lv 1 3435973632 64 0 0 a) : Lv 5 6093484621 73 5955687767 69 (catM [a]) := by
  have hg : ∀ t ∈ [a], good t := by
    intro t ht
    simp at ht
    subst ht
    exact ha.good
  have hs := sz_cat [a]
  have s1 := ha.sz
  simp only [List.map_cons, List.map_nil, List.sum_cons, List.sum_nil] at hs
  have hn := null_cat hg
  simp only [List.all_cons, List.all_nil, Bool.and_true] at hn
  have key : ∀ R, Del (catM [a]) R ≤ Del a R := fun R => by
    have h := del_cat hg R
    simp only [DelL] at h
    have e : Del a (fl [] ++ R) = Del a R := by simp [fl]
    rw [e] at h
    revert h
    cases nullM a <;> (intro h; simp at h ⊢; omega)
  refine ⟨good_cat hg, by omega, fun e R => ?_, fun e R => ?_⟩
  · rw [hn] at e
    have h1 := ha.nn e R
    have h2 := key R
    omega
  · rw [hn] at e
    have h1 := ha.nu e R
    have h2 := key R
    omega
theorem lv0_cat2 {b c : RT} (hb : Lv 1 3435973632 64 0 0 b) (hc : Lv 1 3435973632 64 0 0 c) : Lv 5 6093484621 73 5955687767 69 (catM [b, c]) := by
  have hg : ∀ t ∈ [b, c], good t := by
    intro t ht
    simp at ht
    rcases ht with rfl | rfl
    · exact hb.good
    · exact hc.good
  have hs := sz_cat [b, c]
  have s2 := hb.sz
  have s3 := hc.sz
  simp only [List.map_cons, List.map_nil, List.sum_cons, List.sum_nil] at hs
  have hn := null_cat hg
  simp only [List.all_cons, List.all_nil, Bool.and_true] at hn
  have key : ∀ R, ∃ P3 D2 D3 P : Nat, P = Psi R ∧ P3 ≤ 16777216 + D3 + P ∧ 1024 * D2 ≤ 3435973632 + 64 * P3 ∧ 1024 * D3 ≤ 3435973632 + 64 * P ∧ (nullM b = true → 1024 * D2 ≤ 0 + 0 * P3) ∧ (nullM c = true → 1024 * D3 ≤ 0 + 0 * P) ∧
      (nullM b = false → 1024 * D2 ≤ 3435973632 + 64 * P3) ∧ (nullM c = false → 1024 * D3 ≤ 3435973632 + 64 * P) ∧ Del (catM [b, c]) R ≤ D2 + (if nullM b then D3 else 0) := fun R => by
    refine ⟨Psi (fl [c] ++ R), Del b (fl [c] ++ R), Del c R, Psi R, rfl, ?_, lv0_any hb _, lv0_any hc _, fun e => hb.nu e _, fun e => hc.nu e _, fun e => hb.nn e _, fun e => hc.nn e _, ?_⟩
    · have h := psi_seq hc.good R
      have e : fl [c] ++ R = seqOf c ++ R := by simp [fl]
      rw [e]
      omega
    · have h := del_cat hg R
      simp only [DelL] at h
      have e : Del c (fl [] ++ R) = Del c R := by simp [fl]
      rw [e] at h
      revert h
      cases nullM b <;> cases nullM c <;> (intro h; simp at h ⊢; omega)
  refine ⟨good_cat hg, by omega, fun e R => ?_, fun e R => ?_⟩
  · obtain ⟨P3, D2, D3, P, hP, h1, h4, h5, h7, h8, h10, h11, h12⟩ := key R
    rw [← hP]
    rw [e] at hn
    cases nb : nullM b with
    | false =>
      have q2 := h10 nb
      rw [nb] at h12
      simp at h12
      clear h7 h8 h10 h11 h4
      omega
    | true =>
      have q2 := h7 nb
      rw [nb] at hn h12
      have nc : nullM c = false := by simpa using hn.symm
      have q3 := h11 nc
      simp at h12
      clear h7 h8 h10 h11 h4 h5
      omega
  · obtain ⟨P3, D2, D3, P, hP, h1, h4, h5, h7, h8, h10, h11, h12⟩ := key R
    rw [← hP]
    rw [e] at hn
    obtain ⟨nb, nc⟩ : nullM b = true ∧ nullM c = true := by simpa using hn.symm
    have q2 := h7 nb
    have q3 := h8 nc
    rw [nb] at h12
    simp at h12
    clear h7 h8 h10 h11 h4 h5
    omega
theorem lv0_cats {l : List RT} (h : ∀ t ∈ l, Lv 1 3435973632 64 0 0 t) (h1 : 1 ≤ l.length) (h3 : l.length ≤ 3) : Lv 5 6093484621 73 5955687767 69 (catM l) := by
  match l with
  | [] => simp at h1
  | [a] => exact lv0_cat1 (h a (by simp))
  | [a, b] => exact lv0_cat2 (h a (by simp)) (h b (by simp))
  | [a, b, c] => exact lv0_cat3 (h a (by simp)) (h b (by simp)) (h c (by simp))
  | _ :: _ :: _ :: _ :: _ => simp at h3
theorem lv0_eithers {l : List RT} (h : ∀ t ∈ l, Lv 1 3435973632 64 0 0 t) (hk : ∀ t ∈ l, t.kind ≤ 2 ∧ 0 ≤ t.kind) (h3 : l.length ≤ 3) : Lv 5 6093484621 73 5955687767 69 (eitherM l) := by
  have hs := sz_either l
  have hs2 : (l.map RT.sz).sum ≤ l.length * 1 := by
    clear hs h3 hk
    induction l with
    | nil => simp
    | cons a l ih =>
      have h1 := ih fun t ht => h t (by simp [ht])
      have h2 := (h a (by simp)).sz
      simp only [List.map_cons, List.sum_cons, List.length_cons]
      omega
  refine ⟨good_either fun t ht => (h t ht).good, by omega, fun _ R => ?_, fun _ R => ?_⟩
  · have := del_leaves hk R; omega
  · have := del_leaves hk R; omega
theorem lv1_cat1 {a : RT} (ha : Lv 5 6093484621 73 5955687767 69 a) : Lv 17 37042969165 227 36852477422 222 (catM [a]) := by
  have hg : ∀ t ∈ [a], good t := by
    intro t ht
    simp at ht
    subst ht
    exact ha.good
  have hs := sz_cat [a]
  have s1 := ha.sz
  simp only [List.map_cons, List.map_nil, List.sum_cons, List.sum_nil] at hs
  have hn := null_cat hg
  simp only [List.all_cons, List.all_nil, Bool.and_true] at hn
  have key : ∀ R, Del (catM [a]) R ≤ Del a R := fun R => by
    have h := del_cat hg R
    simp only [DelL] at h
    have e : Del a (fl [] ++ R) = Del a R := by simp [fl]
    rw [e] at h
    revert h
    cases nullM a <;> (intro h; simp at h ⊢; omega)
  refine ⟨good_cat hg, by omega, fun e R => ?_, fun e R => ?_⟩
  · rw [hn] at e
    have h1 := ha.nn e R
    have h2 := key R
    omega
  · rw [hn] at e
    have h1 := ha.nu e R
    have h2 := key R
    omega
theorem lv1_cat2 {b c : RT} (hb : Lv 5 6093484621 73 5955687767 69 b) (hc : Lv 5 6093484621 73 5955687767 69 c) : Lv 17 37042969165 227 36852477422 222 (catM [b, c]) := by
  have hg : ∀ t ∈ [b, c], good t := by
    intro t ht
    simp at ht
    rcases ht with rfl | rfl
    · exact hb.good
    · exact hc.good
  have hs := sz_cat [b, c]
  have s2 := hb.sz
  have s3 := hc.sz
  simp only [List.map_cons, List.map_nil, List.sum_cons, List.sum_nil] at hs
  have hn := null_cat hg
  simp only [List.all_cons, List.all_nil, Bool.and_true] at hn
  have key : ∀ R, ∃ P3 D2 D3 P : Nat, P = Psi R ∧ P3 ≤ 83886080 + D3 + P ∧ 1024 * D2 ≤ 6093484621 + 73 * P3 ∧ 1024 * D3 ≤ 6093484621 + 73 * P ∧ (nullM b = true → 1024 * D2 ≤ 5955687767 + 69 * P3) ∧ (nullM c = true → 1024 * D3 ≤ 5955687767 + 69 * P) ∧
      (nullM b = false → 1024 * D2 ≤ 6093484621 + 73 * P3) ∧ (nullM c = false → 1024 * D3 ≤ 6093484621 + 73 * P) ∧ Del (catM [b, c]) R ≤ D2 + (if nullM b then D3 else 0) := fun R => by
    refine ⟨Psi (fl [c] ++ R), Del b (fl [c] ++ R), Del c R, Psi R, rfl, ?_, lv1_any hb _, lv1_any hc _, fun e => hb.nu e _, fun e => hc.nu e _, fun e => hb.nn e _, fun e => hc.nn e _, ?_⟩
    · have h := psi_seq hc.good R
      have e : fl [c] ++ R = seqOf c ++ R := by simp [fl]
      rw [e]
      omega
    · have h := del_cat hg R
      simp only [DelL] at h
      have e : Del c (fl [] ++ R) = Del c R := by simp [fl]
      rw [e] at h
      revert h
      cases nullM b <;> cases nullM c <;> (intro h; simp at h ⊢; omega)
  refine ⟨good_cat hg, by omega, fun e R => ?_, fun e R => ?_⟩
  · obtain ⟨P3, D2, D3, P, hP, h1, h4, h5, h7, h8, h10, h11, h12⟩ := key R
    rw [← hP]
    rw [e] at hn
    cases nb : nullM b with
    | false =>
      have q2 := h10 nb
      rw [nb] at h12
      simp at h12
      clear h7 h8 h10 h11 h4
      omega
    | true =>
      have q2 := h7 nb
      rw [nb] at hn h12
      have nc : nullM c = false := by simpa using hn.symm
      have q3 := h11 nc
      simp at h12
      clear h7 h8 h10 h11 h4 h5
      omega
  · obtain ⟨P3, D2, D3, P, hP, h1, h4, h5, h7, h8, h10, h11, h12⟩ := key R
    rw [← hP]
    rw [e] at hn
    obtain ⟨nb, nc⟩ : nullM b = true ∧ nullM c = true := by simpa using hn.symm
    have q2 := h7 nb
    have q3 := h8 nc
    rw [nb] at h12
    simp at h12
    clear h7 h8 h10 h11 h4 h5
    omega
theorem lv1_cats {l : List RT} (h : ∀ t ∈ l, Lv 5 6093484621 73 5955687767 69 t) (h1 : 1 ≤ l.length) (h3 : l.length ≤ 3) : Lv 17 37042969165 227 36852477422 222 (catM l) := by
  match l with
  | [] => simp at h1
  | [a] => exact lv1_cat1 (h a (by simp))
  | [a, b] => exact lv1_cat2 (h a (by simp)) (h b (by simp))
  | [a, b, c] => exact lv1_cat3 (h a (by simp)) (h b (by simp)) (h c (by simp))
  | _ :: _ :: _ :: _ :: _ => simp at h3
theorem lv1_eithers {l : List RT} (h : ∀ t ∈ l, Lv 5 6093484621 73 5955687767 69 t) (h3 : l.length ≤ 3) : Lv 17 37042969165 227 36852477422 222 (eitherM l) := by
  have hs := sz_either l
  have hs2 : (l.map RT.sz).sum ≤ l.length * 5 := by
    clear hs h3
    induction l with
    | nil => simp
    | cons a l ih =>
      have h1 := ih fun t ht => h t (by simp [ht])
      have h2 := (h a (by simp)).sz
      simp only [List.map_cons, List.sum_cons, List.length_cons]
      omega
  have hd : ∀ R, 1024 * Del (eitherM l) R ≤ 3 * (6093484621 + 73 * Psi R) := fun R => by
    have h1 := del_either l R
    have h2 : 1024 * (l.map fun x => Del x R).sum ≤ l.length * (6093484621 + 73 * Psi R) := by
      clear h1 hs hs2 h3
      induction l with
      | nil => simp
      | cons a l ih =>
        have i1 := ih fun t ht => h t (by simp [ht])
        have i2 := lv1_any (h a (by simp)) R
        simp only [List.map_cons, List.sum_cons, List.length_cons, Nat.add_mul, Nat.one_mul]
        omega
    have h4 : l.length * (6093484621 + 73 * Psi R) ≤ 3 * (6093484621 + 73 * Psi R) := Nat.mul_le_mul_right _ h3
    omega
  refine ⟨good_either fun t ht => (h t ht).good, by omega, fun _ R => ?_, fun _ R => ?_⟩
  · have := hd R; omega
  · have := hd R; omega
theorem lv2_cat1 {a : RT} (ha : Lv 17 37042969165 227 36852477422 222 a) : Lv 53 340608368686 830 339936650648 821 (catM [a]) := by
  have hg : ∀ t ∈ [a], good t := by
    intro t ht
    simp at ht
    subst ht
    exact ha.good
  have hs := sz_cat [a]
  have s1 := ha.sz
  simp only [List.map_cons, List.map_nil, List.sum_cons, List.sum_nil] at hs
  have hn := null_cat hg
  simp only [List.all_cons, List.all_nil, Bool.and_true] at hn
  have key : ∀ R, Del (catM [a]) R ≤ Del a R := fun R => by
    have h := del_cat hg R
    simp only [DelL] at h
    have e : Del a (fl [] ++ R) = Del a R := by simp [fl]
    rw [e] at h
    revert h
    cases nullM a <;> (intro h; simp at h ⊢; omega)
  refine ⟨good_cat hg, by omega, fun e R => ?_, fun e R => ?_⟩
  · rw [hn] at e
    have h1 := ha.nn e R
    have h2 := key R
    omega
  · rw [hn] at e
    have h1 := ha.nu e R
    have h2 := key R
    omega
theorem lv2_cat2 {b c : RT} (hb : Lv 17 37042969165 227 36852477422 222 b) (hc : Lv 17 37042969165 227 36852477422 222 c) : Lv 53 340608368686 830 339936650648 821 (catM [b, c]) := by
  have hg : ∀ t ∈ [b, c], good t := by
    intro t ht
    simp at ht
    rcases ht with rfl | rfl
    · exact hb.good
    · exact hc.good
  have hs := sz_cat [b, c]
  have s2 := hb.sz
  have s3 := hc.sz
  simp only [List.map_cons, List.map_nil, List.sum_cons, List.sum_nil] at hs
  have hn := null_cat hg
  simp only [List.all_cons, List.all_nil, Bool.and_true] at hn
  have key : ∀ R, ∃ P3 D2 D3 P : Nat, P = Psi R ∧ P3 ≤ 285212672 + D3 + P ∧ 1024 * D2 ≤ 37042969165 + 227 * P3 ∧ 1024 * D3 ≤ 37042969165 + 227 * P ∧ (nullM b = true → 1024 * D2 ≤ 36852477422 + 222 * P3) ∧ (nullM c = true → 1024 * D3 ≤ 36852477422 + 222 * P) ∧
      (nullM b = false → 1024 * D2 ≤ 37042969165 + 227 * P3) ∧ (nullM c = false → 1024 * D3 ≤ 37042969165 + 227 * P) ∧ Del (catM [b, c]) R ≤ D2 + (if nullM b then D3 else 0) := fun R => by
    refine ⟨Psi (fl [c] ++ R), Del b (fl [c] ++ R), Del c R, Psi R, rfl, ?_, lv2_any hb _, lv2_any hc _, fun e => hb.nu e _, fun e => hc.nu e _, fun e => hb.nn e _, fun e => hc.nn e _, ?_⟩
    · have h := psi_seq hc.good R
      have e : fl [c] ++ R = seqOf c ++ R := by simp [fl]
      rw [e]
      omega
    · have h := del_cat hg R
      simp only [DelL] at h
      have e : Del c (fl [] ++ R) = Del c R := by simp [fl]
      rw [e] at h
      revert h
      cases nullM b <;> cases nullM c <;> (intro h; simp at h ⊢; omega)
  refine ⟨good_cat hg, by omega, fun e R => ?_, fun e R => ?_⟩
  · obtain ⟨P3, D2, D3, P, hP, h1, h4, h5, h7, h8, h10, h11, h12⟩ := key R
    rw [← hP]
    rw [e] at hn
    cases nb : nullM b with
    | false =>
      have q2 := h10 nb
      rw [nb] at h12
      simp at h12
      clear h7 h8 h10 h11 h4
      omega
    | true =>
      have q2 := h7 nb
      rw [nb] at hn h12
      have nc : nullM c = false := by simpa using hn.symm
      have q3 := h11 nc
      simp at h12
      clear h7 h8 h10 h11 h4 h5
      omega
  · obtain ⟨P3, D2, D3, P, hP, h1, h4, h5, h7, h8, h10, h11, h12⟩ := key R
    rw [← hP]
    rw [e] at hn
    obtain ⟨nb, nc⟩ : nullM b = true ∧ nullM c = true := by simpa using hn.symm
    have q2 := h7 nb
    have q3 := h8 nc
    rw [nb] at h12
    simp at h12
    clear h7 h8 h10 h11 h4 h5
    omega
theorem lv2_cats {l : List RT} (h : ∀ t ∈ l, Lv 17 37042969165 227 36852477422 222 t) (h1 : 1 ≤ l.length) (h3 : l.length ≤ 3) : Lv 53 340608368686 830 339936650648 821 (catM l) := by
  match l with
  | [] => simp at h1
  | [a] => exact lv2_cat1 (h a (by simp))
  | [a, b] => exact lv2_cat2 (h a (by simp)) (h b (by simp))
  | [a, b, c] => exact lv2_cat3 (h a (by simp)) (h b (by simp)) (h c (by simp))
  | _ :: _ :: _ :: _ :: _ => simp at h3
theorem lv2_eithers {l : List RT} (h : ∀ t ∈ l, Lv 17 37042969165 227 36852477422 222 t) (h3 : l.length ≤ 3) : Lv 53 340608368686 830 339936650648 821 (eitherM l) := by
  have hs := sz_either l
  have hs2 : (l.map RT.sz).sum ≤ l.length * 17 := by
    clear hs h3
    induction l with
    | nil => simp
    | cons a l ih =>
      have h1 := ih fun t ht => h t (by simp [ht])
      have h2 := (h a (by simp)).sz
      simp only [List.map_cons, List.sum_cons, List.length_cons]
      omega
  have hd : ∀ R, 1024 * Del (eitherM l) R ≤ 3 * (37042969165 + 227 * Psi R) := fun R => by
    have h1 := del_either l R
    have h2 : 1024 * (l.map fun x => Del x R).sum ≤ l.length * (37042969165 + 227 * Psi R) := by
      clear h1 hs hs2 h3
      induction l with
      | nil => simp
      | cons a l ih =>
        have i1 := ih fun t ht => h t (by simp [ht])
        have i2 := lv2_any (h a (by simp)) R
        simp only [List.map_cons, List.sum_cons, List.length_cons, Nat.add_mul, Nat.one_mul]
        omega
    have h4 : l.length * (37042969165 + 227 * Psi R) ≤ 3 * (37042969165 + 227 * Psi R) := Nat.mul_le_mul_right _ h3
    omega
  refine ⟨good_either fun t ht => (h t ht).good, by omega, fun _ R => ?_, fun _ R => ?_⟩
  · have := hd R; omega
  · have := hd R; omega
theorem lv3_cat1 {a : RT} (ha : Lv 53 340608368686 830 339936650648 821 a) : Lv 161 4842888568831 5008 5766931476091 4966 (catM [a]) := by
  have hg : ∀ t ∈ [a], good t := by
    intro t ht
    simp at ht
    subst ht
    exact ha.good
  have hs := sz_cat [a]
  have s1 := ha.sz
  simp only [List.map_cons, List.map_nil, List.sum_cons, List.sum_nil] at hs
  have hn := null_cat hg
  simp only [List.all_cons, List.all_nil, Bool.and_true] at hn
  have key : ∀ R, Del (catM [a]) R ≤ Del a R := fun R => by
    have h := del_cat hg R
    simp only [DelL] at h
    have e : Del a (fl [] ++ R) = Del a R := by simp [fl]
    rw [e] at h
    revert h
    cases nullM a <;> (intro h; simp at h ⊢; omega)
  refine ⟨good_cat hg, by omega, fun e R => ?_, fun e R => ?_⟩
  · rw [hn] at e
    have h1 := ha.nn e R
    have h2 := key R
    omega
  · rw [hn] at e
    have h1 := ha.nu e R
    have h2 := key R
    omega
theorem lv3_cat2 {b c : RT} (hb : Lv 53 340608368686 830 339936650648 821 b) (hc : Lv 53 340608368686 830 339936650648 821 c) : Lv 161 4842888568831 5008 5766931476091 4966 (catM [b, c]) := by
  have hg : ∀ t ∈ [b, c], good t := by
    intro t ht
    simp at ht
    rcases ht with rfl | rfl
    · exact hb.good
    · exact hc.good
  have hs := sz_cat [b, c]
  have s2 := hb.sz
  have s3 := hc.sz
  simp only [List.map_cons, List.map_nil, List.sum_cons, List.sum_nil] at hs
  have hn := null_cat hg
  simp only [List.all_cons, List.all_nil, Bool.and_true] at hn
  have key : ∀ R, ∃ P3 D2 D3 P : Nat, P = Psi R ∧ P3 ≤ 889192448 + D3 + P ∧ 1024 * D2 ≤ 340608368686 + 830 * P3 ∧ 1024 * D3 ≤ 340608368686 + 830 * P ∧ (nullM b = true → 1024 * D2 ≤ 339936650648 + 821 * P3) ∧ (nullM c = true → 1024 * D3 ≤ 339936650648 + 821 * P) ∧
      (nullM b = false → 1024 * D2 ≤ 340608368686 + 830 * P3) ∧ (nullM c = false → 1024 * D3 ≤ 340608368686 + 830 * P) ∧ Del (catM [b, c]) R ≤ D2 + (if nullM b then D3 else 0) := fun R => by
    refine ⟨Psi (fl [c] ++ R), Del b (fl [c] ++ R), Del c R, Psi R, rfl, ?_, lv3_any hb _, lv3_any hc _, fun e => hb.nu e _, fun e => hc.nu e _, fun e => hb.nn e _, fun e => hc.nn e _, ?_⟩
    · have h := psi_seq hc.good R
      have e : fl [c] ++ R = seqOf c ++ R := by simp [fl]
      rw [e]
      omega
    · have h := del_cat hg R
      simp only [DelL] at h
      have e : Del c (fl [] ++ R) = Del c R := by simp [fl]
      rw [e] at h
      revert h
      cases nullM b <;> cases nullM c <;> (intro h; simp at h ⊢; omega)
  refine ⟨good_cat hg, by omega, fun e R => ?_, fun e R => ?_⟩
  · obtain ⟨P3, D2, D3, P, hP, h1, h4, h5, h7, h8, h10, h11, h12⟩ := key R
    rw [← hP]
    rw [e] at hn
    cases nb : nullM b with
    | false =>
      have q2 := h10 nb
      rw [nb] at h12
      simp at h12
      clear h7 h8 h10 h11 h4
      omega
    | true =>
      have q2 := h7 nb
      rw [nb] at hn h12
      have nc : nullM c = false := by simpa using hn.symm
      have q3 := h11 nc
      simp at h12
      clear h7 h8 h10 h11 h4 h5
      omega
  · obtain ⟨P3, D2, D3, P, hP, h1, h4, h5, h7, h8, h10, h11, h12⟩ := key R
    rw [← hP]
    rw [e] at hn
    obtain ⟨nb, nc⟩ : nullM b = true ∧ nullM c = true := by simpa using hn.symm
    have q2 := h7 nb
    have q3 := h8 nc
    rw [nb] at h12
    simp at h12
    clear h7 h8 h10 h11 h4 h5
    omega
theorem lv3_cats {l : List RT} (h : ∀ t ∈ l, Lv 53 340608368686 830 339936650648 821 t) (h1 : 1 ≤ l.length) (h3 : l.length ≤ 3) : Lv 161 4842888568831 5008 5766931476091 4966 (catM l) := by
  match l with
  | [] => simp at h1
  | [a] => exact lv3_cat1 (h a (by simp))
  | [a, b] => exact lv3_cat2 (h a (by simp)) (h b (by simp))
  | [a, b, c] => exact lv3_cat3 (h a (by simp)) (h b (by simp)) (h c (by simp))
  | _ :: _ :: _ :: _ :: _ => simp at h3
theorem lv3_eithers {l : List RT} (h : ∀ t ∈ l, Lv 53 340608368686 830 339936650648 821 t) (h3 : l.length ≤ 3) : Lv 161 4842888568831 5008 5766931476091 4966 (eitherM l) := by
  have hs := sz_either l
  have hs2 : (l.map RT.sz).sum ≤ l.length * 53 := by
    clear hs h3
    induction l with
    | nil => simp
    | cons a l ih =>
      have h1 := ih fun t ht => h t (by simp [ht])
      have h2 := (h a (by simp)).sz
      simp only [List.map_cons, List.sum_cons, List.length_cons]
      omega
  have hd : ∀ R, 1024 * Del (eitherM l) R ≤ 3 * (340608368686 + 830 * Psi R) := fun R => by
    have h1 := del_either l R
    have h2 : 1024 * (l.map fun x => Del x R).sum ≤ l.length * (340608368686 + 830 * Psi R) := by
      clear h1 hs hs2 h3
      induction l with
      | nil => simp
      | cons a l ih =>
        have i1 := ih fun t ht => h t (by simp [ht])
        have i2 := lv3_any (h a (by simp)) R
        simp only [List.map_cons, List.sum_cons, List.length_cons, Nat.add_mul, Nat.one_mul]
        omega
    have h4 : l.length * (340608368686 + 830 * Psi R) ≤ 3 * (340608368686 + 830 * Psi R) := Nat.mul_le_mul_right _ h3
    omega
  refine ⟨good_either fun t ht => (h t ht).good, by omega, fun _ R => ?_, fun _ R => ?_⟩
  · have := hd R; omega
  · have := hd R; omega

theorem leaf_kind (zs : List Int) (k a : Nat) : (leafM zs k a).1.kind ≤ 2 ∧ 0 ≤ (leafM zs k a).1.kind := by
  have h4 := pick4 zs a
  unfold leafM
  split
  · exact ⟨by show (2 : Int) ≤ 2; omega, by show (0 : Int) ≤ 2; omega⟩
  · exact ⟨by show (pickF zs a 4 : Int) / 3 ≤ 2; omega, by show (0 : Int) ≤ (pickF zs a 4 : Int) / 3; omega⟩
theorem leaf_lv (zs : List Int) (k a : Nat) : Lv 1 3435973632 64 0 0 (leafM zs k a).1 := by
  obtain ⟨h1, h2, _⟩ := leaf_facts zs k a
  obtain ⟨q1, q2⟩ := leaf_kind zs k a
  revert h1 h2 q1 q2
  generalize (leafM zs k a).1 = t
  intro h1 h2 q1 q2
  have hz : t.kind = 0 ∨ t.kind = 1 → ∀ R, Del t R = 0 := fun h R => by
    obtain ⟨k, s, kids⟩ := t
    simp only [RT.kind] at h
    have : ∀ j, Dm j (.mk k s kids) R = 0 := fun j => by
      unfold Dm
      rw [dl_mk, if_neg (by omega), if_neg (by omega), if_neg (by omega), if_neg (by omega)]
      rfl
    unfold Del
    rw [this, this, this, this, this, this]
  refine ⟨h1, by omega, fun e R => ?_, fun e R => ?_⟩
  · by_cases h : t.kind = 2
    · have := del_byte h R; omega
    · rw [hz (by omega) R]; omega
  · have hk : t.kind = 0 ∨ t.kind = 1 := by
      by_cases h : t.kind = 2
      · exfalso
        obtain ⟨k, s, kids⟩ := t
        simp only [RT.kind] at h
        subst h
        rw [null_mk] at e
        simp at e
      · omega
    rw [hz hk R]
    omega
theorem re0_lv (zs : List Int) (a : Nat) : Lv 1 3435973632 64 0 0 (reM zs 0 a).1 := by rw [reM]; exact leaf_lv _ _ _
theorem re0_kind (zs : List Int) (a : Nat) : (reM zs 0 a).1.kind ≤ 2 ∧ 0 ≤ (reM zs 0 a).1.kind := by rw [reM]; exact leaf_kind _ _ _
theorem re1_lv (zs : List Int) (a : Nat) : Lv 5 6093484621 73 5955687767 69 (reM zs 1 a).1 := by
  have h3 := pick3 zs (a + 1)
  have hl := listR_len (reM zs 0) (1 + pickF zs (a + 1) 3) (a + 2)
  have hall := listR_all (Q := Lv 1 3435973632 64 0 0) (f := reM zs 0) (fun a => re0_lv zs a) (1 + pickF zs (a + 1) 3) (a + 2)
  have hk := listR_all (Q := fun t => t.kind ≤ 2 ∧ 0 ≤ t.kind) (f := reM zs 0) (fun a => re0_kind zs a) (1 + pickF zs (a + 1) 3) (a + 2)
  rw [reM]
  split
  · exact (lv0_up (leaf_lv zs _ _))
  · split
    · exact lv0_star (re0_lv zs _)
    · split
      · exact lv0_cats hall (by omega) (by omega)
      · exact lv0_eithers hall hk (by omega)
theorem re2_lv (zs : List Int) (a : Nat) : Lv 17 37042969165 227 36852477422 222 (reM zs 2 a).1 := by
  have h3 := pick3 zs (a + 1)
  have hl := listR_len (reM zs 1) (1 + pickF zs (a + 1) 3) (a + 2)
  have hall := listR_all (Q := Lv 5 6093484621 73 5955687767 69) (f := reM zs 1) (fun a => re1_lv zs a) (1 + pickF zs (a + 1) 3) (a + 2)
  rw [reM]
  split
  · exact (lv1_up (lv0_up (leaf_lv zs _ _)))
  · split
    · exact lv1_star (re1_lv zs _)
    · split
      · exact lv1_cats hall (by omega) (by omega)
      · exact lv1_eithers hall (by omega)
theorem re3_lv (zs : List Int) (a : Nat) : Lv 53 340608368686 830 339936650648 821 (reM zs 3 a).1 := by
  have h3 := pick3 zs (a + 1)
  have hl := listR_len (reM zs 2) (1 + pickF zs (a + 1) 3) (a + 2)
  have hall := listR_all (Q := Lv 17 37042969165 227 36852477422 222) (f := reM zs 2) (fun a => re2_lv zs a) (1 + pickF zs (a + 1) 3) (a + 2)
  rw [reM]
  split
  · exact (lv2_up (lv1_up (lv0_up (leaf_lv zs _ _))))
  · split
    · exact lv2_star (re2_lv zs _)
    · split
      · exact lv2_cats hall (by omega) (by omega)
      · exact lv2_eithers hall (by omega)
theorem re4_lv (zs : List Int) (a : Nat) : Lv 161 4842888568831 5008 5766931476091 4966 (reM zs 4 a).1 := by
  have h3 := pick3 zs (a + 1)
  have hl := listR_len (reM zs 3) (1 + pickF zs (a + 1) 3) (a + 2)
  have hall := listR_all (Q := Lv 53 340608368686 830 339936650648 821) (f := reM zs 3) (fun a => re3_lv zs a) (1 + pickF zs (a + 1) 3) (a + 2)
  rw [reM]
  split
  · exact (lv3_up (lv2_up (lv1_up (lv0_up (leaf_lv zs _ _)))))
  · split
    · exact lv3_star (re3_lv zs _)
    · split
      · exact lv3_cats hall (by omega) (by omega)
      · exact lv3_eithers hall (by omega)
theorem lvany4 {t : RT} (h : Lv 161 4842888568831 5008 5766931476091 4966 t) (R : List RT) : 1024 * Del t R ≤ 5766931476091 + 5008 * Psi R := by
  cases e : nullM t with
  | true => have := h.nu e R; omega
  | false => have := h.nn e R; omega
/-- Behind six bytes at most. -/
theorem made_T (zs : List Int) (a : Nat) : good (reM zs 4 a).1 ∧ (∀ k, k < 6 → T k (seqOf (reM zs 4 a).1) ≤ 370000000) ∧ T 6 (seqOf (reM zs 4 a).1) ≤ 5700000000 := by
  have h := re4_lv zs a
  have hg := h.good
  have h1 := lvany4 h []
  have h2 := (seq_sz hg).1
  have h3 := h.sz
  have hp : Psi [] = 0 := rfl
  rw [hp] at h1
  have k := fun j => T_seq j (reM zs 4 a).1 []
  have e : ∀ j, T (j + 1) (seqOf (reM zs 4 a).1) = Dm j (reM zs 4 a).1 [] := fun j => by
    have h4 := k j
    rw [List.append_nil] at h4
    have h5 : T (j + 1) ([] : List RT) = 0 := rfl
    rw [h4, h5]
    simp
  have e0 := e 0
  have e1 := e 1
  have e2 := e 2
  have e3 := e 3
  have e4 := e 4
  have e5 := e 5
  simp only [Nat.zero_add, Nat.reduceAdd] at e0 e1 e2 e3 e4 e5
  unfold Del at h1
  refine ⟨hg, fun j hj => ?_, by omega⟩
  match j, hj with
  | 0, _ => omega
  | 1, _ => omega
  | 2, _ => omega
  | 3, _ => omega
  | 4, _ => omega
  | 5, _ => omega
  | n + 6, hj => omega

end Go.Proofs.YtjeplmnjgdpgbaaGreatDoor

/-! What is left of the expression that layer 8's laws ask first. No condition. -/
namespace Go.Proofs.YtjeplmnjgdpgbaaGreatDoor
open Go.Lib
set_option linter.unusedVariables false
set_option linter.unusedSimpArgs false

theorem let_mem {lo hi : Int} (b : Nat) (hb : b < 256) : (letM lo hi).set.mem b = letF lo hi b := by
  unfold letM
  show (W4.of (letF lo hi)).mem b = _
  have h1 := of_isSet (letF lo hi)
  have h2 := W4.isSet (of_ok (letF lo hi))
  exact h2.inj h1 b hb
noncomputable def awA : RT := letM 97 97
noncomputable def awB : RT := letM 98 98
noncomputable def awR : RT := .mk 3 W4.zero [.mk 5 W4.zero [awA], awB]
theorem aw_star : starM awA = .mk 5 W4.zero [awA] := by
  unfold starM awA letM
  rw [if_neg (by simp [RT.kind]), if_neg (by simp [RT.kind])]
theorem cat_starb (a b : RT) (hb : b.kind = 2) : catM [.mk 5 W4.zero [a], b] = .mk 3 W4.zero [.mk 5 W4.zero [a], b] := by
  have h5 : (RT.mk 5 W4.zero [a]).kind = 5 := rfl
  have hf : flatM 3 [.mk 5 W4.zero [a], b] = [.mk 5 W4.zero [a], b] := flat_same fun t ht => by
    rcases List.mem_cons.1 ht with rfl | ht
    · rw [h5]; decide
    · simp at ht; subst ht; rw [hb]; decide
  unfold catM
  rw [hf]
  simp [h5, hb, someM]
theorem aw_catR : catM [starM awA, awB] = awR := by
  rw [aw_star]
  exact cat_starb awA awB rfl
theorem deriv_two (c : Nat) (s : W4) : derivM c (.mk 2 s []) = if s.mem c = true then emptyM else noneM := by rw [deriv_mk, if_pos rfl]
theorem aw_dA (c : Nat) (hc : c < 256) : derivM c awA = if c = 97 then emptyM else noneM := by
  have h := let_mem (lo := 97) (hi := 97) c hc
  have e : derivM c awA = if (letM 97 97).set.mem c = true then emptyM else noneM := deriv_two c _
  rw [e, h]
  unfold letF
  by_cases q : c = 97
  · subst q; simp
  · rw [if_neg q]
    have : ¬ ((97 : Int) ≤ (c : Int) ∧ (c : Int) ≤ 97) := by omega
    simp [this]
theorem aw_dB (c : Nat) (hc : c < 256) : derivM c awB = if c = 98 then emptyM else noneM := by
  have h := let_mem (lo := 98) (hi := 98) c hc
  have e : derivM c awB = if (letM 98 98).set.mem c = true then emptyM else noneM := deriv_two c _
  rw [e, h]
  unfold letF
  by_cases q : c = 98
  · subst q; simp
  · rw [if_neg q]
    have : ¬ ((98 : Int) ≤ (c : Int) ∧ (c : Int) ≤ 98) := by omega
    simp [this]
theorem deriv_five (c : Nat) (a : RT) : derivM c (.mk 5 W4.zero [a]) = catM [derivM c a, .mk 5 W4.zero [a]] := by rw [deriv_mk]; rfl
theorem cat_empty_star (a : RT) : catM [emptyM, .mk 5 W4.zero [a]] = .mk 5 W4.zero [a] := rfl
theorem aw_dS (c : Nat) (hc : c < 256) : derivM c (.mk 5 W4.zero [awA]) = if c = 97 then .mk 5 W4.zero [awA] else noneM := by
  have e : derivM c (.mk 5 W4.zero [awA]) = catM [derivM c awA, .mk 5 W4.zero [awA]] := deriv_five c awA
  rw [e, aw_dA c hc]
  by_cases q : c = 97
  · rw [if_pos q, if_pos q]; exact cat_empty_star awA
  · rw [if_neg q, if_neg q]; exact cat_none rfl _
theorem aw_nS : nullM (.mk 5 W4.zero [awA]) = true := by rw [null_mk]; simp
theorem aw_nB : nullM awB = false := by unfold awB letM; rw [null_mk]; simp
theorem aw_nR : nullM awR = false := by unfold awR; rw [null_mk]; simp [aw_nB]
theorem cat_two (c : Nat) {x y : RT} (hx : nullM x = true) (hy : nullM y = false) : derivM c (.mk 3 W4.zero [x, y]) = eitherM [catM [derivM c x, y], catM [derivM c y]] := by
  have e := deriv_mk c 3 W4.zero [x, y]
  rw [if_neg (by decide), if_pos rfl] at e
  rw [e]
  simp [catsM, hx, hy]
theorem aw_dR (c : Nat) (hc : c < 256) : derivM c awR = eitherM [catM [derivM c (.mk 5 W4.zero [awA]), awB], catM [derivM c awB]] := by
  exact cat_two c aw_nS aw_nB
theorem either_one {x : RT} (h : x.kind ≠ 0 ∧ x.kind ≠ 2 ∧ x.kind ≠ 4) : eitherM [x] = x ∧ eitherM [x, noneM] = x ∧ eitherM [noneM, x] = x := by
  have key : ∀ l : List RT, (flatM 4 l).filter (fun r => !(r.kind == 0) && !(r.kind == 2)) = [x] → (∀ t ∈ flatM 4 l, t.kind ≠ 2) → eitherM l = x := fun l h1 h2 => by
    unfold eitherM
    have e1 : byteM (flatM 4 l) = [] := by unfold byteM; rw [union_none h2, if_pos rfl]
    rw [e1]
    unfold othersM
    rw [h1]
    rfl
  have hn : noneM.kind = 0 := rfl
  have f1 : flatM 4 [x] = [x] := flat_same fun t ht => by simp at ht; subst ht; exact h.2.2
  have f2 : flatM 4 [x, noneM] = [x, noneM] := flat_same fun t ht => by
    rcases List.mem_cons.1 ht with rfl | ht
    · exact h.2.2
    · simp at ht; subst ht; rw [hn]; decide
  have f3 : flatM 4 [noneM, x] = [noneM, x] := flat_same fun t ht => by
    rcases List.mem_cons.1 ht with rfl | ht
    · rw [hn]; decide
    · simp at ht; subst ht; exact h.2.2
  refine ⟨key _ ?_ ?_, key _ ?_ ?_, key _ ?_ ?_⟩
  · rw [f1]; simp [h.1, h.2.1]
  · rw [f1]; intro t ht; simp at ht; subst ht; exact h.2.1
  · rw [f2]; simp [h.1, h.2.1, hn]
  · rw [f2]
    intro t ht
    rcases List.mem_cons.1 ht with rfl | ht
    · exact h.2.1
    · simp at ht; subst ht; rw [hn]; decide
  · rw [f3]; simp [h.1, h.2.1, hn]
  · rw [f3]
    intro t ht
    rcases List.mem_cons.1 ht with rfl | ht
    · rw [hn]; decide
    · simp at ht; subst ht; exact h.2.1
theorem aw_d97 : derivM 97 awR = awR := by
  rw [aw_dR 97 (by decide), aw_dS 97 (by decide), aw_dB 97 (by decide), if_pos rfl, if_neg (by decide)]
  have e1 : catM [.mk 5 W4.zero [awA], awB] = awR := by rw [← aw_star]; exact aw_catR
  have e2 : catM [noneM] = noneM := rfl
  rw [e1, e2]
  have hk : awR.kind = 3 := rfl
  exact (either_one (x := awR) ⟨by rw [hk]; decide, by rw [hk]; decide, by rw [hk]; decide⟩).2.1
theorem aw_d98 : derivM 98 awR = emptyM := by
  rw [aw_dR 98 (by decide), aw_dS 98 (by decide), aw_dB 98 (by decide), if_neg (by decide), if_pos rfl]
  have e1 : catM [noneM, awB] = noneM := cat_none rfl _
  have e2 : catM [emptyM] = emptyM := rfl
  rw [e1, e2]
  have hk : emptyM.kind = 1 := rfl
  exact (either_one (x := emptyM) ⟨by rw [hk]; decide, by rw [hk]; decide, by rw [hk]; decide⟩).2.2
theorem aw_aab : nullM (dersM awR [97, 97, 98]) = true := by
  show nullM (derivM 98 (derivM 97 (derivM 97 awR))) = true
  rw [aw_d97, aw_d97, aw_d98]
  show nullM (.mk 1 W4.zero []) = true
  rw [null_mk]
  simp
theorem aw_aba : nullM (dersM awR [97, 98, 97]) = false := by
  show nullM (derivM 97 (derivM 98 (derivM 97 awR))) = false
  rw [aw_d97, aw_d98]
  show nullM (derivM 97 (.mk 1 W4.zero [])) = false
  rw [deriv_mk]
  exact null_none rfl
/-- What the calls want of it. -/
theorem let_lv {lo hi : Int} (h0 : 0 ≤ lo) (h1 : lo ≤ hi) (h2 : lo < 256) : Lv 1 3435973632 64 0 0 (letM lo hi) := by
  refine ⟨good_let h0 h1 h2, by unfold letM; rw [sz_mk]; simp, fun _ R => ?_, fun e R => ?_⟩
  · have := del_byte (t := letM lo hi) rfl R
    omega
  · unfold letM at e
    rw [null_mk] at e
    simp at e

end Go.Proofs.YtjeplmnjgdpgbaaGreatDoor

/-! The document's Same, of any two expressions: whether they stand for one tree. No condition but size. -/
namespace Go.Proofs.YtjeplmnjgdpgbaaGreatDoor
open Go.RowKit Go.Lib
set_option linter.unusedVariables false
set_option linter.unusedSimpArgs false

open Classical in
noncomputable def sameB (t u : RT) : Bool := decide (t = u)
open Classical in
theorem sameB_iff (t u : RT) : sameB t u = true ↔ t = u := by unfold sameB; exact decide_eq_true_iff
theorem sameB_no {t u : RT} (h : t ≠ u) : false = sameB t u := by
  cases e : sameB t u with
  | false => rfl
  | true => exact absurd ((sameB_iff t u).1 e) h
theorem sameB_yes {t u : RT} (h : t = u) : true = sameB t u := ((sameB_iff t u).2 h).symm
theorem six_at {W : World} {B : Nat} {k a b c d : Int} {p : Option Addr} {n cap : Nat} (h : W.heap[B]? = some (.cells #[.int .i64 k, .int .u64 a, .int .u64 b, .int .u64 c, .int .u64 d, .slice p n cap] 29 (0, 0))) :
    W.cell? ⟨B, 0, none⟩ = some (.int .i64 k) ∧ W.cell? ⟨B, 1, none⟩ = some (.int .u64 a) ∧ W.cell? ⟨B, 2, none⟩ = some (.int .u64 b) ∧ W.cell? ⟨B, 3, none⟩ = some (.int .u64 c) ∧ W.cell? ⟨B, 4, none⟩ = some (.int .u64 d) ∧ W.cell? ⟨B, 5, none⟩ = some (.slice p n cap) := by
  refine ⟨?_, ?_, ?_, ?_, ?_, ?_⟩ <;> simp [World.cell?, h]

set_option maxRecDepth 100000 in
set_option maxHeartbeats 16000000 in
theorem sameg_any {P P' : Nat → Prop} : ∀ (N : Nat) (t u : RT) (x y : ReV) (W : World), t.dep ≤ N → t.sz ≤ 9000000000 → RAt W P x t → RAt W P' y u → Calls Tryz.prog 15 #[x.val, y.val] W (GivesBool (sameB t u) W) := by
  intro N
  induction N with
  | zero => intro t u x y W h; have := dep_pos t; omega
  | succ N ih =>
    intro t u x y W hdep hsz ht ht'
    obtain ⟨vs, et, hok, hk⟩ := ht.kids
    obtain ⟨us, et', _, hk'⟩ := ht'.kids
    have hkd : ∀ v ∈ t.kids, v.dep ≤ N := by
      obtain ⟨k', s', l'⟩ := t
      exact dep_mk.1 hdep
    have hks : (t.kids.map RT.sz).sum < t.sz := by
      obtain ⟨k', s', l'⟩ := t
      rw [sz_mk]
      show (l'.map RT.sz).sum < _
      omega
    obtain ⟨L, hL⟩ : ∃ L, L = t.kids := ⟨_, rfl⟩
    obtain ⟨M, hM⟩ : ∃ M, M = u.kids := ⟨_, rfl⟩
    rw [← hL] at hk hkd et hks
    rw [← hM] at hk' et'
    obtain ⟨k, a, b, c, d, p, n, cap⟩ := x
    obtain ⟨k2, a2, b2, c2, d2, p2, n2, cap2⟩ := y
    simp only [ReV.w4] at hok hk hk' et et'
    obtain ⟨R, hR⟩ : ∃ R, R = sameB t u := ⟨_, rfl⟩
    rw [← hR]
    rw [et, et'] at hR
    have HR := Lib.hid hR
    have hnum := hk.num
    have hnum' := hk'.num
    obtain ⟨B0, hB0⟩ : ∃ B0, B0 = W.heap.size := ⟨_, rfl⟩
    obtain ⟨w1, hw1⟩ : ∃ w1 : World, w1 = W.alloc (.cells #[.int .i64 k, .int .u64 a, .int .u64 b, .int .u64 c, .int .u64 d, .slice p n cap] 29) := ⟨_, rfl⟩
    have hb1 : Below W.heap.size W w1 := by rw [hw1]; exact (Below.refl _ _).alloc (Nat.le_refl _) _
    have hn1 : w1.heap[B0]? = some (.cells #[.int .i64 k, .int .u64 a, .int .u64 b, .int .u64 c, .int .u64 d, .slice p n cap] 29 (0, 0)) := by rw [hw1, hB0]; exact heap_alloc_new _ _
    have hB1 : B0 < w1.heap.size := (Array.getElem?_eq_some_iff.1 hn1).1
    obtain ⟨B2, hB2⟩ : ∃ B2, B2 = w1.heap.size := ⟨_, rfl⟩
    obtain ⟨w2, hw2⟩ : ∃ w2 : World, w2 = w1.alloc (.cells #[.int .i64 k2, .int .u64 a2, .int .u64 b2, .int .u64 c2, .int .u64 d2, .slice p2 n2 cap2] 29) := ⟨_, rfl⟩
    have hb2 : Below w1.heap.size w1 w2 := by rw [hw2]; exact (Below.refl _ _).alloc (Nat.le_refl _) _
    have hn2 : w2.heap[B2]? = some (.cells #[.int .i64 k2, .int .u64 a2, .int .u64 b2, .int .u64 c2, .int .u64 d2, .slice p2 n2 cap2] 29 (0, 0)) := by rw [hw2, hB2]; exact heap_alloc_new _ _
    have hn1' : w2.heap[B0]? = some (.cells #[.int .i64 k, .int .u64 a, .int .u64 b, .int .u64 c, .int .u64 d, .slice p n cap] 29 (0, 0)) := (hb2.block B0 hB1).trans hn1
    have hB02 : B0 < w2.heap.size := (Array.getElem?_eq_some_iff.1 hn1').1
    have hB22 : B2 < w2.heap.size := (Array.getElem?_eq_some_iff.1 hn2).1
    have hbb : Below W.heap.size W w2 := hb1.trans (hb2.mono hb1.size)
    have HK := Lib.hid (hk.under hbb)
    have HK' := Lib.hid (hk'.under hbb)
    have HB1 := Lib.hid hbb
    have HN1 := Lib.hid hn1'
    have HN2 := Lib.hid hn2
    have HL1 := Lib.hid hB02
    have HL2 := Lib.hid hB22
    have HW1 := Lib.hid hw1
    have HW2 := Lib.hid hw2
    have HB0 := Lib.hid hB0
    have hB3 : B2 = B0 + 1 := by rw [hB2, hB0, hw1]; exact Array.size_push _
    have HB2 := Lib.hid hB3
    have hnb : n ≤ 9000000000 := by
      have : ∀ l : List RT, l.length ≤ (l.map RT.sz).sum := by
        intro l
        induction l with
        | nil => simp
        | cons a l ih => have := sz_pos a; simp only [List.length_cons, List.map_cons, List.sum_cons]; omega
      have := this L
      omega
    have HKS : Hid ((L.map RT.sz).sum ≤ 9000000000) := by unfold Hid; omega
    have HKD := Lib.hid hkd
    have HNU := Lib.hid hnum
    have HNU' := Lib.hid hnum'
    have HIH := Lib.hid ih
    obtain ⟨k0, k1, k2', k3, k4, k5⟩ := six_at hn1'
    obtain ⟨q0, q1, q2, q3, q4, q5⟩ := six_at hn2
    clear et et' hok hk hk' hnum hnum' hL hM ht ht' hdep hsz hks ih hw1 hw2 hb1 hb2 hbb hn1 hn2 hn1' hB0 hB1 hB2 hB3 hB02 hB22 hkd hR
    unfold ReV.val
    simp only []
    by_cases ek0 : k = k2
    case neg =>
      have ek : (k != k2) = true := by simpa using ek0
      have hr : R = false := by rw [HR.out, ← sameB_no]; intro e; injection e with e1; exact ek0 e1
      subst hr
      go_enter Tryz.func15, Tryz.ntmps15
      go_wp2_with fail
      rw [← HW1.out, ← HB0.out, ← HB2.out, ← HW2.out]
      go_wp2_with fail
      go_ret
      exact ⟨rfl, HB1.out⟩
    case pos =>
    subst ek0
    have ek : (k != k) = false := by simp
    by_cases es0 : (⟨a, b, c, d⟩ : W4) = ⟨a2, b2, c2, d2⟩
    case neg =>
      have hEq : ∀ w : World, (Op.equalIn 10000 26 (.agg #[.int .u64 a, .int .u64 b, .int .u64 c, .int .u64 d]) (.agg #[.int .u64 a2, .int .u64 b2, .int .u64 c2, .int .u64 d2])).run Tryz.prog w = .ok false w := fun w => by rw [eql_set, w4_eq]; simp [es0]
      have hr : R = false := by rw [HR.out, ← sameB_no]; intro e; injection e with e1 e2; exact es0 e2
      subst hr
      clear es0
      go_enter Tryz.func15, Tryz.ntmps15
      go_wp2_with fail
      rw [← HW1.out, ← HB0.out, ← HB2.out, ← HW2.out]
      go_wp2_with fail
      go_ret
      exact ⟨rfl, HB1.out⟩
    case pos =>
    injection es0 with e4 e5 e6 e7
    subst e4 e5 e6 e7
    have hEq : ∀ w : World, (Op.equalIn 10000 26 (.agg #[.int .u64 a, .int .u64 b, .int .u64 c, .int .u64 d]) (.agg #[.int .u64 a, .int .u64 b, .int .u64 c, .int .u64 d])).run Tryz.prog w = .ok true w := fun w => by rw [eql_set, w4_eq]; simp
    by_cases en0 : n = n2
    case neg =>
      have en : ((n : Int) != (n2 : Int)) = true := by simp; omega
      have hr : R = false := by rw [HR.out, ← sameB_no]; intro e; injection e with e1 e2 e3; exact en0 (by rw [HNU.out, HNU'.out, e3])
      subst hr
      go_enter Tryz.func15, Tryz.ntmps15
      go_wp2_with fail
      rw [← HW1.out, ← HB0.out, ← HB2.out, ← HW2.out]
      go_wp2_with fail
      go_ret
      exact ⟨rfl, HB1.out⟩
    case pos =>
    subst en0
    have en : ((n : Int) != (n : Int)) = false := by simp
    go_enter Tryz.func15, Tryz.ntmps15
    go_wp2_with fail
    rw [← HW1.out, ← HB0.out, ← HB2.out, ← HW2.out]
    go_wp2_with fail
    clear k0 k1 k2' k3 k4 k5 q0 q1 q2 q3 q4 q5
    go_loopg [5] n (fun gk vi wr => ∃ i : Nat, vi = .int .i64 (i : Int) ∧ i ≤ n ∧ n - i ≤ gk ∧ Hid (∀ j, j < i → L[j]? = M[j]?) ∧ Hid (Below w2.heap.size w2 wr))
    case atStart => exact ⟨0, rfl, by omega, by omega, fun j hj => absurd hj (Nat.not_lt_zero j), Below.refl _ _⟩
    case round =>
      obtain ⟨i, rfl, hi, hgk, HE, HB⟩ := hrel
      have k5 : wr.cell? ⟨B0, 5, none⟩ = some (.slice p n cap) := by simp [World.cell?, (HB.out.block B0 HL1.out).trans HN1.out]
      have q5 : wr.cell? ⟨B2, 5, none⟩ = some (.slice p2 n cap2) := by simp [World.cell?, (HB.out.block B2 HL2.out).trans HN2.out]
      by_cases hlt : i < n
      · have hltz : decide ((i : Int) < (n : Int)) = true := decide_eq_true (by omega)
        obtain ⟨g, off, rfl⟩ := HK.out.rowv.some_of hlt
        obtain ⟨g', off', rfl⟩ := HK'.out.rowv.some_of hlt
        have hil : i < L.length := by rw [← HNU.out]; exact hlt
        have him : i < M.length := by rw [← HNU'.out]; exact hlt
        obtain ⟨y, hy⟩ : ∃ y, vs[i]? = some y := ⟨_, List.getElem?_eq_getElem (by rw [HK.out.len]; exact hil)⟩
        obtain ⟨z, hz⟩ : ∃ z, us[i]? = some z := ⟨_, List.getElem?_eq_getElem (by rw [HK'.out.len]; exact him)⟩
        obtain ⟨u1, hu1⟩ : ∃ u, L[i]? = some u := ⟨_, List.getElem?_eq_getElem hil⟩
        obtain ⟨u2, hu2⟩ : ∃ u, M[i]? = some u := ⟨_, List.getElem?_eq_getElem him⟩
        have hpl := (HK.out.place hy).under HB.out
        have hpl' := (HK'.out.place hz).under HB.out
        have hra := (HK.out.each i y u1 hy hu1).under HB.out
        have hra' := (HK'.out.each i z u2 hz hu2).under HB.out
        have CALL : Hid (∀ W1, Below wr.heap.size wr W1 → Calls Tryz.prog 15 #[y.val, z.val] W1 (GivesBool (sameB u1 u2) W1)) := fun W1 hb =>
          HIH.out u1 u2 y z W1 (HKD.out u1 (List.mem_of_getElem? hu1)) (by have := sum_mem (List.mem_of_getElem? hu1); have := HKS.out; omega) (hra.under hb) (hra'.under hb)
        have HU1 := Lib.hid hu1
        have HU2 := Lib.hid hu2
        obtain ⟨y0, y1, y2, y3, y4, y5, y6, y7⟩ := y
        obtain ⟨z0, z1, z2, z3, z4, z5, z6, z7⟩ := z
        obtain ⟨e0, e1, e2, e3, e4, e5⟩ := hpl.six
        obtain ⟨f0, f1, f2, f3, f4, f5⟩ := hpl'.six
        simp only at e0 e1 e2 e3 e4 e5 f0 f1 f2 f3 f4 f5
        unfold ReV.val at CALL
        simp only at CALL
        by_cases eu : u1 = u2
        · have hq : sameB u1 u2 = true := (sameB_iff _ _).2 eu
          rw [hq] at CALL
          have HE2 : Hid (∀ j, j < i + 1 → L[j]? = M[j]?) := fun j hj => by
            by_cases e : j < i
            · exact HE.out j e
            · have : j = i := by omega
              subst this
              rw [HU1.out, HU2.out, eu]
          clear hpl hpl' hra hra' hy hz hu1 hu2 hil him eu hq
          go_wp2_with fail
          go_still_tail 10, (by kernel_rfl)
          change wpList _ _ _ _ _ wr.drew
          go_wp2_with fail
          refine (CALL.out _ ((Below.refl _ _).drew)).mono ?_
          rintro e w3 ⟨rfl, hb3⟩
          have HB3 : Hid (Below w2.heap.size w2 w3) := (below_drawn HB.out 1).trans (hb3.mono HB.out.size)
          clear hb3 k5 q5 e0 e1 e2 e3 e4 e5 f0 f1 f2 f3 f4 f5
          go_wp2_with fail
          go_roundg (n - (i + 1))
          case measure => omega
          case rel => exact ⟨i + 1, by go_num, by omega, Nat.le_refl _, HE2, HB3⟩
        · have hq : sameB u1 u2 = false := (sameB_no eu).symm
          rw [hq] at CALL
          have hr : R = false := by
            rw [HR.out, ← sameB_no]
            intro e
            injection e with e1 e2 e3
            rw [e3] at hu1
            exact eu (Option.some.inj (hu1.symm.trans hu2))
          subst hr
          clear hpl hpl' hra hra' hy hz hu1 hu2 hil him eu hq
          go_wp2_with fail
          go_still_tail 10, (by kernel_rfl)
          change wpList _ _ _ _ _ wr.drew
          go_wp2_with fail
          refine (CALL.out _ ((Below.refl _ _).drew)).mono ?_
          rintro e w3 ⟨rfl, hb3⟩
          have HB3 : Hid (Below w2.heap.size w2 w3) := (below_drawn HB.out 1).trans (hb3.mono HB.out.size)
          clear hb3 k5 q5 e0 e1 e2 e3 e4 e5 f0 f1 f2 f3 f4 f5
          go_wp2_with fail
          go_ret
          exact ⟨rfl, HB1.out.trans (HB3.out.mono HB1.out.size)⟩
      · have hltz : decide ((i : Int) < (n : Int)) = false := decide_eq_false (by omega)
        have hr : R = true := by
          rw [HR.out, ← sameB_yes]
          congr 1
          apply List.ext_getElem?
          intro j
          by_cases hj : j < i
          · exact HE.out j hj
          · rw [List.getElem?_eq_none (by have := HNU.out; omega), List.getElem?_eq_none (by have := HNU'.out; omega)]
        subst hr
        go_wp2_with fail
        go_ret
        exact ⟨rfl, HB1.out.trans (HB.out.mono HB1.out.size)⟩

end Go.Proofs.YtjeplmnjgdpgbaaGreatDoor
