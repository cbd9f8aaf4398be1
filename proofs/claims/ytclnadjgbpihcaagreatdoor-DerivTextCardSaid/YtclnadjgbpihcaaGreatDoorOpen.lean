/- The program's opened: a list in which the kids of some stand in their place. No condition but size. -/
import Derived.Test.YtclnadjgbpihcaaGreatDoorMake
import Derived.Laws.AppendOwnNone
namespace Go.Proofs.YtclnadjgbpihcaaGreatDoor
open Go.RowKit Go.Lib
set_option linter.unusedVariables false
set_option linter.unusedSimpArgs false

/-- A row of expressions of the call's own, their kids of the world w. -/
structure OwnRe (w W : World) (P : Nat → Prop) (v : Value) (vs : List ReV) (l : List RT) : Prop where
  own : W.ownsRow w.heap.size 28 6 v l.length (vs.flatMap ReV.cells)
  len : vs.length = l.length
  each : ∀ (i : Nat) (y : ReV) (t : RT), vs[i]? = some y → l[i]? = some t → RAt w P y t
theorem infoRe : (Tryz.prog.info? 28).map (fun i => (i.zero, i.size, i.bytes)) = some (some (.agg #[.int .i64 0, .int .u64 0, .int .u64 0, .int .u64 0, .int .u64 0, .slice none 0 0]), 6, 64) := by kernel_rfl
theorem re_parts : ∃ i0, Tryz.prog.info? 28 = some i0 ∧ i0.zero = some (.agg #[.int .i64 0, .int .u64 0, .int .u64 0, .int .u64 0, .int .u64 0, .slice none 0 0]) ∧ i0.size = 6 ∧ i0.bytes = 64 := by
  have h := infoRe
  cases e : Tryz.prog.info? 28 with
  | none => rw [e] at h; cases h
  | some j =>
    rw [e] at h
    simp at h
    exact ⟨j, rfl, h.1, h.2.1, h.2.2⟩
theorem OwnRe.app {w W W' : World} {P : Nat → Prop} {v v' : Value} {vs us : List ReV} {l m : List RT} (h : OwnRe w W P v vs l) (hl : us.length = m.length) (he : ∀ (i : Nat) (y : ReV) (t : RT), us[i]? = some y → m[i]? = some t → RAt w P y t)
    (ho : W'.ownsRow w.heap.size 28 6 v' (l.length + m.length) (vs.flatMap ReV.cells ++ us.flatMap ReV.cells)) : OwnRe w W' P v' (vs ++ us) (l ++ m) := by
  refine ⟨by rw [List.length_append, List.flatMap_append]; exact ho, by rw [List.length_append, List.length_append, h.len, hl], fun i y t hy ht => ?_⟩
  by_cases hi : i < vs.length
  · rw [List.getElem?_append_left hi] at hy
    rw [List.getElem?_append_left (by rw [← h.len]; exact hi)] at ht
    exact h.each i y t hy ht
  · rw [List.getElem?_append_right (by omega)] at hy
    rw [List.getElem?_append_right (by rw [← h.len]; omega), ← h.len] at ht
    exact he _ y t hy ht
theorem own_above {W : World} {base size n : Nat} {e : TypeId} {v : Value} {xs : List Value} (h : W.ownsRow base e size v n xs) : ∀ b, v.ownBlock = some b → base ≤ b := by
  intro b hb
  rcases row_forms h with ⟨rfl, _⟩ | ⟨g, cap, rfl⟩
  · simp [Value.ownBlock] at hb
  · have := (row_base h).1
    simp [Value.ownBlock] at hb
    omega
theorem flatM_take (k : Int) (l : List RT) (i : Nat) (u : RT) (hu : l[i]? = some u) : flatM k (l.take (i + 1)) = flatM k (l.take i) ++ (if u.kind = k then u.kids else [u]) := by
  unfold flatM
  rw [List.take_add_one, hu, List.flatMap_append]
  simp
theorem kids_len (u : RT) : u.kids.length < u.sz := by
  obtain ⟨k, s, kids⟩ := u
  rw [sz_mk]
  show kids.length < _
  have : ∀ l : List RT, l.length ≤ (l.map RT.sz).sum := by
    intro l
    induction l with
    | nil => simp
    | cons a l ih => have := sz_pos a; simp only [List.length_cons, List.map_cons, List.sum_cons]; omega
  have := this kids
  omega

/-- The call returns such a row. -/
def GivesRow6 (P : Nat → Prop) (l : List RT) (w : World) (e : Ending) (w' : World) : Prop := ∃ (v : Value) (us : List ReV), e = .returned v ∧ OwnRe w w' P v us l ∧ Below w.heap.size w w'
theorem addr_add (g off j : Nat) : (⟨g, off, none⟩ : Addr).add j = ⟨g, off + j, none⟩ := by cases j <;> simp [Addr.add]

set_option maxRecDepth 100000 in
set_option maxHeartbeats 8000000 in
theorem opened_any {P : Nat → Prop} (w : World) (kk : Int) {p : Option Addr} {n cap : Nat} {vs : List ReV} {l : List RT} (h : KidsR w P p n cap vs l) (hsz : (l.map RT.sz).sum ≤ 9000000000) :
    Calls Tryz.prog 58 #[.slice p n cap, .int .i64 kk] w (GivesRow6 P (flatM kk l) w) := by
  obtain ⟨i0, hi0, hz0, hz1, hz2⟩ := re_parts
  have HK := Lib.hid h
  have HNU := Lib.hid h.num
  have hnl : n ≤ 9000000000 := by
    have : ∀ l : List RT, l.length ≤ (l.map RT.sz).sum := by
      intro l
      induction l with
      | nil => simp
      | cons a l ih => have := sz_pos a; simp only [List.length_cons, List.map_cons, List.sum_cons]; omega
    have := this l
    have := h.num
    omega
  have hfl : ∀ i, (flatM kk (l.take i)).length ≤ (l.map RT.sz).sum := by
    intro i
    have h1 : ∀ l : List RT, (flatM kk l).length ≤ (l.map RT.sz).sum := by
      intro l
      induction l with
      | nil => simp [flatM]
      | cons a l ih =>
        have h1 := kids_len a
        have h2 := sz_pos a
        have e : flatM kk (a :: l) = (if a.kind = kk then a.kids else [a]) ++ flatM kk l := by simp [flatM]
        rw [e, List.length_append, List.map_cons, List.sum_cons]
        split
        · omega
        · simp only [List.length_cons, List.length_nil]; omega
    have h2 : ∀ (l : List RT) (i : Nat), ((l.take i).map RT.sz).sum ≤ (l.map RT.sz).sum := by
      intro l
      induction l with
      | nil => intro i; simp
      | cons a l ih =>
        intro i
        cases i with
        | zero => simp
        | succ i => have := ih i; simp only [List.take_succ_cons, List.map_cons, List.sum_cons]; omega
    exact Nat.le_trans (h1 _) (h2 l i)
  have HFL := Lib.hid hfl
  clear h hfl
  go_enter Tryz.func58, Tryz.ntmps58
  go_wp2
  go_loopg [5, 10] n (fun gk v vi wr => ∃ (i : Nat) (q : Option Addr) (N cp : Nat) (us : List ReV), v = .slice q N cp ∧ vi = .int .i64 (i : Int) ∧ i ≤ n ∧ n - i ≤ gk ∧ Hid (Below w.heap.size w wr) ∧ Hid (OwnRe w wr P (.slice q N cp) us (flatM kk (l.take i))) ∧ N = (flatM kk (l.take i)).length)
  case atStart => exact ⟨0, none, 0, 0, [], rfl, rfl, by omega, by omega, Below.refl _ _, ⟨World.ownsRow_nil _ _ _ _, rfl, fun i y t hy => by simp at hy⟩, rfl⟩
  case round =>
    obtain ⟨i, q0, N, cp0, us, rfl, rfl, hi, hgk, HB, HO, hN⟩ := hrel
    by_cases hlt : i < n
    · have hltz : (i : Int) < (n : Int) := by omega
      obtain ⟨g, off, rfl⟩ := HK.out.rowv.some_of hlt
      have hil : i < l.length := by rw [← HNU.out]; exact hlt
      obtain ⟨y, hy⟩ : ∃ y, vs[i]? = some y := ⟨_, List.getElem?_eq_getElem (by rw [HK.out.len]; exact hil)⟩
      obtain ⟨u, hu⟩ : ∃ u, l[i]? = some u := ⟨_, List.getElem?_eq_getElem hil⟩
      have hpl := HK.out.place hy
      have hra := HK.out.each i y u hy hu
      obtain ⟨ws, et, _, hkids⟩ := hra.kids
      have hukd : u.kind = y.kind := by rw [et]; rfl
      clear et
      have htk := flatM_take kk l i u hu
      have hf1 := HFL.out (i + 1)
      rw [htk] at hf1
      obtain ⟨k, a, b, c, d, q, m, cp⟩ := y
      simp only at hukd hkids
      obtain ⟨p0, p1, p2, p3, p4, p5⟩ := (hpl.under HB.out).six
      simp only at p0 p1 p2 p3 p4 p5
      have HOA : Hid ((wr.alloc (.cells #[.int .i64 k, .int .u64 a, .int .u64 b, .int .u64 c, .int .u64 d, .slice q m cp] 28)).ownsRow w.heap.size 28 6 (.slice q0 N cp0) N (us.flatMap ReV.cells)) := by
        have := HO.out.own.alloc (.cells #[.int .i64 k, .int .u64 a, .int .u64 b, .int .u64 c, .int .u64 d, .slice q m cp] 28)
        rw [← hN] at this
        exact this
      have HBA : Hid (Below w.heap.size w (wr.alloc (.cells #[.int .i64 k, .int .u64 a, .int .u64 b, .int .u64 c, .int .u64 d, .slice q m cp] 28))) := HB.out.alloc HB.out.size _
      have HAB := Lib.hid (own_above HOA.out)
      have hwle : w.heap.size ≤ wr.heap.size := HB.out.size
      have HRA := Lib.hid hra
      have HKI := Lib.hid hkids
      have HTK := Lib.hid htk
      have HUK := Lib.hid hukd
      have HNN := Lib.hid hN
      rw [List.length_append, ← hN] at hf1
      have hNb : N ≤ 9000000000 := by omega
      have hf2 := hf1
      have HF1 := Lib.hid hf1
      clear hpl hra hkids htk hukd hy hu hf1 hf2 hN hil
      by_cases hk : k = kk
      · have hkz : (k == kk) = true := by simp [hk]
        have HKK := Lib.hid hk
        clear hk
        have hfin : flatM kk (l.take (i + 1)) = flatM kk (l.take i) ++ u.kids := by
          rw [HTK.out, if_pos (by rw [HUK.out]; exact HKK.out)]
        have HFIN := Lib.hid hfin
        have hml : m = u.kids.length := HKI.out.num
        have hwl : ws.length = u.kids.length := HKI.out.len
        have hfb := HF1.out
        rw [if_pos (by rw [HUK.out]; exact HKK.out), ← hml] at hfb
        have HML := Lib.hid hml
        have HWL := Lib.hid hwl
        have hmb : N + m ≤ 9000000000 := by omega
        clear hfin hml hwl hfb
        cases q with
        | none =>
          have hc : m = 0 ∧ cp = 0 := by
            rcases HKI.out.row with ⟨h1, h2⟩ | ⟨_, _, h1, _⟩
            · exact ⟨h1, h2 rfl⟩
            · cases h1
          obtain ⟨rfl, rfl⟩ := hc
          go_wp2_with (at_builtin; go_loud (refine wpList_append_own_none rfl _ _ 26 rfl w.heap.size 28 i0 6 Tryz.underlying26 hi0 _ _ _ rfl HOA.out rfl ?_))
          go_wp2
          go_roundg (n - (i + 1))
          case measure => omega
          case rel =>
            have hk0 : u.kids = [] := List.length_eq_zero_iff.1 HML.out.symm
            refine ⟨i + 1, q0, N, cp0, us, rfl, by go_num, by omega, Nat.le_refl _, HBA.out, ?_, by rw [HFIN.out, hk0, List.append_nil]; exact HNN.out⟩
            unfold Hid
            rw [HFIN.out, hk0, List.append_nil]
            refine ⟨?_, HO.out.len, HO.out.each⟩
            rw [← HNN.out]
            exact HOA.out
        | some ad =>
          have hcells : ∀ (j : Nat) (x : Value), (ws.flatMap ReV.cells)[j]? = some x → (wr.alloc (.cells #[.int .i64 k, .int .u64 a, .int .u64 b, .int .u64 c, .int .u64 d, .slice (some ad) m cp] 28)).cell? (ad.add j) = some x := by
            intro j x hx
            rcases (HKI.out.under HBA.out).row with ⟨h1, _⟩ | ⟨g', off', h1, _, _, _, _, h6⟩
            · have : ws = [] := List.length_eq_zero_iff.1 (by rw [HWL.out, ← HML.out]; exact h1)
              rw [this] at hx
              simp at hx
            · obtain rfl : ad = ⟨g', off', none⟩ := Option.some.inj h1
              rw [addr_add]
              exact h6 j x hx
          have hone : ∀ x ∈ ws.flatMap ReV.cells, x.oneCell' = true := by
            intro x hx
            obtain ⟨y, _, hy⟩ := List.mem_flatMap.1 hx
            unfold ReV.cells at hy
            simp at hy
            rcases hy with rfl | rfl | rfl | rfl | rfl | rfl <;> rfl
          have hlenc : (ws.flatMap ReV.cells).length = m * 6 := by rw [flat6_len, HWL.out, ← HML.out]
          go_wp2_with (at_builtin; go_loud (refine wpList_append_own_at _ rfl _ _ 26 rfl w.heap.size 28 i0 _ 6 64 Tryz.underlying26 hi0 hz0 hz1 hz2 rfl (by decide) _ _ _ rfl HOA.out ad m cp (ws.flatMap ReV.cells) rfl hlenc hcells hone ?c3 ?c4 ?c5 ?_))
          case c3 => unfold maxLen; omega
          case c4 => omega
          case c5 => simp; omega
          intro v' w4 hown hgrow hnil hat
          have HOWN := Lib.hid hown
          have HGROW := Lib.hid hgrow
          obtain ⟨q4, n4, cp4, rfl⟩ : ∃ q4 n4 cp4, v' = .slice q4 n4 cp4 := by
            rcases row_forms hown with ⟨h, _⟩ | ⟨g, cap', h⟩
            · exact ⟨_, _, _, h⟩
            · exact ⟨_, _, _, h⟩
          have hn4 : n4 = N + m := by
            rcases row_forms hown with ⟨h, h0⟩ | ⟨g, cap', h⟩
            · cases h; omega
            · cases h; rfl
          subst hn4
          clear hown hgrow hat hnil hcells hone hlenc
          go_wp2
          go_roundg (n - (i + 1))
          case measure => omega
          case rel =>
            refine ⟨i + 1, _, N + m, _, us ++ ws, rfl, by go_num, by omega, Nat.le_refl _, HBA.out.grown HGROW.out (by simp; omega) HAB.out, ?_, by rw [HFIN.out, List.length_append, ← HNN.out, HML.out]⟩
            unfold Hid
            rw [HFIN.out]
            refine HO.out.app HWL.out HKI.out.each ?_
            rw [← HNN.out, ← HML.out]
            exact HOWN.out
      · have hkz : (k == kk) = false := by simpa using hk
        have HKK := Lib.hid hk
        clear hk
        have hnb2 : wr.heap.size ≤ wr.heap.size := Nat.le_refl _
        have HOB : Hid (((wr.alloc (.cells #[.int .i64 k, .int .u64 a, .int .u64 b, .int .u64 c, .int .u64 d, .slice q m cp] 28)).alloc (.cells #[.int .i64 k, .int .u64 a, .int .u64 b, .int .u64 c, .int .u64 d, .slice q m cp] 28)).ownsRow w.heap.size 28 6 (.slice q0 N cp0) N (us.flatMap ReV.cells)) := HOA.out.alloc _
        go_wp2_with (at_builtin; go_loud (refine wpList_append_own_at _ rfl _ _ 26 rfl w.heap.size 28 i0 _ 6 64 Tryz.underlying26 hi0 hz0 hz1 hz2 rfl (by decide) _ _ _ rfl HOB.out ⟨wr.heap.size + 1, 0, none⟩ 1 1 [.int .i64 k, .int .u64 a, .int .u64 b, .int .u64 c, .int .u64 d, .slice q m cp] rfl rfl ?c1 ?c2 ?c3 ?c4 ?c5 ?_))
        case c1 =>
          have h := new3 (wr.alloc (.cells #[.int .i64 k, .int .u64 a, .int .u64 b, .int .u64 c, .int .u64 d, .slice q m cp] 28)) #[.int .i64 k, .int .u64 a, .int .u64 b, .int .u64 c, .int .u64 d, .slice q m cp] 28 [.int .i64 k, .int .u64 a, .int .u64 b, .int .u64 c, .int .u64 d, .slice q m cp] rfl
          rw [show (wr.alloc (.cells #[.int .i64 k, .int .u64 a, .int .u64 b, .int .u64 c, .int .u64 d, .slice q m cp] 28)).heap.size = wr.heap.size + 1 by simp] at h
          exact h
        case c2 => intro x hx; simp at hx; rcases hx with rfl | rfl | rfl | rfl | rfl | rfl <;> rfl
        case c3 => unfold maxLen; omega
        case c4 => omega
        case c5 => simp; omega
        intro v' w4 hown hgrow _ hat
        obtain ⟨g4, cap4, rfl⟩ := (row_forms hown).resolve_left (fun h => by cases h.2)
        have HOWN := Lib.hid hown
        have HGROW := Lib.hid hgrow
        clear hown hgrow hat
        have hfin : flatM kk (l.take (i + 1)) = flatM kk (l.take i) ++ [u] := by
          rw [HTK.out, if_neg (by rw [HUK.out]; exact HKK.out)]
        have HFIN := Lib.hid hfin
        clear hfin
        go_wp2
        go_roundg (n - (i + 1))
        case measure => omega
        case rel =>
          refine ⟨i + 1, _, N + 1, _, us ++ [⟨k, a, b, c, d, q, m, cp⟩], rfl, by go_num, by omega, Nat.le_refl _, (HBA.out.alloc HBA.out.size _).grown HGROW.out (by simp; omega) HAB.out, ?_, by rw [HFIN.out, List.length_append, ← HNN.out]; rfl⟩
          unfold Hid
          rw [HFIN.out]
          refine HO.out.app (us := [⟨k, a, b, c, d, q, m, cp⟩]) (m := [u]) rfl (fun j y t hy ht => ?_) ?_
          · cases j with
            | zero => simp at hy ht; subst hy ht; exact HRA.out
            | succ j => simp at hy
          · rw [← HNN.out]
            exact HOWN.out
    · have hltz : ¬ (i : Int) < (n : Int) := by omega
      have HN0 := Lib.hid hN
      clear hN
      go_wp2
      go_ret
      refine ⟨_, us, rfl, ?_, HB.out⟩
      have e : l.take i = l := List.take_of_length_le (by rw [← HNU.out]; omega)
      have h := HO.out
      rw [e] at h
      exact h

end Go.Proofs.YtclnadjgbpihcaaGreatDoor

