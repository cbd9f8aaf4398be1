/- Whether all that is in an expression is wanted: the program's stack. No condition but size. -/
import Derived.Test.YtclnadjgbpihcaaGreatDoorReMem
import Derived.Deep.AppendLies
import Derived.Deep.RegionLaw
import Derived.Maps.AppendAt
import Derived.Laws.NewBlocks
import Derived.Laws.Pointers
namespace Go.Proofs.YtclnadjgbpihcaaGreatDoor
open Go.RowKit Go.Lib
set_option linter.unusedVariables false
set_option linter.unusedSimpArgs false

/-- Where the fields of something greater lie, or nothing. -/
def MarkR (W : World) (m : Option Addr) (n : Nat) : Prop := m = none ∨ ∃ (b o : Nat) (X : ReV) (T : RT), m = some ⟨b, o, none⟩ ∧ PlaceR W b o X ∧ RAt W (fun _ => True) X T ∧ n < T.sz
theorem MarkR.less {W : World} {m : Option Addr} {n n' : Nat} (h : MarkR W m n) (hn : n' ≤ n) : MarkR W m n' := by
  rcases h with h | ⟨b, o, X, T, h1, h2, h3, h4⟩
  · exact .inl h
  · exact .inr ⟨b, o, X, T, h1, h2, h3, by omega⟩
theorem MarkR.ne {W : World} {P : Nat → Prop} {m : Option Addr} {b o : Nat} {x : ReV} {t : RT} (h : MarkR W m t.sz) (hp : PlaceR W b o x) (hE : RAt W P x t) : m ≠ some ⟨b, o, none⟩ := by
  rintro rfl
  rcases h with h | ⟨b', o', X', t', h1, h2, h3, h4⟩
  · cases h
  · simp at h1
    obtain ⟨rfl, rfl⟩ := h1
    have e := hp.one h2
    subst e
    have := hE.one h3
    subst this
    omega
theorem infoRe1 : ∃ j : TypeInfo, Tryz.prog.info? 28 = some j ∧ j.size ≠ 0 := by
  have h : (Tryz.prog.info? 28).map (fun i => i.size) = some 6 := by kernel_rfl
  cases e : Tryz.prog.info? 28 with
  | none => rw [e] at h; cases h
  | some j =>
    rw [e] at h
    simp at h
    exact ⟨j, rfl, by omega⟩
theorem pointeeRe : Tryz.prog.underlying 62 = some (.pointer 28) := by kernel_rfl
/-- The program's test of the mark, in a world in which what was there stays. -/
theorem eql_markR {w W : World} {P : Nat → Prop} {m : Option Addr} {b o : Nat} {x : ReV} {t : RT} (h : MarkR w m t.sz) (hp : PlaceR w b o x) (hE : RAt w P x t) (hb : Below w.heap.size w W) :
    (binOp .eql 62 (.pointer (some ⟨b, o, none⟩)) (.pointer m)).run Tryz.prog W = .ok (.bool false) W := by
  have hn := h.ne hp hE
  rcases h with rfl | ⟨b', o', X, T, rfl, h2, h3, _⟩
  · rw [run_eql_pointer_nil W _ _ (by kernel_rfl)]
    rfl
  · obtain ⟨j, hj, hs⟩ := infoRe1
    obtain ⟨c, t, _, hc⟩ := (hp.under hb).blk
    obtain ⟨c', t', _, hc'⟩ := (h2.under hb).blk
    exact run_eql_ptr_other W (te := 28) pointeeRe hj hs (fun e => hn (by rw [e])) hc hc'

/-- Whether all is wanted; of what has no kids by its kind they are not asked. -/
noncomputable def evB (q : RT → Bool) : RT → Bool
  | .mk k s kids => q (.mk k s kids) && (if k = 0 ∨ k = 1 ∨ k = 2 then true else (kids.map (evB q)).all id)
def kidsB (t : RT) : List RT := if t.kind = 0 ∨ t.kind = 1 ∨ t.kind = 2 then [] else t.kids
theorem evB_eq (q : RT → Bool) (t : RT) : evB q t = (q t && (kidsB t).all (evB q)) := by
  obtain ⟨k, s, kids⟩ := t
  rw [evB]
  show _ = (_ && (if k = 0 ∨ k = 1 ∨ k = 2 then [] else kids).all (evB q))
  by_cases h : k = 0 ∨ k = 1 ∨ k = 2
  · rw [if_pos h, if_pos h]
    rfl
  · rw [if_neg h, if_neg h, List.all_map]
    rfl

/-- An open place: where it lies, its mark, how deep it is. -/
structure EI where
  b : Nat
  o : Nat
  m : Option Addr
  d : Nat
  x : ReV
  t : RT
def EI.cells (e : EI) : List Value := [.pointer (some ⟨e.b, e.o, none⟩), .pointer e.m, .int .i64 e.d]
structure EI.Ok (w : World) (P : Nat → Prop) (D : Nat) (e : EI) : Prop where
  place : PlaceR w e.b e.o e.x
  tree : RAt w P e.x e.t
  mark : MarkR w e.m e.t.sz
  dep : e.d + e.t.sz ≤ D
theorem flat3_len (l : List EI) : (l.flatMap EI.cells).length = l.length * 3 := by
  induction l with
  | nil => rfl
  | cons x l ih => simp [EI.cells] at ih ⊢; omega
theorem heap_set_ne (W : World) {B g : Nat} (o : Nat) (v : Value) (h : g ≠ B) : (W.setCell ⟨B, o, none⟩ v).heap[g]? = W.heap[g]? := by
  simp [World.setCell, Array.getElem?_modify, Ne.symm h]
theorem own_at {W W' : World} {base size g cap n : Nat} {e : TypeId} {xs : List Value} (h : W.ownsRow base e size (.slice (some ⟨g, 0, none⟩) n cap) n xs) (hk : W'.heap[g]? = W.heap[g]?) : W'.ownsRow base e size (.slice (some ⟨g, 0, none⟩) n cap) n xs := by
  refine ⟨h.1, ?_⟩
  rcases h.2 with ⟨hn, _⟩ | ⟨g', cap', cur, hv, hb, hg, rest⟩
  · cases hn
  · have e1 : g = g' := by simp at hv; exact hv.1
    exact .inr ⟨g', cap', cur, hv, hb, by rw [← e1, hk, e1]; exact hg, rest⟩
theorem infoPlace : (Tryz.prog.info? 138).map (fun i => (i.zero, i.size, i.bytes)) = some (some (.agg #[.pointer none, .pointer none, .int .i64 0]), 3, 24) := by kernel_rfl
theorem place_parts : ∃ i0, Tryz.prog.info? 138 = some i0 ∧ i0.zero = some (.agg #[.pointer none, .pointer none, .int .i64 0]) ∧ i0.size = 3 ∧ i0.bytes = 24 := by
  have h := infoPlace
  cases e : Tryz.prog.info? 138 with
  | none => rw [e] at h; cases h
  | some j =>
    rw [e] at h
    simp at h
    exact ⟨j, rfl, h.1, h.2.1, h.2.2⟩

set_option maxRecDepth 100000 in
set_option maxHeartbeats 1000000 in
/-- kidsOf: the slice of the kids, by the kind. -/
theorem kidsof_any (W : World) (b o : Nat) (x : ReV) (hp : PlaceR W b o x) :
    Calls Tryz.prog 93 #[.pointer (some ⟨b, o, none⟩)] W fun e w' => e = .returned (if x.kind = 0 ∨ x.kind = 1 ∨ x.kind = 2 then .slice none 0 0 else .slice x.p x.n x.cap) ∧ W = w' := by
  obtain ⟨c0, _, _, _, _, c5⟩ := hp.six
  obtain ⟨V, hV⟩ : ∃ V, V = (if x.kind = 0 ∨ x.kind = 1 ∨ x.kind = 2 then Value.slice none 0 0 else Value.slice x.p x.n x.cap) := ⟨_, rfl⟩
  rw [← hV]
  obtain ⟨k, hk⟩ : ∃ k, k = x.kind := ⟨_, rfl⟩
  rw [← hk] at c0 hV
  have HV := Lib.hid hV
  clear hV hk hp
  by_cases k0 : k = 0
  · subst k0
    go_enter Tryz.func93, Tryz.ntmps93
    go_wp2
    go_ret
    exact ⟨by rw [HV.out]; rfl, rfl⟩
  · by_cases k1 : k = 1
    · subst k1
      go_enter Tryz.func93, Tryz.ntmps93
      go_wp2
      go_ret
      exact ⟨by rw [HV.out]; rfl, rfl⟩
    · by_cases k2 : k = 2
      · subst k2
        go_enter Tryz.func93, Tryz.ntmps93
        go_wp2
        go_ret
        exact ⟨by rw [HV.out]; rfl, rfl⟩
      · have q0 : (k == 0) = false := by simpa using k0
        have q1 : (k == 1) = false := by simpa using k1
        have q2 : (k == 2) = false := by simpa using k2
        go_enter Tryz.func93, Tryz.ntmps93
        go_wp2
        go_ret
        exact ⟨by rw [HV.out, if_neg (by simp [k0, k1, k2])]; rfl, rfl⟩

theorem flat3_at (l : List EI) (e : EI) (xs : List Value) : ((l ++ [e]).flatMap EI.cells ++ xs) = l.flatMap EI.cells ++ (.pointer (some ⟨e.b, e.o, none⟩) :: .pointer e.m :: .int .i64 e.d :: xs) := by simp [EI.cells]
theorem kidsof_tree {w W : World} {P : Nat → Prop} {b o : Nat} {x : ReV} {t : RT} (hp : PlaceR w b o x) (ht : RAt w P x t) (hb : Below w.heap.size w W) :
    Calls Tryz.prog 93 #[.pointer (some ⟨b, o, none⟩)] W fun e w' => ∃ pv nv cv vs, e = .returned (.slice pv nv cv) ∧ KidsR w P pv nv cv vs (kidsB t) ∧ W = w' := by
  refine (kidsof_any W b o x (hp.under hb)).mono ?_
  rintro _ _ ⟨rfl, rfl⟩
  obtain ⟨vs, e, _, hk⟩ := ht.kids
  have ek : t.kind = x.kind := by rw [e]; rfl
  by_cases c : x.kind = 0 ∨ x.kind = 1 ∨ x.kind = 2
  · rw [if_pos c]
    have e2 : kidsB t = [] := by unfold kidsB; rw [ek, if_pos c]
    exact ⟨_, _, _, [], rfl, by rw [e2]; exact ⟨.inl ⟨rfl, fun _ => rfl⟩, rfl, rfl, fun i y t hy => by simp at hy⟩, rfl⟩
  · rw [if_neg c]
    have e2 : kidsB t = t.kids := by unfold kidsB; rw [ek, if_neg c]
    exact ⟨_, _, _, vs, rfl, by rw [e2]; exact hk, rfl⟩
theorem kidsB_sz (t : RT) : ((kidsB t).map RT.sz).sum < t.sz := by
  obtain ⟨k, s, kids⟩ := t
  rw [sz_mk]
  unfold kidsB
  split
  · simp
    omega
  · show (kids.map RT.sz).sum < _
    omega
theorem new3 (w : World) (cs : Array Value) (t : TypeId) (l : List Value) (hl : l = cs.toList) : ∀ j u, l[j]? = some u → (w.alloc (.cells cs t)).cell? ((⟨w.heap.size, 0, none⟩ : Addr).add j) = some u := by
  intro j u hj
  subst hl
  have h := heap_alloc_new w (.cells cs t)
  have e : (⟨w.heap.size, 0, none⟩ : Addr).add j = ⟨w.heap.size, j, none⟩ := by cases j <;> simp [Addr.add]
  rw [e]
  unfold World.cell?
  simp only [h]
  simpa using hj
/-- What the kids of one are, as open places. -/
def EI.kid (gk offk : Nat) (mk : Option Addr) (d : Nat) (vs : List ReV) (ks : List RT) (j : Nat) : EI := ⟨gk, offk + j * 6, mk, d + 1, vs.getD j default, ks.getD j noneM⟩
def EI.kidsTo (gk offk : Nat) (mk : Option Addr) (d : Nat) (vs : List ReV) (ks : List RT) (i : Nat) : List EI := (List.range i).map (EI.kid gk offk mk d vs ks)
theorem kidsTo_succ (gk offk : Nat) (mk : Option Addr) (d : Nat) (vs : List ReV) (ks : List RT) (i : Nat) : EI.kidsTo gk offk mk d vs ks (i + 1) = EI.kidsTo gk offk mk d vs ks i ++ [EI.kid gk offk mk d vs ks i] := by
  unfold EI.kidsTo
  rw [List.range_succ, List.map_append]
  rfl
theorem kidsTo_len (gk offk : Nat) (mk : Option Addr) (d : Nat) (vs : List ReV) (ks : List RT) (i : Nat) : (EI.kidsTo gk offk mk d vs ks i).length = i := by simp [EI.kidsTo]
theorem kidsTo_trees (gk offk : Nat) (mk : Option Addr) (d : Nat) (vs : List ReV) (ks : List RT) : (EI.kidsTo gk offk mk d vs ks ks.length).map (fun e => e.t) = ks := by
  apply List.ext_getElem?
  intro i
  by_cases hi : i < ks.length
  · simp [EI.kidsTo, EI.kid, hi]
  · simp [EI.kidsTo, hi]
set_option maxRecDepth 100000 in
set_option maxHeartbeats 8000000 in
/-- every: whether all in it is wanted. -/
theorem every_any (K : Nat) (q : RT → Bool) (eg : ∀ args w, (callFunc K args).run Tryz.prog w = .ok (.enter K args) w) (P : Nat → Prop)
    (hw : ∀ (W : World) (b o : Nat) (x : ReV) (t : RT), PlaceR W b o x → RAt W P x t → Calls Tryz.prog K #[.pointer (some ⟨b, o, none⟩)] W (GivesBool (q t) W))
    (w : World) (b0 o0 : Nat) (x0 : ReV) (t0 : RT) (hp0 : PlaceR w b0 o0 x0) (ht0 : RAt w P x0 t0) (hsz0 : t0.sz ≤ 1000000000000) :
    Calls Tryz.prog 86 #[.pointer (some ⟨b0, o0, none⟩), .func (.func K) #[] #[]] w (GivesBool (evB q t0) w) := by
  obtain ⟨i0, hi0, hz0, hz1, hz2⟩ := place_parts
  have HW := Lib.hid hw
  have HOK0 : Hid (EI.Ok w P (t0.sz + 1) ⟨b0, o0, none, 1, x0, t0⟩) := ⟨hp0, ht0, .inl rfl, by simp; omega⟩
  obtain ⟨R, hR⟩ : ∃ R, R = evB q t0 := ⟨_, rfl⟩
  rw [← hR]
  have HR := Lib.hid hR
  obtain ⟨D, hD⟩ : ∃ D, D = t0.sz + 1 := ⟨_, rfl⟩
  have hDb : D ≤ 1000000000001 := by omega
  have HT0 : Hid (t0.sz + 1 = D) := hD.symm
  rw [← hD] at HOK0
  have hcl : b0 < w.heap.size := hp0.blk.lt
  clear hw hR hD hp0 ht0 hsz0
  go_enter Tryz.func86, Tryz.ntmps86
  go_wp2
  go_loopg [5] (2 * D) (fun gk v wr => ∃ (Q : List EI) (g cap : Nat), v = .slice (some ⟨g, 0, none⟩) Q.length cap ∧ Hid (Below w.heap.size w wr) ∧ Hid (wr.ownsRow w.heap.size 138 3 (.slice (some ⟨g, 0, none⟩) Q.length cap) Q.length (Q.flatMap EI.cells)) ∧
    Hid (∀ e ∈ Q, EI.Ok w P D e) ∧ Hid ((Q.map fun e => e.t.sz).sum ≤ gk ∧ (Q.map fun e => e.t.sz).sum ≤ D) ∧ Hid (R = Q.all fun e => evB q e.t))
  case atStart =>
    refine ⟨[⟨b0, o0, none, 1, x0, t0⟩], _, _, rfl, by unfold Hid; go_grown, ?_, ?_, ?_, ?_⟩
    · exact row_of_block (Nat.le_refl _) (heap_alloc_new w _) (by simp; unfold maxLen; omega) rfl
    · intro e he
      simp at he
      subst he
      exact HOK0.out
    · have := HT0.out
      unfold Hid
      simp
      omega
    · unfold Hid
      rw [HR.out]
      simp
  case round =>
    obtain ⟨Q, g, cap, rfl, HB, HROW, HQ, HS, HA⟩ := hrel
    rcases List.eq_nil_or_concat Q with hQ | ⟨Q', e, hQ⟩
    · subst hQ
      go_wp2
      go_ret
      exact ⟨by rw [HA.out]; rfl, HB.out⟩
    · rw [List.concat_eq_append] at hQ
      subst hQ
      have HE : Hid (EI.Ok w P D e) := HQ.out e (by simp)
      have HQ' : Hid (∀ e ∈ Q', EI.Ok w P D e) := fun x hx => HQ.out x (by simp [hx])
      have hsum : ((Q' ++ [e]).map fun e => e.t.sz).sum = (Q'.map fun e => e.t.sz).sum + e.t.sz := by simp
      have HS' : Hid ((Q'.map fun e => e.t.sz).sum + e.t.sz ≤ gk ∧ (Q'.map fun e => e.t.sz).sum + e.t.sz ≤ D) := by rw [← hsum]; exact HS.out
      have HA' : Hid (R = ((Q'.all fun e => evB q e.t) && evB q e.t)) := by
        have := HA.out
        unfold Hid
        rw [this, List.all_append]
        simp
      have hlen : (Q' ++ [e]).length = Q'.length + 1 := by simp
      rw [hlen] at HROW ⊢
      obtain ⟨n, hn⟩ : ∃ n, n = Q'.length := ⟨_, rfl⟩
      have HN : Hid (n = Q'.length) := hn
      rw [← hn] at HROW ⊢
      have hfl : (Q' ++ [e]).flatMap EI.cells = Q'.flatMap EI.cells ++ e.cells := by simp
      rw [hfl] at HROW
      have hl3 := flat3_len Q'
      rw [← hn] at hl3
      have c0 := row_cell HROW.out (j := n * 3) (u := .pointer (some ⟨e.b, e.o, none⟩)) (by rw [List.getElem?_append_right (by omega), hl3, Nat.sub_self]; rfl)
      have c1 := row_cell HROW.out (j := n * 3 + 1) (u := .pointer e.m) (by rw [List.getElem?_append_right (by omega), hl3, show n * 3 + 1 - n * 3 = 1 by omega]; rfl)
      have c2 := row_cell HROW.out (j := n * 3 + 2) (u := .int .i64 e.d) (by rw [List.getElem?_append_right (by omega), hl3, show n * 3 + 2 - n * 3 = 2 by omega]; rfl)
      obtain ⟨hg1, hg2, hg3, hg4⟩ := row_base HROW.out
      have HPOP : Hid (wr.ownsRow w.heap.size 138 3 (.slice (some ⟨g, 0, none⟩) n cap) n (Q'.flatMap EI.cells)) := ownsRow_pop hl3 HROW.out
      have hsD : e.d + e.t.sz ≤ D := HE.out.dep
      have hsp := sz_pos e.t
      clear hsum hlen hfl hl3 hn HQ HS HA HROW
      unfold maxLen at hg3
      -- the place in a box of its own
      have HB1 : Hid (Below w.heap.size w (wr.alloc (.cells #[.pointer (some ⟨e.b, e.o, none⟩), .pointer e.m, .int .i64 e.d] 138))) := HB.out.alloc HB.out.size _
      have hpe := eql_markR HE.out.mark HE.out.place HE.out.tree HB1.out
      have hcon := HW.out (wr.alloc (.cells #[.pointer (some ⟨e.b, e.o, none⟩), .pointer e.m, .int .i64 e.d] 138)) e.b e.o e.x e.t (HE.out.place.under HB1.out) (HE.out.tree.under HB1.out)
      unfold GivesBool at hcon
      obtain ⟨b, hb⟩ : ∃ b, b = q e.t := ⟨_, rfl⟩
      rw [← hb] at hcon
      have HQT : Hid (b = q e.t) := hb
      clear hb
      have HB0 : Hid (∀ b, b < wr.heap.size → (wr.alloc (.cells #[.pointer (some ⟨e.b, e.o, none⟩), .pointer e.m, .int .i64 e.d] 138)).heap[b]? = wr.heap[b]?) := fun b hb => Below.heap_alloc _ _ _ hb
      have hnw : (wr.alloc (.cells #[.pointer (some ⟨e.b, e.o, none⟩), .pointer e.m, .int .i64 e.d] 138)).heap[wr.heap.size]? = some (.cells #[.pointer (some ⟨e.b, e.o, none⟩), .pointer e.m, .int .i64 e.d] 138 (0, 0)) := heap_alloc_new wr _
      have HNW := Lib.hid hnw
      have hWs : (wr.alloc (.cells #[.pointer (some ⟨e.b, e.o, none⟩), .pointer e.m, .int .i64 e.d] 138)).heap.size = wr.heap.size + 1 := by simp
      have HWS := Lib.hid hWs
      clear hnw hWs
      go_wp2_with fail
      refine hcon.mono ?_
      rintro _ w1 ⟨rfl, hb1⟩
      have HBX : Hid (Below w.heap.size w w1) := below_then HB1.out hb1
      have hbx : w1.heap[wr.heap.size]? = some (.cells #[.pointer (some ⟨e.b, e.o, none⟩), .pointer e.m, .int .i64 e.d] 138 (0, 0)) := (hb1.block wr.heap.size (by rw [HWS.out]; omega)).trans HNW.out
      have HROW1 : Hid (w1.ownsRow w.heap.size 138 3 (.slice (some ⟨g, 0, none⟩) n cap) n (Q'.flatMap EI.cells)) := own_at HPOP.out ((hb1.block g (by rw [HWS.out]; omega)).trans (HB0.out g hg4))
      have hs1 : wr.heap.size + 1 ≤ w1.heap.size := by rw [← HWS.out]; exact hb1.size
      obtain ⟨B, hBB⟩ : ∃ B, B = wr.heap.size := ⟨_, rfl⟩
      rw [← hBB] at hbx hs1 hg4 ⊢
      have hBw : w.heap.size ≤ B := by rw [hBB]; exact HB.out.size
      clear hb1 hcon hpe HB1 HB0 HNW HWS HPOP HB hBB
      have k0 : w1.cell? ⟨B, 0, none⟩ = some (.pointer (some ⟨e.b, e.o, none⟩)) := by simp [World.cell?, hbx]
      have k1 : w1.cell? ⟨B, 1, none⟩ = some (.pointer e.m) := by simp [World.cell?, hbx]
      have k2 : w1.cell? ⟨B, 2, none⟩ = some (.int .i64 e.d) := by simp [World.cell?, hbx]
      have kf : w1.frozen? ⟨B, 1, none⟩ = false := by simp [World.frozen?, hbx]
      have HBXB := Lib.hid hbx
      clear hbx
      cases b with
      | false =>
        go_wp2
        go_ret
        refine ⟨?_, HBX.out⟩
        have e0 : R = false := by
          rw [HA'.out, evB_eq q e.t, ← HQT.out]
          simp
        rw [e0]
        rfl
      | true =>
        have hev : Hid (evB q e.t = (kidsB e.t).all (evB q)) := by
          unfold Hid
          rw [evB_eq q e.t, ← HQT.out]
          simp
        have hkc := kidsof_tree HE.out.place HE.out.tree HBX.out
        cases hc : (bits .and .i64 (e.d : Int) ((e.d : Int) - 1) == 0) with
        | false =>
          have hkc2 := hkc
          have hnb2 := hsD
          clear hkc
          go_wp2_with fail
          ((with_reducible refine hkc2.mono ?_))
          rintro _ _ ⟨pv, nv, cv, vs, rfl, hK, rfl⟩
          obtain ⟨gk2, offk, hpv⟩ : ∃ gk2 offk, nv = 0 ∨ pv = some ⟨gk2, offk, none⟩ := by
            rcases hK.row with ⟨h0, _⟩ | ⟨g', off', h0, _⟩
            · exact ⟨0, 0, .inl h0⟩
            · exact ⟨g', off', .inr h0⟩
          have HK := Lib.hid hK
          have HPV := Lib.hid hpv
          have hks := kidsB_sz e.t
          have hnv : nv = (kidsB e.t).length := hK.num
          have hnv2 : nv ≤ ((kidsB e.t).map RT.sz).sum := by
            rw [hnv]
            generalize kidsB e.t = L
            induction L with
            | nil => simp
            | cons a L ih => have := sz_pos a; simp; omega
          have hnvb : nv ≤ 1000000000001 := by omega
          have HNV : Hid (nv = (kidsB e.t).length) := hnv
          have HKS := Lib.hid hks
          have HQL : Hid (Q'.length = n) := HN.out.symm
          have hnb : n ≤ D := by
            rw [HN.out]
            have h1 := HS'.out.2
            have h2 : Q'.length ≤ (Q'.map fun e => e.t.sz).sum := by
              generalize Q' = L
              induction L with
              | nil => simp
              | cons a L ih => have := sz_pos a.t; simp; omega
            omega
          clear hK hpv hkc2 hnv hks hnv2
          have HOK : Hid (∀ i, i < nv → EI.Ok w P D (EI.kid gk2 offk e.m e.d vs (kidsB e.t) i)) := fun i hi => by
            have hl1 : vs[i]? = some (vs.getD i default) := by rw [List.getD_eq_getElem?_getD, List.getElem?_eq_getElem (by rw [HK.out.len, ← HNV.out]; exact hi)]; rfl
            have hl2 : (kidsB e.t)[i]? = some ((kidsB e.t).getD i noneM) := by rw [List.getD_eq_getElem?_getD, List.getElem?_eq_getElem (by rw [← HNV.out]; exact hi)]; rfl
            have hk' := HK.out
            rw [HPV.out.resolve_left (by omega)] at hk'
            have hm := sum_mem (List.mem_of_getElem? hl2)
            have hks := HKS.out
            refine ⟨hk'.place hl1, HK.out.each i _ _ hl1 hl2, ?_, ?_⟩
            · show MarkR w e.m ((kidsB e.t).getD i noneM).sz
              exact HE.out.mark.less (by omega)
            · show e.d + 1 + ((kidsB e.t).getD i noneM).sz ≤ D
              omega
          clear HKS hnb2
          go_wp2_with fail
          go_loopg [5, 53] nv (fun gk v vi wr => ∃ (i g2 cap2 : Nat), v = .slice (some ⟨g2, 0, none⟩) (n + i) cap2 ∧ vi = .int .i64 i ∧ i ≤ nv ∧ nv - i ≤ gk ∧ Hid (Below w.heap.size w wr) ∧ g2 ≠ B ∧ B < wr.heap.size ∧ Hid (wr.heap[B]? = some (.cells #[.pointer (some ⟨e.b, e.o, none⟩), .pointer e.m, .int .i64 e.d] 138 (0, 0))) ∧
            Hid (wr.ownsRow w.heap.size 138 3 (.slice (some ⟨g2, 0, none⟩) (n + i) cap2) (n + i) ((Q' ++ EI.kidsTo gk2 offk e.m e.d vs (kidsB e.t) i).flatMap EI.cells)))
          case atStart =>
            refine ⟨0, g, cap, rfl, rfl, by omega, by omega, HBX, by omega, by first | omega | (simp; omega), ?_, ?_⟩
            · exact HBXB.out
            · show World.ownsRow _ w.heap.size 138 3 _ n ((Q' ++ []).flatMap EI.cells)
              rw [List.append_nil]
              exact HROW1.out
          case round =>
            obtain ⟨i, g2, cap2, rfl, rfl, hin, hgk, HBI, hgB, hBl, HBB, HRI⟩ := hrel
            by_cases hlt : i < nv
            · have hltz : (i : Int) < (nv : Int) := by omega
              have e1 := HPV.out.resolve_left (by omega)
              subst e1
              have l0 : wr.cell? ⟨B, 0, none⟩ = some (.pointer (some ⟨e.b, e.o, none⟩)) := by simp [World.cell?, HBB.out]
              have l1 : wr.cell? ⟨B, 1, none⟩ = some (.pointer e.m) := by simp [World.cell?, HBB.out]
              have l2 : wr.cell? ⟨B, 2, none⟩ = some (.int .i64 e.d) := by simp [World.cell?, HBB.out]
              have hwd : IntKind.i64.wrap ((e.d : Int) + 1) = (e.d : Int) + 1 := by rw [IntKind.wrap_i64]; omega
              obtain ⟨r1, r2, r3, r4⟩ := row_base HRI.out
              unfold maxLen at r3
              have HROWI := Lib.hid (show ((wr.drew).alloc (.cells #[.pointer (some ⟨gk2, offk + i * 6, none⟩), .pointer e.m, .int .i64 ((e.d : Int) + 1)] 138)).ownsRow w.heap.size 138 3 (.slice (some ⟨g2, 0, none⟩) (n + i) cap2) (n + i) ((Q' ++ EI.kidsTo gk2 offk e.m e.d vs (kidsB e.t) i).flatMap EI.cells) from own_at HRI.out (Below.heap_alloc _ _ _ r4))
              have HBI1 : Hid (Below w.heap.size w ((wr.alloc (.cells #[.pointer (some ⟨gk2, offk + i * 6, none⟩), .pointer e.m, .int .i64 ((e.d : Int) + 1)] 138)).drew)) := below_drawn (HBI.out.alloc HBI.out.size _) 1
              have hwle : w.heap.size ≤ wr.heap.size := HBI.out.size
              have HRL : Hid (w.heap.size ≤ g2) := r1
              have HR4 : Hid (g2 < wr.heap.size) := r4
              clear HBI HRI r1 r2 r3 r4
              go_wp2_with fail
              go_region_law (first | (refine step_append_lies _ (by rfl) _ _ _ (by rfl) w.heap.size 138 i0 _ 3 24 Tryz.underlying139 hi0 hz0 hz1 hz2 rfl (by omega) (.slice (some ⟨g2, 0, none⟩) (n + i) cap2) (n + i) ((Q' ++ EI.kidsTo gk2 offk e.m e.d vs (kidsB e.t) i).flatMap EI.cells) (by rfl) HROWI.out ⟨wr.heap.size, 0, none⟩ 1 1 [.pointer (some ⟨gk2, offk + i * 6, none⟩), .pointer e.m, .int .i64 ((e.d : Int) + 1)] (by rfl) (by rfl) (new3 _ _ _ _ rfl) (by intro u hu; simp at hu; rcases hu with rfl | rfl | rfl <;> rfl) (by omega) (by unfold maxLen; omega) (by omega) (by simp; omega) (wr.heap.size + 1) (by simp) ?_; intro gb cap3 w3 hown hgrow hat hlt3; have HOWN := Lib.hid hown; have HGROW := Lib.hid hgrow; clear hown hgrow) | fail)
              all_goals go_wp2
              all_goals
                have hgr : wr.heap.size + 1 ≤ w3.heap.size := by
                  have := HGROW.out.size
                  simpa using this
                have hgB2 : gb ≠ B := by
                  rcases hat with h | h
                  · simp [Value.ownBlock] at h
                    omega
                  · omega
                go_roundg (nv - (i + 1))
                case measure => omega
                case rel =>
                  refine ⟨i + 1, gb, cap3, by rw [show n + i + 1 = n + (i + 1) by omega], by go_num, by omega, Nat.le_refl _, ?_, hgB2, by omega, ?_, ?_⟩
                  · exact HBI1.out.grown HGROW.out (by simp; omega) (fun b hb => by have := HRL.out; simp [Value.ownBlock] at hb; omega)
                  · exact (HGROW.out.block B (by simp; omega) (fun e => hgB (by simp [Value.ownBlock] at e; omega))).trans ((Below.heap_alloc _ _ _ hBl).trans HBB.out)
                  · unfold Hid
                    have := HOWN.out
                    rw [kidsTo_succ, ← List.append_assoc, List.flatMap_append]
                    rw [show n + i + 1 = n + (i + 1) by omega] at this
                    simpa [EI.cells, EI.kid] using this
            · have e1 : i = nv := by omega
              subst e1
              have HFIN : Hid (((Q' ++ EI.kidsTo gk2 offk e.m e.d vs (kidsB e.t) i).map fun e => e.t.sz).sum = (Q'.map fun e => e.t.sz).sum + ((kidsB e.t).map RT.sz).sum) := by
                unfold Hid
                rw [List.map_append, List.sum_append]
                congr 1
                have := congrArg (fun l => (l.map RT.sz).sum) (kidsTo_trees gk2 offk e.m e.d vs (kidsB e.t))
                rw [← HNV.out] at this
                rw [← this, List.map_map]
                rfl
              have HFIN2 : Hid ((EI.kidsTo gk2 offk e.m e.d vs (kidsB e.t) i).all (fun e => evB q e.t) = (kidsB e.t).all (evB q)) := by
                unfold Hid
                have := congrArg (fun l => l.all (evB q)) (kidsTo_trees gk2 offk e.m e.d vs (kidsB e.t))
                rw [← HNV.out] at this
                rw [← this, List.all_map]
                rfl
              have HLN : Hid ((Q' ++ EI.kidsTo gk2 offk e.m e.d vs (kidsB e.t) i).length = n + i) := by
                unfold Hid
                rw [List.length_append, kidsTo_len, HQL.out]
              go_wp2
              go_roundg ((Q'.map fun e => e.t.sz).sum + ((kidsB e.t).map RT.sz).sum)
              case measure =>
                have h1 := HS'.out
                have h2 := kidsB_sz e.t
                omega
              case rel =>
                refine ⟨Q' ++ EI.kidsTo gk2 offk e.m e.d vs (kidsB e.t) i, g2, cap2, by rw [HLN.out], HBI, ?_, ?_, ?_, ?_⟩
                · unfold Hid
                  rw [HLN.out]
                  exact HRI.out
                · intro z hz
                  rcases List.mem_append.1 hz with hz | hz
                  · exact HQ'.out z hz
                  · unfold EI.kidsTo at hz
                    obtain ⟨j, hj, rfl⟩ := List.mem_map.1 hz
                    exact HOK.out j (List.mem_range.1 hj)
                · unfold Hid
                  rw [HFIN.out]
                  have h1 := HS'.out
                  have h2 := kidsB_sz e.t
                  omega
                · unfold Hid
                  rw [HA'.out, List.all_append, HFIN2.out, hev.out]
        | true =>
          have HBX2 : Hid (Below w.heap.size w (w1.setCell ⟨B, 1, none⟩ (.pointer (some ⟨e.b, e.o, none⟩)))) := HBX.out.setCell hBw _
          have hkc2 := kidsof_tree HE.out.place HE.out.tree HBX2.out
          have hnb2 := hsD
          clear hkc
          go_wp2_with fail
          ((with_reducible refine hkc2.mono ?_))
          rintro _ _ ⟨pv, nv, cv, vs, rfl, hK, rfl⟩
          obtain ⟨gk2, offk, hpv⟩ : ∃ gk2 offk, nv = 0 ∨ pv = some ⟨gk2, offk, none⟩ := by
            rcases hK.row with ⟨h0, _⟩ | ⟨g', off', h0, _⟩
            · exact ⟨0, 0, .inl h0⟩
            · exact ⟨g', off', .inr h0⟩
          have HK := Lib.hid hK
          have HPV := Lib.hid hpv
          have hks := kidsB_sz e.t
          have hnv : nv = (kidsB e.t).length := hK.num
          have hnv2 : nv ≤ ((kidsB e.t).map RT.sz).sum := by
            rw [hnv]
            generalize kidsB e.t = L
            induction L with
            | nil => simp
            | cons a L ih => have := sz_pos a; simp; omega
          have hnvb : nv ≤ 1000000000001 := by omega
          have HNV : Hid (nv = (kidsB e.t).length) := hnv
          have HKS := Lib.hid hks
          have HQL : Hid (Q'.length = n) := HN.out.symm
          have hnb : n ≤ D := by
            rw [HN.out]
            have h1 := HS'.out.2
            have h2 : Q'.length ≤ (Q'.map fun e => e.t.sz).sum := by
              generalize Q' = L
              induction L with
              | nil => simp
              | cons a L ih => have := sz_pos a.t; simp; omega
            omega
          clear hK hpv hkc2 hnv hks hnv2
          have HOK : Hid (∀ i, i < nv → EI.Ok w P D (EI.kid gk2 offk (some ⟨e.b, e.o, none⟩) e.d vs (kidsB e.t) i)) := fun i hi => by
            have hl1 : vs[i]? = some (vs.getD i default) := by rw [List.getD_eq_getElem?_getD, List.getElem?_eq_getElem (by rw [HK.out.len, ← HNV.out]; exact hi)]; rfl
            have hl2 : (kidsB e.t)[i]? = some ((kidsB e.t).getD i noneM) := by rw [List.getD_eq_getElem?_getD, List.getElem?_eq_getElem (by rw [← HNV.out]; exact hi)]; rfl
            have hk' := HK.out
            rw [HPV.out.resolve_left (by omega)] at hk'
            have hm := sum_mem (List.mem_of_getElem? hl2)
            have hks := HKS.out
            refine ⟨hk'.place hl1, HK.out.each i _ _ hl1 hl2, ?_, ?_⟩
            · show MarkR w (some ⟨e.b, e.o, none⟩) ((kidsB e.t).getD i noneM).sz
              exact .inr ⟨e.b, e.o, e.x, e.t, rfl, HE.out.place, HE.out.tree.weak fun _ _ _ => trivial, by omega⟩
            · show e.d + 1 + ((kidsB e.t).getD i noneM).sz ≤ D
              omega
          clear HKS hnb2
          go_wp2_with fail
          go_loopg [5, 53] nv (fun gk v vi wr => ∃ (i g2 cap2 : Nat), v = .slice (some ⟨g2, 0, none⟩) (n + i) cap2 ∧ vi = .int .i64 i ∧ i ≤ nv ∧ nv - i ≤ gk ∧ Hid (Below w.heap.size w wr) ∧ g2 ≠ B ∧ B < wr.heap.size ∧ Hid (wr.heap[B]? = some (.cells #[.pointer (some ⟨e.b, e.o, none⟩), .pointer (some ⟨e.b, e.o, none⟩), .int .i64 e.d] 138 (0, 0))) ∧
            Hid (wr.ownsRow w.heap.size 138 3 (.slice (some ⟨g2, 0, none⟩) (n + i) cap2) (n + i) ((Q' ++ EI.kidsTo gk2 offk (some ⟨e.b, e.o, none⟩) e.d vs (kidsB e.t) i).flatMap EI.cells)))
          case atStart =>
            refine ⟨0, g, cap, rfl, rfl, by omega, by omega, HBX2, by omega, by first | omega | (simp; omega), ?_, ?_⟩
            · (show _ = _; rw [heap_setCell_same w1 B 1 _ _ _ HBXB.out]; rfl)
            · show World.ownsRow _ w.heap.size 138 3 _ n ((Q' ++ []).flatMap EI.cells)
              rw [List.append_nil]
              exact own_at HROW1.out (heap_set_ne _ _ _ (by omega))
          case round =>
            obtain ⟨i, g2, cap2, rfl, rfl, hin, hgk, HBI, hgB, hBl, HBB, HRI⟩ := hrel
            by_cases hlt : i < nv
            · have hltz : (i : Int) < (nv : Int) := by omega
              have e1 := HPV.out.resolve_left (by omega)
              subst e1
              have l0 : wr.cell? ⟨B, 0, none⟩ = some (.pointer (some ⟨e.b, e.o, none⟩)) := by simp [World.cell?, HBB.out]
              have l1 : wr.cell? ⟨B, 1, none⟩ = some (.pointer (some ⟨e.b, e.o, none⟩)) := by simp [World.cell?, HBB.out]
              have l2 : wr.cell? ⟨B, 2, none⟩ = some (.int .i64 e.d) := by simp [World.cell?, HBB.out]
              have hwd : IntKind.i64.wrap ((e.d : Int) + 1) = (e.d : Int) + 1 := by rw [IntKind.wrap_i64]; omega
              obtain ⟨r1, r2, r3, r4⟩ := row_base HRI.out
              unfold maxLen at r3
              have HROWI := Lib.hid (show ((wr.drew).alloc (.cells #[.pointer (some ⟨gk2, offk + i * 6, none⟩), .pointer (some ⟨e.b, e.o, none⟩), .int .i64 ((e.d : Int) + 1)] 138)).ownsRow w.heap.size 138 3 (.slice (some ⟨g2, 0, none⟩) (n + i) cap2) (n + i) ((Q' ++ EI.kidsTo gk2 offk (some ⟨e.b, e.o, none⟩) e.d vs (kidsB e.t) i).flatMap EI.cells) from own_at HRI.out (Below.heap_alloc _ _ _ r4))
              have HBI1 : Hid (Below w.heap.size w ((wr.alloc (.cells #[.pointer (some ⟨gk2, offk + i * 6, none⟩), .pointer (some ⟨e.b, e.o, none⟩), .int .i64 ((e.d : Int) + 1)] 138)).drew)) := below_drawn (HBI.out.alloc HBI.out.size _) 1
              have hwle : w.heap.size ≤ wr.heap.size := HBI.out.size
              have HRL : Hid (w.heap.size ≤ g2) := r1
              have HR4 : Hid (g2 < wr.heap.size) := r4
              clear HBI HRI r1 r2 r3 r4
              go_wp2_with fail
              go_region_law (first | (refine step_append_lies _ (by rfl) _ _ _ (by rfl) w.heap.size 138 i0 _ 3 24 Tryz.underlying139 hi0 hz0 hz1 hz2 rfl (by omega) (.slice (some ⟨g2, 0, none⟩) (n + i) cap2) (n + i) ((Q' ++ EI.kidsTo gk2 offk (some ⟨e.b, e.o, none⟩) e.d vs (kidsB e.t) i).flatMap EI.cells) (by rfl) HROWI.out ⟨wr.heap.size, 0, none⟩ 1 1 [.pointer (some ⟨gk2, offk + i * 6, none⟩), .pointer (some ⟨e.b, e.o, none⟩), .int .i64 ((e.d : Int) + 1)] (by rfl) (by rfl) (new3 _ _ _ _ rfl) (by intro u hu; simp at hu; rcases hu with rfl | rfl | rfl <;> rfl) (by omega) (by unfold maxLen; omega) (by omega) (by simp; omega) (wr.heap.size + 1) (by simp) ?_; intro gb cap3 w3 hown hgrow hat hlt3; have HOWN := Lib.hid hown; have HGROW := Lib.hid hgrow; clear hown hgrow) | fail)
              all_goals go_wp2
              all_goals
                have hgr : wr.heap.size + 1 ≤ w3.heap.size := by
                  have := HGROW.out.size
                  simpa using this
                have hgB2 : gb ≠ B := by
                  rcases hat with h | h
                  · simp [Value.ownBlock] at h
                    omega
                  · omega
                go_roundg (nv - (i + 1))
                case measure => omega
                case rel =>
                  refine ⟨i + 1, gb, cap3, by rw [show n + i + 1 = n + (i + 1) by omega], by go_num, by omega, Nat.le_refl _, ?_, hgB2, by omega, ?_, ?_⟩
                  · exact HBI1.out.grown HGROW.out (by simp; omega) (fun b hb => by have := HRL.out; simp [Value.ownBlock] at hb; omega)
                  · exact (HGROW.out.block B (by simp; omega) (fun e => hgB (by simp [Value.ownBlock] at e; omega))).trans ((Below.heap_alloc _ _ _ hBl).trans HBB.out)
                  · unfold Hid
                    have := HOWN.out
                    rw [kidsTo_succ, ← List.append_assoc, List.flatMap_append]
                    rw [show n + i + 1 = n + (i + 1) by omega] at this
                    simpa [EI.cells, EI.kid] using this
            · have e1 : i = nv := by omega
              subst e1
              have HFIN : Hid (((Q' ++ EI.kidsTo gk2 offk (some ⟨e.b, e.o, none⟩) e.d vs (kidsB e.t) i).map fun e => e.t.sz).sum = (Q'.map fun e => e.t.sz).sum + ((kidsB e.t).map RT.sz).sum) := by
                unfold Hid
                rw [List.map_append, List.sum_append]
                congr 1
                have := congrArg (fun l => (l.map RT.sz).sum) (kidsTo_trees gk2 offk (some ⟨e.b, e.o, none⟩) e.d vs (kidsB e.t))
                rw [← HNV.out] at this
                rw [← this, List.map_map]
                rfl
              have HFIN2 : Hid ((EI.kidsTo gk2 offk (some ⟨e.b, e.o, none⟩) e.d vs (kidsB e.t) i).all (fun e => evB q e.t) = (kidsB e.t).all (evB q)) := by
                unfold Hid
                have := congrArg (fun l => l.all (evB q)) (kidsTo_trees gk2 offk (some ⟨e.b, e.o, none⟩) e.d vs (kidsB e.t))
                rw [← HNV.out] at this
                rw [← this, List.all_map]
                rfl
              have HLN : Hid ((Q' ++ EI.kidsTo gk2 offk (some ⟨e.b, e.o, none⟩) e.d vs (kidsB e.t) i).length = n + i) := by
                unfold Hid
                rw [List.length_append, kidsTo_len, HQL.out]
              go_wp2
              go_roundg ((Q'.map fun e => e.t.sz).sum + ((kidsB e.t).map RT.sz).sum)
              case measure =>
                have h1 := HS'.out
                have h2 := kidsB_sz e.t
                omega
              case rel =>
                refine ⟨Q' ++ EI.kidsTo gk2 offk (some ⟨e.b, e.o, none⟩) e.d vs (kidsB e.t) i, g2, cap2, by rw [HLN.out], HBI, ?_, ?_, ?_, ?_⟩
                · unfold Hid
                  rw [HLN.out]
                  exact HRI.out
                · intro z hz
                  rcases List.mem_append.1 hz with hz | hz
                  · exact HQ'.out z hz
                  · unfold EI.kidsTo at hz
                    obtain ⟨j, hj, rfl⟩ := List.mem_map.1 hz
                    exact HOK.out j (List.mem_range.1 hj)
                · unfold Hid
                  rw [HFIN.out]
                  have h1 := HS'.out
                  have h2 := kidsB_sz e.t
                  omega
                · unfold Hid
                  rw [HA'.out, List.all_append, HFIN2.out, hev.out]

end Go.Proofs.YtclnadjgbpihcaaGreatDoor

