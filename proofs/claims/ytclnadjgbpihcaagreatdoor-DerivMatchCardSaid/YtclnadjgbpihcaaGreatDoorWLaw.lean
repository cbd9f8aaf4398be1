/- What the program's Match answers of expressions by at most 150 numbers and texts of at most 6 letters is what the document says. No condition. -/
import Derived.Test.YtclnadjgbpihcaaGreatDoorW6
import Derived.Test.YtclnadjgbpihcaaGreatDoorW5
namespace Go.Proofs.YtclnadjgbpihcaaGreatDoor.derivMatch
open Go.ChangeShapes Go.WideShapes Go.ChangeAt Go.RowKit Go.Proofs.YtclnadjgbpihcaaGreatDoor
open Go.ChangeMaps (open_string shut_string)
set_option linter.unusedVariables false
set_option linter.unusedSimpArgs false

open Go.Lib

set_option maxRecDepth 100000 in
set_option maxHeartbeats 8000000 in
theorem walk (x0 : Value) (z0 : List Int) (x1 : Value) (z1 : List Int) (w : World) (hT : Tab1 w) (h0 : BytesAt w x0 z0) (h1 : BytesAt w x1 z1) :
    Calls Tryz.prog 3 #[x0, x1] w (GivesBool true w) := by
  obtain ⟨av, nv, cv, rfl⟩ : ∃ a n c, x0 = .slice a n c := by obtain ⟨a, c, h, _⟩ := h0; exact ⟨a, _, c, h⟩
  obtain ⟨am, nm, cm, rfl⟩ : ∃ a n c, x1 = .slice a n c := by obtain ⟨a, c, h, _⟩ := h1; exact ⟨a, _, c, h⟩
  have HT := Lib.hid hT
  have hb2 := Below.refl w.heap.size w
  have HB2 := Lib.hid hb2
  obtain ⟨hnz, hlow⟩ := h0.low hb2
  subst hnz
  have c2 := made_any w av cv z0 0 (by decide) hlow
  rw [show ((0 : Nat) : Int) = 0 from rfl] at c2
  clear hb2 hlow h0 hT
  go_enter Tryz.func3, Tryz.ntmps3
  go_wp2_with fail
  ((with_reducible refine c2.mono ?_))
  rintro _ w3 ⟨x, rfl, hx, hb3⟩
  have HB3 : Hid (Below w.heap.size w w3) := HB2.out.trans (hb3.mono HB2.out.size)
  obtain ⟨r, hr⟩ : ∃ r, r = (reM z0 4 0).1 := ⟨_, rfl⟩
  rw [← hr] at hx
  have HLV : Hid (Lv 161 4842888568831 5008 5766931476091 4966 r) := by rw [hr]; exact re4_lv z0 0
  have HDEP : Hid (r.dep ≤ 5) := by rw [hr]; exact (re_facts z0 4 0).2.2.1
  obtain ⟨y0, y1, y2, y3, y4, y5, y6, y7⟩ := x
  obtain ⟨C, hC⟩ : ∃ C, C = w3.heap.size := ⟨_, rfl⟩
  obtain ⟨w4, hw4⟩ : ∃ w4 : World, w4 = w3.alloc (.cells #[.int .i64 y0, .int .u64 y1, .int .u64 y2, .int .u64 y3, .int .u64 y4, .slice y5 y6 y7] 28) := ⟨_, rfl⟩
  have hb34 : Below w3.heap.size w3 w4 := by rw [hw4]; exact (Below.refl _ _).alloc (Nat.le_refl _) _
  have H4C : Hid (w4.heap[C]? = some (.cells #[.int .i64 y0, .int .u64 y1, .int .u64 y2, .int .u64 y3, .int .u64 y4, .slice y5 y6 y7] 28 (0, 0))) := by unfold Hid; rw [hw4, hC]; exact heap_alloc_new _ _
  have HX4 : Hid (RAt w4 (fun b => b ≠ C) ⟨y0, y1, y2, y3, y4, y5, y6, y7⟩ r) := (hx.weak fun b _ hl => by omega).under hb34
  have HB4 : Hid (Below w.heap.size w w4) := HB3.out.trans (hb34.mono HB3.out.size)
  have HW4 := Lib.hid hw4
  have HCC := Lib.hid hC
  obtain ⟨hnz, hlow⟩ := h1.low HB4.out
  subst hnz
  have c3 := letters_any hlow 6 (by decide)
  rw [show ((6 : Nat) : Int) = 6 from rfl] at c3
  clear hx hb3 hb34 hr hw4 hC hlow h1 c2
  unfold ReV.val
  go_wp2_with fail
  rw [← HW4.out, ← HCC.out]
  ((with_reducible refine c3.mono ?_))
  rintro _ w5 ⟨s, hs, rfl, hb5⟩
  have HB5 : Hid (Below w4.heap.size w4 w5) := hb5
  have HS := Lib.hid hs
  clear hb5 hs c3
  have h5C := (HB5.out.block C (Array.getElem?_eq_some_iff.1 H4C.out).1).trans H4C.out
  have hx5 : RAt w5 (fun _ => True) ⟨y0, y1, y2, y3, y4, y5, y6, y7⟩ r := (HX4.out.under HB5.out).weak fun _ _ _ => trivial
  have hs6 : s.size ≤ 6 := HS.out
  have hlen : (byteL s).length = s.size := by unfold byteL; rw [List.length_map]; rfl
  have hT5 := HT.out.stays (HB4.out.trans (HB5.out.mono HB4.out.size))
  have hsz := HLV.out.sz
  have hend := end_all (l := byteL s) (fun c hc => by unfold byteL at hc; obtain ⟨u, _, rfl⟩ := List.mem_map.1 hc; exact u.toNat_lt) HLV.out.good hx5.ok
  rw [hlen] at hend
  have hH : HMt C ⟨y0, y1, y2, y3, y4, y5, y6, y7⟩ r s (nullM (dersM r (byteL s))) w5 := by
    refine ⟨h5C, hx5, fun w hb => awaked_any w (hT5.stays hb), fun w hb y hy => ?_, fun w hb y hy => ?_⟩
    · exact match_any w y r s hy (hT5.stays hb) (fitM_lv HLV.out (by have := HDEP.out; omega) _ (by rw [hlen]; exact hs6)) (by omega)
    · have h := refmatch_any s hs6 (fun _ => True) r y w HLV.out.good (by omega) hy
      rw [show endF r (byteL s) (fun j => decide (j = 0)) s.size = nullM (dersM r (byteL s)) from hend] at h
      exact h
  clear h5C hx5 hs6 hlen hT5 hsz hend
  go_wp2_with fail
  refine regMt C _ r s _ hH (by kernel_rfl) rfl ?_ ?_
  · intro q hq
    simp only [fMt, List.mem_cons, List.not_mem_nil, or_false] at hq
    rcases hq with rfl | rfl
    · rfl
    · rfl
  intro tm w9 htm h4 hb9
  have hres : (results Tryz.f3 tm).run Tryz.prog w9 = .ok (.bool true) w9 := by
    have hf : Tryz.f3.results = #[.tmp 4] := by kernel_rfl
    simp [results, hf]
    rw [← Array.getD_eq_getD_getElem?]
    exact h4
  refine (by assumption : ∀ (a : Act) (w : World), Code.wp Tryz.prog Code.ret _ a w → _) _ _ ?_
  have hend : GivesBool true w (.returned (.bool true)) w9 := ⟨rfl, HB4.out.trans ((HB5.out.trans (hb9.mono HB5.out.size)).mono HB4.out.size)⟩
  exact wp_ret (bodyPost_ret_by (P := Tryz.prog) (fn := Tryz.f3) (R := GivesBool true w) (a := ⟨tm, []⟩) hres rfl hend)

set_option maxRecDepth 100000 in
set_option maxHeartbeats 1000000 in
theorem lifted (os : Os) (started : os.Started) (H : Type) (enc : TypeId × Value → H) :
    ReturnsInHanded {} Tryz.checked os 3 .any (fun w args => (Rows.derivMatchSpec.pre enc Tryz.prog Tryz.f3 Rows.derivMatchRow.domain false w args ∧ laidMetH Tryz.prog Rows.derivMatchRow.laid w) ∧ sizedMet enc Tryz.prog Tryz.f3 (OpenSpec.ofChange Rows.derivMatchSpec) false w args)
      (Rows.derivMatchSpec.post enc Tryz.prog Tryz.f3 false true false false) := by
  refine returnsInHanded_of_change_and (C := Tryz.checked) (X := fun w _ => laidMetH Tryz.prog Rows.derivMatchRow.laid w) (fun _ _ _ hh h => h.of_heap hh) noKnob started (by kernel_rfl) Tryz.func3
    (ChangeSpec.witness_shaped (enc := enc) (C := Tryz.checked) (os := os) (X := fun w _ => laidMetH Tryz.prog Rows.derivMatchRow.laid w) false (World.laidAll Tryz.prog os Rows.derivMatchRow.laid) #[.slice none 0 0, .slice none 0 0] 8 (World.laidAll_os _ _ _)
      (World.shaped_of_ZipB (by kernel_rfl) (by kernel_rfl)) (by kernel_rfl) (by kernel_rfl) (by kernel_rfl)
      (by rw [MakeChecks.laidMetH_plain _ _ _ (by kernel_rfl)]; exact laidMet_laidAll _ (by kernel_rfl) (by kernel_rfl))) ?_
  intro W base args ds gs before hval0 hW hcnd _ hL _
  have hval : ∀ (j : Nat) t v, Tryz.f3.params[j]? = some t → args[j]? = some v → Value.okWide Tryz.prog W .any base t v := hval0
  have hW' := hW
  obtain ⟨p, q, hA0, hV, rfl, hfz, hnd⟩ := hW
  have hA : DataW.TrodAll enc Tryz.prog W 0 (fun _ => true) true Tryz.f3.params.toList args.toList ds p := hA0
  rw [Tryz.params3] at hA hval
  obtain ⟨v0, vs0, d0, ds0, p0, q0, hargs, rfl, rfl, h0, r0⟩ := trodAll_cons hA
  obtain ⟨v1, vs1, d1, ds1, p1, q1, rfl, rfl, rfl, h1, r1⟩ := trodAll_cons r0
  obtain ⟨rfl, rfl, rfl⟩ := trodAll_nil r1
  obtain rfl : args = #[v0, v1] := by cases args; simp_all
  obtain ⟨rfl, rfl⟩ := trodVars_none hV
  clear hA0 hval0 hA
  simp only [List.append_nil] at hW'
  have hlt := hW'.lt
  obtain ⟨z0, b0⟩ := open_bytes (hval 0 22 v0 rfl rfl) h0
  obtain ⟨z1, b1⟩ := open_bytes (hval 1 22 v1 rfl rfl) h1
  refine (walk v0 z0 v1 z1 W (tabs_of_laid hL (MakeChecks.laidMetH_plain _ _ _ (by kernel_rfl)) (by kernel_rfl) (by kernel_rfl)) b0 b1).mono fun e W' ⟨he, hg⟩ => ?_
  subst he
  exact ⟨_, rfl, post_of_old (pv := []) hW' (fun _ _ _ => trodAll_cons_mk (shut_bool Tryz.underlying4 _) trodAll_mk0) (trodAll_cons_mk (Below.trod laidOutP (by kernel_rfl) (of_decide_eq_true (by kernel_rfl)) h0 hg (fun x hx => by simpa using hlt x (by simp [hx]))) (trodAll_cons_mk (Below.trod laidOutP (by kernel_rfl) (of_decide_eq_true (by kernel_rfl)) h1 hg (fun x hx => by simpa using hlt x (by simp [hx]))) (trodAll_mk0))) (fun _ => rfl) (by simp) hg⟩

theorem over : Rows.derivMatchRow.holds Tryz.pinned (OpenSpec.ofChange Rows.derivMatchSpec) :=
  OpenClaim.holds_of_wide 3 Tryz.f3 rfl rfl rfl rfl rfl rfl rfl ⟨rfl, rfl, rfl, rfl, rfl⟩ rfl rfl rfl rfl rfl (by kernel_rfl) Tryz.func3 (by kernel_rfl)
    (of_decide_eq_true (by kernel_rfl)) (by unfold Func.isWrapper; first | (rw [if_pos (by decide +kernel)]; kernel_rfl) | (rw [if_neg (by decide +kernel)]; exact ⟨rfl, rfl⟩))
    (fun os started H enc _ => lifted os started H enc)

/-- No parameter wants a stand-in. -/
theorem plain (f : FuncId) (fn : Func) (hf : Tryz.pinned.checked.prog.funcNamed "reglet/regletlaw08.DerivMatch" = some f) (hfn : Tryz.pinned.checked.prog.funcs[f]? = some fn) :
    false = Tryz.pinned.checked.prog.looks [] ∧ ∀ (j : Nat) t, fn.params[j]? = some t → Tryz.pinned.checked.prog.wantsStandIn t = false := by
  obtain rfl : f = 3 := Option.some.inj ((show Tryz.prog.funcNamed "reglet/regletlaw08.DerivMatch" = some 3 by kernel_rfl).symm.trans hf) |>.symm
  obtain rfl : fn = Tryz.f3 := (Option.some.inj (Tryz.func3.symm.trans hfn)).symm
  refine ⟨by kernel_rfl, fun j t ht => ?_⟩
  rw [Tryz.params3] at ht
  have hm : t ∈ [22, 22] := by simpa using Array.mem_of_getElem? ht
  have hall : ([22, 22].all fun u => !Tryz.prog.wantsStandIn u) = true := by kernel_rfl
  exact (show Tryz.prog.wantsStandIn t = false by simpa using List.all_eq_true.1 hall t hm)

/-- The statement. -/
theorem proved : Rows.DerivMatchCardSaid :=
  Claim7.holds_tied_plain_at .later [] _ _ _ _ over (fun _ h => by cases h) (by kernel_rfl) (fun _ h => by cases h) derivMatch_row_tie rfl ⟨rfl, rfl⟩ (by kernel_rfl) rfl plain (by kernel_rfl)

#print axioms proved
end Go.Proofs.YtclnadjgbpihcaaGreatDoor.derivMatch
