/- What the program's Match answers of expressions by at most 100 numbers, ahead of any text, and of any text of at most 6 bytes, is what the document says. No condition. -/
import Derived.Test.YtclnadjgbpihcaaGreatDoorW6
import Derived.Test.YtclnadjgbpihcaaGreatDoorV0
import Derived.Test.YtclnadjgbpihcaaGreatDoorW5
namespace Go.Proofs.YtclnadjgbpihcaaGreatDoor.derivText
open Go.ChangeShapes Go.WideShapes Go.ChangeAt Go.RowKit Go.Proofs.YtclnadjgbpihcaaGreatDoor
open Go.ChangeMaps (open_string shut_string)
set_option linter.unusedVariables false
set_option linter.unusedSimpArgs false

open Go.Lib
theorem low_take {W : World} {R : Nat} {a : Option Addr} {cap : Nat} {zs : List Int} (h : BytesLow W R (.slice a zs.length cap) zs) (k : Nat) : BytesLow W R (.slice a (zs.take k).length cap) (zs.take k) := by
  obtain ⟨a', cap', h1, h2, h3, h4, h5⟩ := h
  cases h1
  have hl : (zs.take k).length ≤ zs.length := by rw [List.length_take]; omega
  refine ⟨a, cap, rfl, by omega, by omega, fun z hz => h4 z (List.mem_of_mem_take hz), fun hn => ?_⟩
  obtain ⟨b, off, ha, hlt, hc⟩ := h5 (by omega)
  refine ⟨b, off, ha, hlt, fun i z hz => hc i z ?_⟩
  rw [List.getElem?_take] at hz
  split at hz
  · exact hz
  · cases hz

set_option maxRecDepth 100000 in
set_option maxHeartbeats 8000000 in
theorem walk (x0 : Value) (z0 : List Int) (x1 : ByteArray) (w : World) (hT : Tab1 w) (h0 : BytesAt w x0 z0) (h1 : x1.size ≤ maxLen) :
    Calls Tryz.prog 4 #[x0, .string x1] w (GivesBool true w) := by
  obtain ⟨av, nv, cv, rfl⟩ : ∃ a n c, x0 = .slice a n c := by obtain ⟨a, c, h, _⟩ := h0; exact ⟨a, _, c, h⟩
  have HT := Lib.hid hT
  clear hT
  obtain ⟨hnz, hlow⟩ := h0.low (Below.refl w.heap.size w)
  subst hnz
  have hcv : z0.length ≤ cv := by obtain ⟨_, _, e, h, _⟩ := hlow; cases e; exact h
  have hmx : x1.size ≤ 9223372036854775807 := by unfold maxLen at h1; omega
  have hm0 : z0.length ≤ 9223372036854775807 := by obtain ⟨_, _, e, _, h, _⟩ := hlow; unfold maxLen at h; omega
  have HLOW := Lib.hid hlow
  clear h0 hlow h1
  by_cases hL : 100 < z0.length
  · have hLz : (100 : Int) < (z0.length : Int) := by omega
    have hLc : (100 : Int) ≤ (cv : Int) := by omega
    by_cases hS0 : 6 < x1.size
    · have hSz : (6 : Int) < (x1.size : Int) := by omega
      have hSc : (6 : Int) ≤ (x1.size : Int) := by omega
      have c2 := made_any w av cv (z0.take 100) 0 (by decide) (low_take HLOW.out 100)
      rw [show (z0.take 100).length = 100 from by rw [List.length_take]; omega] at c2
      rw [show ((0 : Nat) : Int) = 0 from rfl] at c2
      have hS6 : (x1.extract 0 6).size ≤ 6 := (by rw [ByteArray.size_extract]; omega)
      have HS6 := Lib.hid hS6
      clear hS6
      go_enter Tryz.func4, Tryz.ntmps4
      go_wp2_with fail
      ((with_reducible refine c2.mono ?_))
      rintro _ w3 ⟨x, rfl, hx, hb3⟩
      obtain ⟨r, hr⟩ : ∃ r, r = (reM (z0.take 100) 4 0).1 := ⟨_, rfl⟩
      rw [← hr] at hx
      have HLV : Hid (Lv 161 4842888568831 5008 5766931476091 4966 r) := by rw [hr]; exact re4_lv (z0.take 100) 0
      have HDEP : Hid (r.dep ≤ 5) := by rw [hr]; exact (re_facts (z0.take 100) 4 0).2.2.1
      have HB3 := Lib.hid hb3
      have HX3 : Hid (RAt w3 (fun _ => True) x r) := hx.weak fun _ _ _ => trivial
      obtain ⟨y0, y1, y2, y3, y4, y5, y6, y7⟩ := x
      have c3 := refof_any 0 255 w3
      clear hx hb3 hr c2
      unfold ReV.val
      go_wp2_with fail
      ((with_reducible refine c3.mono ?_))
      rintro _ w4 ⟨r0, r1, r2, r3, hs, rfl, hb4⟩
      have HB4 : Hid (Below w.heap.size w w4) := HB3.out.trans (hb4.mono HB3.out.size)
      have hlet : letM 0 255 = .mk 2 ⟨r0, r1, r2, r3⟩ [] := by unfold letM; rw [let_set hs]
      have hra : RAt w4 (fun _ => True) ⟨2, r0, r1, r2, r3, none, 0, 0⟩ (letM 0 255) := by rw [hlet]; exact kids_empty.tree 2 ⟨r0, r1, r2, r3⟩ (by rw [let_set hs]; exact of_ok _)
      have c4 := (refstar_any (P := fun _ => True) w4 ⟨2, r0, r1, r2, r3, none, 0, 0⟩ (letM 0 255) hra)
      have HX4 := Lib.hid (HX3.out.under hb4)
      unfold ReV.val at c4
      simp only [] at c4
      clear hb4 hs hlet hra c3
      go_wp2_with fail
      ((with_reducible refine c4.mono ?_))
      rintro _ w5 ⟨z, rfl, hz, hb5⟩
      obtain ⟨t0, t1, t2, t3, t4, t5, t6, t7⟩ := z
      obtain ⟨u, hu⟩ : ∃ u, u = starM (letM 0 255) := ⟨_, rfl⟩
      rw [← hu] at hz
      have HLU : Hid (Lv 5 6093484621 73 5955687767 69 u) := by rw [hu]; exact lv0_star (let_lv (lo := 0) (hi := 255) (by decide) (by decide) (by decide))
      have HUS : Hid (u.sz ≤ 2) := by unfold Hid; rw [hu]; have h := sz_star (letM 0 255); have h2 : (letM 0 255).sz ≤ 1 := (let_lv (lo := 0) (hi := 255) (by decide) (by decide) (by decide)).sz; omega
      have HUD : Hid (u.dep ≤ 5) := by unfold Hid; rw [hu]; exact dep_star (show (letM 0 255).dep ≤ 4 from by unfold letM; exact dep_mk.2 (fun v hv => by cases hv))
      have HB5 : Hid (Below w.heap.size w w5) := HB4.out.trans (hb5.mono HB4.out.size)
      have HX5 := Lib.hid (HX4.out.under hb5)
      have HU5 : Hid (RAt w5 (fun _ => True) ⟨t0, t1, t2, t3, t4, t5, t6, t7⟩ u) := hz.weak fun _ _ _ => trivial
      have hba : Below w5.heap.size w5 (w5.alloc (.cells #[.int .i64 y0, .int .u64 y1, .int .u64 y2, .int .u64 y3, .int .u64 y4, .slice y5 y6 y7, .int .i64 t0, .int .u64 t1, .int .u64 t2, .int .u64 t3, .int .u64 t4, .slice t5 t6 t7] 28)) := (Below.refl _ _).alloc (Nat.le_refl _) _
      have c5 : Calls Tryz.prog 10 #[.slice (some ⟨w5.heap.size, 0, none⟩) 2 2] (w5.alloc (.cells #[.int .i64 y0, .int .u64 y1, .int .u64 y2, .int .u64 y3, .int .u64 y4, .slice y5 y6 y7, .int .i64 t0, .int .u64 t1, .int .u64 t2, .int .u64 t3, .int .u64 t4, .slice t5 t6 t7] 28)) (GivesRe (fun _ => True) (catM [r, u]) (w5.alloc (.cells #[.int .i64 y0, .int .u64 y1, .int .u64 y2, .int .u64 y3, .int .u64 y4, .slice y5 y6 y7, .int .i64 t0, .int .u64 t1, .int .u64 t2, .int .u64 t3, .int .u64 t4, .slice t5 t6 t7] 28))) := (refcat_any (P := fun _ => True) _ (two_kids (B := w5.heap.size) (x := ⟨y0, y1, y2, y3, y4, y5, y6, y7⟩) (y := ⟨t0, t1, t2, t3, t4, t5, t6, t7⟩) trivial (heap_alloc_new _ _) (HX5.out.under hba) (HU5.out.under hba)) (by have h1 := HLV.out.sz; have h2 := HUS.out; simp; omega)).mono fun _ _ q => q.any
      have HBA := Lib.hid hba
      clear hz hb5 hba hu c4
      unfold ReV.val
      go_wp2_with fail
      ((with_reducible refine c5.mono ?_))
      rintro _ w6 ⟨x6, rfl, hx6, hb6⟩
      obtain ⟨g0, g1, g2, g3, g4, q9, m9, cp9⟩ := x6
      have HB6 : Hid (Below w.heap.size w w6) := HB5.out.trans ((HBA.out.trans (hb6.mono HBA.out.size)).mono HB5.out.size)
      have hgc : good (catM [r, u]) := good_cat fun t ht => by simp at ht; rcases ht with rfl | rfl; exact HLV.out.good; exact HLU.out.good
      have hzc : (catM [r, u]).sz ≤ 1000 := by have h := sz_cat [r, u]; have h1 := HLV.out.sz; have h2 := HUS.out; simp at h; omega
      have hpc : (catM [r, u]).dep ≤ 62 := by have h := dep_cat (l := [r, u]) (n := 5) (fun t ht => by simp at ht; rcases ht with rfl | rfl; exact HDEP.out; exact HUD.out); omega
      have hdl := ahead_del HLV.out HLU.out HUS.out
      obtain ⟨C, hC⟩ : ∃ C, C = w6.heap.size := ⟨_, rfl⟩
      obtain ⟨w7, hw7⟩ : ∃ w7 : World, w7 = w6.alloc (.cells #[.int .i64 g0, .int .u64 g1, .int .u64 g2, .int .u64 g3, .int .u64 g4, .slice q9 m9 cp9] 28) := ⟨_, rfl⟩
      have hb7 : Below w6.heap.size w6 w7 := by rw [hw7]; exact (Below.refl _ _).alloc (Nat.le_refl _) _
      have h7C : w7.heap[C]? = some (.cells #[.int .i64 g0, .int .u64 g1, .int .u64 g2, .int .u64 g3, .int .u64 g4, .slice q9 m9 cp9] 28 (0, 0)) := by rw [hw7, hC]; exact heap_alloc_new _ _
      have hx7 : RAt w7 (fun _ => True) ⟨g0, g1, g2, g3, g4, q9, m9, cp9⟩ (catM [r, u]) := (hx6.weak fun _ _ _ => trivial).under hb7
      have HB7 : Hid (Below w.heap.size w w7) := HB6.out.trans (hb7.mono HB6.out.size)
      have hT7 := HT.out.stays HB7.out
      have hlen : (byteL (x1.extract 0 6)).length = (x1.extract 0 6).size := by unfold byteL; rw [List.length_map]; rfl
      have hend := end_all (l := byteL (x1.extract 0 6)) (fun c hc => by unfold byteL at hc; obtain ⟨u, _, rfl⟩ := List.mem_map.1 hc; exact u.toNat_lt) hgc hx7.ok
      rw [hlen] at hend
      have hH : HTx C ⟨g0, g1, g2, g3, g4, q9, m9, cp9⟩ (catM [r, u]) (x1.extract 0 6) (nullM (dersM (catM [r, u]) (byteL (x1.extract 0 6)))) w7 := by
        refine ⟨h7C, hx7, fun w hb => awaked_any w (hT7.stays hb), fun w hb y hy => ?_, fun w hb y hy => ?_⟩
        · exact match_any w y _ (x1.extract 0 6) hy (hT7.stays hb) (fitM_del6 hgc hzc hdl hpc _ (by rw [hlen]; exact HS6.out)) (by have := HS6.out; omega)
        · have h := refmatch_any (x1.extract 0 6) HS6.out (fun _ => True) _ y w hgc (by omega) hy
          rw [show endF (catM [r, u]) (byteL (x1.extract 0 6)) (fun j => decide (j = 0)) (x1.extract 0 6).size = nullM (dersM (catM [r, u]) (byteL (x1.extract 0 6))) from hend] at h
          exact h
      have HH := Lib.hid hH
      have HW7 := Lib.hid hw7
      have HC := Lib.hid hC
      clear hx6 hb6 hgc hzc hpc hdl hC hw7 hb7 h7C hx7 hT7 hlen hend hH c5
      unfold ReV.val
      go_wp2_with fail
      rw [← HW7.out, ← HC.out]
      refine regTx C _ _ _ _ HH.out (by kernel_rfl) rfl ?_ ?_
      · intro q hq
        simp only [fTx, List.mem_cons, List.not_mem_nil, or_false] at hq
        rcases hq with rfl | rfl
        · rfl
        · rfl
      intro tm w9 htm h4 hb9
      have hres : (results Tryz.f4 tm).run Tryz.prog w9 = .ok (.bool true) w9 := by
        have hf : Tryz.f4.results = #[.tmp 4] := by kernel_rfl
        simp [results, hf]
        rw [← Array.getD_eq_getD_getElem?]
        exact h4
      refine (by assumption : ∀ (a : Act) (w : World), Code.wp Tryz.prog Code.ret _ a w → _) _ _ ?_
      have hend : GivesBool true w (.returned (.bool true)) w9 := ⟨rfl, HB7.out.trans (hb9.mono HB7.out.size)⟩
      exact wp_ret (bodyPost_ret_by (P := Tryz.prog) (fn := Tryz.f4) (R := GivesBool true w) (a := ⟨tm, []⟩) hres rfl hend)
    · have hSz : ¬ (6 : Int) < (x1.size : Int) := by omega
      have c2 := made_any w av cv (z0.take 100) 0 (by decide) (low_take HLOW.out 100)
      rw [show (z0.take 100).length = 100 from by rw [List.length_take]; omega] at c2
      rw [show ((0 : Nat) : Int) = 0 from rfl] at c2
      have hS6 : x1.size ≤ 6 := (by omega)
      have HS6 := Lib.hid hS6
      clear hS6
      go_enter Tryz.func4, Tryz.ntmps4
      go_wp2_with fail
      ((with_reducible refine c2.mono ?_))
      rintro _ w3 ⟨x, rfl, hx, hb3⟩
      obtain ⟨r, hr⟩ : ∃ r, r = (reM (z0.take 100) 4 0).1 := ⟨_, rfl⟩
      rw [← hr] at hx
      have HLV : Hid (Lv 161 4842888568831 5008 5766931476091 4966 r) := by rw [hr]; exact re4_lv (z0.take 100) 0
      have HDEP : Hid (r.dep ≤ 5) := by rw [hr]; exact (re_facts (z0.take 100) 4 0).2.2.1
      have HB3 := Lib.hid hb3
      have HX3 : Hid (RAt w3 (fun _ => True) x r) := hx.weak fun _ _ _ => trivial
      obtain ⟨y0, y1, y2, y3, y4, y5, y6, y7⟩ := x
      have c3 := refof_any 0 255 w3
      clear hx hb3 hr c2
      unfold ReV.val
      go_wp2_with fail
      ((with_reducible refine c3.mono ?_))
      rintro _ w4 ⟨r0, r1, r2, r3, hs, rfl, hb4⟩
      have HB4 : Hid (Below w.heap.size w w4) := HB3.out.trans (hb4.mono HB3.out.size)
      have hlet : letM 0 255 = .mk 2 ⟨r0, r1, r2, r3⟩ [] := by unfold letM; rw [let_set hs]
      have hra : RAt w4 (fun _ => True) ⟨2, r0, r1, r2, r3, none, 0, 0⟩ (letM 0 255) := by rw [hlet]; exact kids_empty.tree 2 ⟨r0, r1, r2, r3⟩ (by rw [let_set hs]; exact of_ok _)
      have c4 := (refstar_any (P := fun _ => True) w4 ⟨2, r0, r1, r2, r3, none, 0, 0⟩ (letM 0 255) hra)
      have HX4 := Lib.hid (HX3.out.under hb4)
      unfold ReV.val at c4
      simp only [] at c4
      clear hb4 hs hlet hra c3
      go_wp2_with fail
      ((with_reducible refine c4.mono ?_))
      rintro _ w5 ⟨z, rfl, hz, hb5⟩
      obtain ⟨t0, t1, t2, t3, t4, t5, t6, t7⟩ := z
      obtain ⟨u, hu⟩ : ∃ u, u = starM (letM 0 255) := ⟨_, rfl⟩
      rw [← hu] at hz
      have HLU : Hid (Lv 5 6093484621 73 5955687767 69 u) := by rw [hu]; exact lv0_star (let_lv (lo := 0) (hi := 255) (by decide) (by decide) (by decide))
      have HUS : Hid (u.sz ≤ 2) := by unfold Hid; rw [hu]; have h := sz_star (letM 0 255); have h2 : (letM 0 255).sz ≤ 1 := (let_lv (lo := 0) (hi := 255) (by decide) (by decide) (by decide)).sz; omega
      have HUD : Hid (u.dep ≤ 5) := by unfold Hid; rw [hu]; exact dep_star (show (letM 0 255).dep ≤ 4 from by unfold letM; exact dep_mk.2 (fun v hv => by cases hv))
      have HB5 : Hid (Below w.heap.size w w5) := HB4.out.trans (hb5.mono HB4.out.size)
      have HX5 := Lib.hid (HX4.out.under hb5)
      have HU5 : Hid (RAt w5 (fun _ => True) ⟨t0, t1, t2, t3, t4, t5, t6, t7⟩ u) := hz.weak fun _ _ _ => trivial
      have hba : Below w5.heap.size w5 (w5.alloc (.cells #[.int .i64 y0, .int .u64 y1, .int .u64 y2, .int .u64 y3, .int .u64 y4, .slice y5 y6 y7, .int .i64 t0, .int .u64 t1, .int .u64 t2, .int .u64 t3, .int .u64 t4, .slice t5 t6 t7] 28)) := (Below.refl _ _).alloc (Nat.le_refl _) _
      have c5 : Calls Tryz.prog 10 #[.slice (some ⟨w5.heap.size, 0, none⟩) 2 2] (w5.alloc (.cells #[.int .i64 y0, .int .u64 y1, .int .u64 y2, .int .u64 y3, .int .u64 y4, .slice y5 y6 y7, .int .i64 t0, .int .u64 t1, .int .u64 t2, .int .u64 t3, .int .u64 t4, .slice t5 t6 t7] 28)) (GivesRe (fun _ => True) (catM [r, u]) (w5.alloc (.cells #[.int .i64 y0, .int .u64 y1, .int .u64 y2, .int .u64 y3, .int .u64 y4, .slice y5 y6 y7, .int .i64 t0, .int .u64 t1, .int .u64 t2, .int .u64 t3, .int .u64 t4, .slice t5 t6 t7] 28))) := (refcat_any (P := fun _ => True) _ (two_kids (B := w5.heap.size) (x := ⟨y0, y1, y2, y3, y4, y5, y6, y7⟩) (y := ⟨t0, t1, t2, t3, t4, t5, t6, t7⟩) trivial (heap_alloc_new _ _) (HX5.out.under hba) (HU5.out.under hba)) (by have h1 := HLV.out.sz; have h2 := HUS.out; simp; omega)).mono fun _ _ q => q.any
      have HBA := Lib.hid hba
      clear hz hb5 hba hu c4
      unfold ReV.val
      go_wp2_with fail
      ((with_reducible refine c5.mono ?_))
      rintro _ w6 ⟨x6, rfl, hx6, hb6⟩
      obtain ⟨g0, g1, g2, g3, g4, q9, m9, cp9⟩ := x6
      have HB6 : Hid (Below w.heap.size w w6) := HB5.out.trans ((HBA.out.trans (hb6.mono HBA.out.size)).mono HB5.out.size)
      have hgc : good (catM [r, u]) := good_cat fun t ht => by simp at ht; rcases ht with rfl | rfl; exact HLV.out.good; exact HLU.out.good
      have hzc : (catM [r, u]).sz ≤ 1000 := by have h := sz_cat [r, u]; have h1 := HLV.out.sz; have h2 := HUS.out; simp at h; omega
      have hpc : (catM [r, u]).dep ≤ 62 := by have h := dep_cat (l := [r, u]) (n := 5) (fun t ht => by simp at ht; rcases ht with rfl | rfl; exact HDEP.out; exact HUD.out); omega
      have hdl := ahead_del HLV.out HLU.out HUS.out
      obtain ⟨C, hC⟩ : ∃ C, C = w6.heap.size := ⟨_, rfl⟩
      obtain ⟨w7, hw7⟩ : ∃ w7 : World, w7 = w6.alloc (.cells #[.int .i64 g0, .int .u64 g1, .int .u64 g2, .int .u64 g3, .int .u64 g4, .slice q9 m9 cp9] 28) := ⟨_, rfl⟩
      have hb7 : Below w6.heap.size w6 w7 := by rw [hw7]; exact (Below.refl _ _).alloc (Nat.le_refl _) _
      have h7C : w7.heap[C]? = some (.cells #[.int .i64 g0, .int .u64 g1, .int .u64 g2, .int .u64 g3, .int .u64 g4, .slice q9 m9 cp9] 28 (0, 0)) := by rw [hw7, hC]; exact heap_alloc_new _ _
      have hx7 : RAt w7 (fun _ => True) ⟨g0, g1, g2, g3, g4, q9, m9, cp9⟩ (catM [r, u]) := (hx6.weak fun _ _ _ => trivial).under hb7
      have HB7 : Hid (Below w.heap.size w w7) := HB6.out.trans (hb7.mono HB6.out.size)
      have hT7 := HT.out.stays HB7.out
      have hlen : (byteL x1).length = x1.size := by unfold byteL; rw [List.length_map]; rfl
      have hend := end_all (l := byteL x1) (fun c hc => by unfold byteL at hc; obtain ⟨u, _, rfl⟩ := List.mem_map.1 hc; exact u.toNat_lt) hgc hx7.ok
      rw [hlen] at hend
      have hH : HTx C ⟨g0, g1, g2, g3, g4, q9, m9, cp9⟩ (catM [r, u]) x1 (nullM (dersM (catM [r, u]) (byteL x1))) w7 := by
        refine ⟨h7C, hx7, fun w hb => awaked_any w (hT7.stays hb), fun w hb y hy => ?_, fun w hb y hy => ?_⟩
        · exact match_any w y _ x1 hy (hT7.stays hb) (fitM_del6 hgc hzc hdl hpc _ (by rw [hlen]; exact HS6.out)) (by have := HS6.out; omega)
        · have h := refmatch_any x1 HS6.out (fun _ => True) _ y w hgc (by omega) hy
          rw [show endF (catM [r, u]) (byteL x1) (fun j => decide (j = 0)) x1.size = nullM (dersM (catM [r, u]) (byteL x1)) from hend] at h
          exact h
      have HH := Lib.hid hH
      have HW7 := Lib.hid hw7
      have HC := Lib.hid hC
      clear hx6 hb6 hgc hzc hpc hdl hC hw7 hb7 h7C hx7 hT7 hlen hend hH c5
      unfold ReV.val
      go_wp2_with fail
      rw [← HW7.out, ← HC.out]
      refine regTx C _ _ _ _ HH.out (by kernel_rfl) rfl ?_ ?_
      · intro q hq
        simp only [fTx, List.mem_cons, List.not_mem_nil, or_false] at hq
        rcases hq with rfl | rfl
        · rfl
        · rfl
      intro tm w9 htm h4 hb9
      have hres : (results Tryz.f4 tm).run Tryz.prog w9 = .ok (.bool true) w9 := by
        have hf : Tryz.f4.results = #[.tmp 4] := by kernel_rfl
        simp [results, hf]
        rw [← Array.getD_eq_getD_getElem?]
        exact h4
      refine (by assumption : ∀ (a : Act) (w : World), Code.wp Tryz.prog Code.ret _ a w → _) _ _ ?_
      have hend : GivesBool true w (.returned (.bool true)) w9 := ⟨rfl, HB7.out.trans (hb9.mono HB7.out.size)⟩
      exact wp_ret (bodyPost_ret_by (P := Tryz.prog) (fn := Tryz.f4) (R := GivesBool true w) (a := ⟨tm, []⟩) hres rfl hend)
  · have hLz : ¬ (100 : Int) < (z0.length : Int) := by omega
    by_cases hS0 : 6 < x1.size
    · have hSz : (6 : Int) < (x1.size : Int) := by omega
      have hSc : (6 : Int) ≤ (x1.size : Int) := by omega
      have c2 := made_any w av cv z0 0 (by decide) HLOW.out
      rw [show ((0 : Nat) : Int) = 0 from rfl] at c2
      have hS6 : (x1.extract 0 6).size ≤ 6 := (by rw [ByteArray.size_extract]; omega)
      have HS6 := Lib.hid hS6
      clear hS6
      go_enter Tryz.func4, Tryz.ntmps4
      go_wp2_with fail
      ((with_reducible refine c2.mono ?_))
      rintro _ w3 ⟨x, rfl, hx, hb3⟩
      obtain ⟨r, hr⟩ : ∃ r, r = (reM z0 4 0).1 := ⟨_, rfl⟩
      rw [← hr] at hx
      have HLV : Hid (Lv 161 4842888568831 5008 5766931476091 4966 r) := by rw [hr]; exact re4_lv z0 0
      have HDEP : Hid (r.dep ≤ 5) := by rw [hr]; exact (re_facts z0 4 0).2.2.1
      have HB3 := Lib.hid hb3
      have HX3 : Hid (RAt w3 (fun _ => True) x r) := hx.weak fun _ _ _ => trivial
      obtain ⟨y0, y1, y2, y3, y4, y5, y6, y7⟩ := x
      have c3 := refof_any 0 255 w3
      clear hx hb3 hr c2
      unfold ReV.val
      go_wp2_with fail
      ((with_reducible refine c3.mono ?_))
      rintro _ w4 ⟨r0, r1, r2, r3, hs, rfl, hb4⟩
      have HB4 : Hid (Below w.heap.size w w4) := HB3.out.trans (hb4.mono HB3.out.size)
      have hlet : letM 0 255 = .mk 2 ⟨r0, r1, r2, r3⟩ [] := by unfold letM; rw [let_set hs]
      have hra : RAt w4 (fun _ => True) ⟨2, r0, r1, r2, r3, none, 0, 0⟩ (letM 0 255) := by rw [hlet]; exact kids_empty.tree 2 ⟨r0, r1, r2, r3⟩ (by rw [let_set hs]; exact of_ok _)
      have c4 := (refstar_any (P := fun _ => True) w4 ⟨2, r0, r1, r2, r3, none, 0, 0⟩ (letM 0 255) hra)
      have HX4 := Lib.hid (HX3.out.under hb4)
      unfold ReV.val at c4
      simp only [] at c4
      clear hb4 hs hlet hra c3
      go_wp2_with fail
      ((with_reducible refine c4.mono ?_))
      rintro _ w5 ⟨z, rfl, hz, hb5⟩
      obtain ⟨t0, t1, t2, t3, t4, t5, t6, t7⟩ := z
      obtain ⟨u, hu⟩ : ∃ u, u = starM (letM 0 255) := ⟨_, rfl⟩
      rw [← hu] at hz
      have HLU : Hid (Lv 5 6093484621 73 5955687767 69 u) := by rw [hu]; exact lv0_star (let_lv (lo := 0) (hi := 255) (by decide) (by decide) (by decide))
      have HUS : Hid (u.sz ≤ 2) := by unfold Hid; rw [hu]; have h := sz_star (letM 0 255); have h2 : (letM 0 255).sz ≤ 1 := (let_lv (lo := 0) (hi := 255) (by decide) (by decide) (by decide)).sz; omega
      have HUD : Hid (u.dep ≤ 5) := by unfold Hid; rw [hu]; exact dep_star (show (letM 0 255).dep ≤ 4 from by unfold letM; exact dep_mk.2 (fun v hv => by cases hv))
      have HB5 : Hid (Below w.heap.size w w5) := HB4.out.trans (hb5.mono HB4.out.size)
      have HX5 := Lib.hid (HX4.out.under hb5)
      have HU5 : Hid (RAt w5 (fun _ => True) ⟨t0, t1, t2, t3, t4, t5, t6, t7⟩ u) := hz.weak fun _ _ _ => trivial
      have hba : Below w5.heap.size w5 (w5.alloc (.cells #[.int .i64 y0, .int .u64 y1, .int .u64 y2, .int .u64 y3, .int .u64 y4, .slice y5 y6 y7, .int .i64 t0, .int .u64 t1, .int .u64 t2, .int .u64 t3, .int .u64 t4, .slice t5 t6 t7] 28)) := (Below.refl _ _).alloc (Nat.le_refl _) _
      have c5 : Calls Tryz.prog 10 #[.slice (some ⟨w5.heap.size, 0, none⟩) 2 2] (w5.alloc (.cells #[.int .i64 y0, .int .u64 y1, .int .u64 y2, .int .u64 y3, .int .u64 y4, .slice y5 y6 y7, .int .i64 t0, .int .u64 t1, .int .u64 t2, .int .u64 t3, .int .u64 t4, .slice t5 t6 t7] 28)) (GivesRe (fun _ => True) (catM [r, u]) (w5.alloc (.cells #[.int .i64 y0, .int .u64 y1, .int .u64 y2, .int .u64 y3, .int .u64 y4, .slice y5 y6 y7, .int .i64 t0, .int .u64 t1, .int .u64 t2, .int .u64 t3, .int .u64 t4, .slice t5 t6 t7] 28))) := (refcat_any (P := fun _ => True) _ (two_kids (B := w5.heap.size) (x := ⟨y0, y1, y2, y3, y4, y5, y6, y7⟩) (y := ⟨t0, t1, t2, t3, t4, t5, t6, t7⟩) trivial (heap_alloc_new _ _) (HX5.out.under hba) (HU5.out.under hba)) (by have h1 := HLV.out.sz; have h2 := HUS.out; simp; omega)).mono fun _ _ q => q.any
      have HBA := Lib.hid hba
      clear hz hb5 hba hu c4
      unfold ReV.val
      go_wp2_with fail
      ((with_reducible refine c5.mono ?_))
      rintro _ w6 ⟨x6, rfl, hx6, hb6⟩
      obtain ⟨g0, g1, g2, g3, g4, q9, m9, cp9⟩ := x6
      have HB6 : Hid (Below w.heap.size w w6) := HB5.out.trans ((HBA.out.trans (hb6.mono HBA.out.size)).mono HB5.out.size)
      have hgc : good (catM [r, u]) := good_cat fun t ht => by simp at ht; rcases ht with rfl | rfl; exact HLV.out.good; exact HLU.out.good
      have hzc : (catM [r, u]).sz ≤ 1000 := by have h := sz_cat [r, u]; have h1 := HLV.out.sz; have h2 := HUS.out; simp at h; omega
      have hpc : (catM [r, u]).dep ≤ 62 := by have h := dep_cat (l := [r, u]) (n := 5) (fun t ht => by simp at ht; rcases ht with rfl | rfl; exact HDEP.out; exact HUD.out); omega
      have hdl := ahead_del HLV.out HLU.out HUS.out
      obtain ⟨C, hC⟩ : ∃ C, C = w6.heap.size := ⟨_, rfl⟩
      obtain ⟨w7, hw7⟩ : ∃ w7 : World, w7 = w6.alloc (.cells #[.int .i64 g0, .int .u64 g1, .int .u64 g2, .int .u64 g3, .int .u64 g4, .slice q9 m9 cp9] 28) := ⟨_, rfl⟩
      have hb7 : Below w6.heap.size w6 w7 := by rw [hw7]; exact (Below.refl _ _).alloc (Nat.le_refl _) _
      have h7C : w7.heap[C]? = some (.cells #[.int .i64 g0, .int .u64 g1, .int .u64 g2, .int .u64 g3, .int .u64 g4, .slice q9 m9 cp9] 28 (0, 0)) := by rw [hw7, hC]; exact heap_alloc_new _ _
      have hx7 : RAt w7 (fun _ => True) ⟨g0, g1, g2, g3, g4, q9, m9, cp9⟩ (catM [r, u]) := (hx6.weak fun _ _ _ => trivial).under hb7
      have HB7 : Hid (Below w.heap.size w w7) := HB6.out.trans (hb7.mono HB6.out.size)
      have hT7 := HT.out.stays HB7.out
      have hlen : (byteL (x1.extract 0 6)).length = (x1.extract 0 6).size := by unfold byteL; rw [List.length_map]; rfl
      have hend := end_all (l := byteL (x1.extract 0 6)) (fun c hc => by unfold byteL at hc; obtain ⟨u, _, rfl⟩ := List.mem_map.1 hc; exact u.toNat_lt) hgc hx7.ok
      rw [hlen] at hend
      have hH : HTx C ⟨g0, g1, g2, g3, g4, q9, m9, cp9⟩ (catM [r, u]) (x1.extract 0 6) (nullM (dersM (catM [r, u]) (byteL (x1.extract 0 6)))) w7 := by
        refine ⟨h7C, hx7, fun w hb => awaked_any w (hT7.stays hb), fun w hb y hy => ?_, fun w hb y hy => ?_⟩
        · exact match_any w y _ (x1.extract 0 6) hy (hT7.stays hb) (fitM_del6 hgc hzc hdl hpc _ (by rw [hlen]; exact HS6.out)) (by have := HS6.out; omega)
        · have h := refmatch_any (x1.extract 0 6) HS6.out (fun _ => True) _ y w hgc (by omega) hy
          rw [show endF (catM [r, u]) (byteL (x1.extract 0 6)) (fun j => decide (j = 0)) (x1.extract 0 6).size = nullM (dersM (catM [r, u]) (byteL (x1.extract 0 6))) from hend] at h
          exact h
      have HH := Lib.hid hH
      have HW7 := Lib.hid hw7
      have HC := Lib.hid hC
      clear hx6 hb6 hgc hzc hpc hdl hC hw7 hb7 h7C hx7 hT7 hlen hend hH c5
      unfold ReV.val
      go_wp2_with fail
      rw [← HW7.out, ← HC.out]
      refine regTx C _ _ _ _ HH.out (by kernel_rfl) rfl ?_ ?_
      · intro q hq
        simp only [fTx, List.mem_cons, List.not_mem_nil, or_false] at hq
        rcases hq with rfl | rfl
        · rfl
        · rfl
      intro tm w9 htm h4 hb9
      have hres : (results Tryz.f4 tm).run Tryz.prog w9 = .ok (.bool true) w9 := by
        have hf : Tryz.f4.results = #[.tmp 4] := by kernel_rfl
        simp [results, hf]
        rw [← Array.getD_eq_getD_getElem?]
        exact h4
      refine (by assumption : ∀ (a : Act) (w : World), Code.wp Tryz.prog Code.ret _ a w → _) _ _ ?_
      have hend : GivesBool true w (.returned (.bool true)) w9 := ⟨rfl, HB7.out.trans (hb9.mono HB7.out.size)⟩
      exact wp_ret (bodyPost_ret_by (P := Tryz.prog) (fn := Tryz.f4) (R := GivesBool true w) (a := ⟨tm, []⟩) hres rfl hend)
    · have hSz : ¬ (6 : Int) < (x1.size : Int) := by omega
      have c2 := made_any w av cv z0 0 (by decide) HLOW.out
      rw [show ((0 : Nat) : Int) = 0 from rfl] at c2
      have hS6 : x1.size ≤ 6 := (by omega)
      have HS6 := Lib.hid hS6
      clear hS6
      go_enter Tryz.func4, Tryz.ntmps4
      go_wp2_with fail
      ((with_reducible refine c2.mono ?_))
      rintro _ w3 ⟨x, rfl, hx, hb3⟩
      obtain ⟨r, hr⟩ : ∃ r, r = (reM z0 4 0).1 := ⟨_, rfl⟩
      rw [← hr] at hx
      have HLV : Hid (Lv 161 4842888568831 5008 5766931476091 4966 r) := by rw [hr]; exact re4_lv z0 0
      have HDEP : Hid (r.dep ≤ 5) := by rw [hr]; exact (re_facts z0 4 0).2.2.1
      have HB3 := Lib.hid hb3
      have HX3 : Hid (RAt w3 (fun _ => True) x r) := hx.weak fun _ _ _ => trivial
      obtain ⟨y0, y1, y2, y3, y4, y5, y6, y7⟩ := x
      have c3 := refof_any 0 255 w3
      clear hx hb3 hr c2
      unfold ReV.val
      go_wp2_with fail
      ((with_reducible refine c3.mono ?_))
      rintro _ w4 ⟨r0, r1, r2, r3, hs, rfl, hb4⟩
      have HB4 : Hid (Below w.heap.size w w4) := HB3.out.trans (hb4.mono HB3.out.size)
      have hlet : letM 0 255 = .mk 2 ⟨r0, r1, r2, r3⟩ [] := by unfold letM; rw [let_set hs]
      have hra : RAt w4 (fun _ => True) ⟨2, r0, r1, r2, r3, none, 0, 0⟩ (letM 0 255) := by rw [hlet]; exact kids_empty.tree 2 ⟨r0, r1, r2, r3⟩ (by rw [let_set hs]; exact of_ok _)
      have c4 := (refstar_any (P := fun _ => True) w4 ⟨2, r0, r1, r2, r3, none, 0, 0⟩ (letM 0 255) hra)
      have HX4 := Lib.hid (HX3.out.under hb4)
      unfold ReV.val at c4
      simp only [] at c4
      clear hb4 hs hlet hra c3
      go_wp2_with fail
      ((with_reducible refine c4.mono ?_))
      rintro _ w5 ⟨z, rfl, hz, hb5⟩
      obtain ⟨t0, t1, t2, t3, t4, t5, t6, t7⟩ := z
      obtain ⟨u, hu⟩ : ∃ u, u = starM (letM 0 255) := ⟨_, rfl⟩
      rw [← hu] at hz
      have HLU : Hid (Lv 5 6093484621 73 5955687767 69 u) := by rw [hu]; exact lv0_star (let_lv (lo := 0) (hi := 255) (by decide) (by decide) (by decide))
      have HUS : Hid (u.sz ≤ 2) := by unfold Hid; rw [hu]; have h := sz_star (letM 0 255); have h2 : (letM 0 255).sz ≤ 1 := (let_lv (lo := 0) (hi := 255) (by decide) (by decide) (by decide)).sz; omega
      have HUD : Hid (u.dep ≤ 5) := by unfold Hid; rw [hu]; exact dep_star (show (letM 0 255).dep ≤ 4 from by unfold letM; exact dep_mk.2 (fun v hv => by cases hv))
      have HB5 : Hid (Below w.heap.size w w5) := HB4.out.trans (hb5.mono HB4.out.size)
      have HX5 := Lib.hid (HX4.out.under hb5)
      have HU5 : Hid (RAt w5 (fun _ => True) ⟨t0, t1, t2, t3, t4, t5, t6, t7⟩ u) := hz.weak fun _ _ _ => trivial
      have hba : Below w5.heap.size w5 (w5.alloc (.cells #[.int .i64 y0, .int .u64 y1, .int .u64 y2, .int .u64 y3, .int .u64 y4, .slice y5 y6 y7, .int .i64 t0, .int .u64 t1, .int .u64 t2, .int .u64 t3, .int .u64 t4, .slice t5 t6 t7] 28)) := (Below.refl _ _).alloc (Nat.le_refl _) _
      have c5 : Calls Tryz.prog 10 #[.slice (some ⟨w5.heap.size, 0, none⟩) 2 2] (w5.alloc (.cells #[.int .i64 y0, .int .u64 y1, .int .u64 y2, .int .u64 y3, .int .u64 y4, .slice y5 y6 y7, .int .i64 t0, .int .u64 t1, .int .u64 t2, .int .u64 t3, .int .u64 t4, .slice t5 t6 t7] 28)) (GivesRe (fun _ => True) (catM [r, u]) (w5.alloc (.cells #[.int .i64 y0, .int .u64 y1, .int .u64 y2, .int .u64 y3, .int .u64 y4, .slice y5 y6 y7, .int .i64 t0, .int .u64 t1, .int .u64 t2, .int .u64 t3, .int .u64 t4, .slice t5 t6 t7] 28))) := (refcat_any (P := fun _ => True) _ (two_kids (B := w5.heap.size) (x := ⟨y0, y1, y2, y3, y4, y5, y6, y7⟩) (y := ⟨t0, t1, t2, t3, t4, t5, t6, t7⟩) trivial (heap_alloc_new _ _) (HX5.out.under hba) (HU5.out.under hba)) (by have h1 := HLV.out.sz; have h2 := HUS.out; simp; omega)).mono fun _ _ q => q.any
      have HBA := Lib.hid hba
      clear hz hb5 hba hu c4
      unfold ReV.val
      go_wp2_with fail
      ((with_reducible refine c5.mono ?_))
      rintro _ w6 ⟨x6, rfl, hx6, hb6⟩
      obtain ⟨g0, g1, g2, g3, g4, q9, m9, cp9⟩ := x6
      have HB6 : Hid (Below w.heap.size w w6) := HB5.out.trans ((HBA.out.trans (hb6.mono HBA.out.size)).mono HB5.out.size)
      have hgc : good (catM [r, u]) := good_cat fun t ht => by simp at ht; rcases ht with rfl | rfl; exact HLV.out.good; exact HLU.out.good
      have hzc : (catM [r, u]).sz ≤ 1000 := by have h := sz_cat [r, u]; have h1 := HLV.out.sz; have h2 := HUS.out; simp at h; omega
      have hpc : (catM [r, u]).dep ≤ 62 := by have h := dep_cat (l := [r, u]) (n := 5) (fun t ht => by simp at ht; rcases ht with rfl | rfl; exact HDEP.out; exact HUD.out); omega
      have hdl := ahead_del HLV.out HLU.out HUS.out
      obtain ⟨C, hC⟩ : ∃ C, C = w6.heap.size := ⟨_, rfl⟩
      obtain ⟨w7, hw7⟩ : ∃ w7 : World, w7 = w6.alloc (.cells #[.int .i64 g0, .int .u64 g1, .int .u64 g2, .int .u64 g3, .int .u64 g4, .slice q9 m9 cp9] 28) := ⟨_, rfl⟩
      have hb7 : Below w6.heap.size w6 w7 := by rw [hw7]; exact (Below.refl _ _).alloc (Nat.le_refl _) _
      have h7C : w7.heap[C]? = some (.cells #[.int .i64 g0, .int .u64 g1, .int .u64 g2, .int .u64 g3, .int .u64 g4, .slice q9 m9 cp9] 28 (0, 0)) := by rw [hw7, hC]; exact heap_alloc_new _ _
      have hx7 : RAt w7 (fun _ => True) ⟨g0, g1, g2, g3, g4, q9, m9, cp9⟩ (catM [r, u]) := (hx6.weak fun _ _ _ => trivial).under hb7
      have HB7 : Hid (Below w.heap.size w w7) := HB6.out.trans (hb7.mono HB6.out.size)
      have hT7 := HT.out.stays HB7.out
      have hlen : (byteL x1).length = x1.size := by unfold byteL; rw [List.length_map]; rfl
      have hend := end_all (l := byteL x1) (fun c hc => by unfold byteL at hc; obtain ⟨u, _, rfl⟩ := List.mem_map.1 hc; exact u.toNat_lt) hgc hx7.ok
      rw [hlen] at hend
      have hH : HTx C ⟨g0, g1, g2, g3, g4, q9, m9, cp9⟩ (catM [r, u]) x1 (nullM (dersM (catM [r, u]) (byteL x1))) w7 := by
        refine ⟨h7C, hx7, fun w hb => awaked_any w (hT7.stays hb), fun w hb y hy => ?_, fun w hb y hy => ?_⟩
        · exact match_any w y _ x1 hy (hT7.stays hb) (fitM_del6 hgc hzc hdl hpc _ (by rw [hlen]; exact HS6.out)) (by have := HS6.out; omega)
        · have h := refmatch_any x1 HS6.out (fun _ => True) _ y w hgc (by omega) hy
          rw [show endF (catM [r, u]) (byteL x1) (fun j => decide (j = 0)) x1.size = nullM (dersM (catM [r, u]) (byteL x1)) from hend] at h
          exact h
      have HH := Lib.hid hH
      have HW7 := Lib.hid hw7
      have HC := Lib.hid hC
      clear hx6 hb6 hgc hzc hpc hdl hC hw7 hb7 h7C hx7 hT7 hlen hend hH c5
      unfold ReV.val
      go_wp2_with fail
      rw [← HW7.out, ← HC.out]
      refine regTx C _ _ _ _ HH.out (by kernel_rfl) rfl ?_ ?_
      · intro q hq
        simp only [fTx, List.mem_cons, List.not_mem_nil, or_false] at hq
        rcases hq with rfl | rfl
        · rfl
        · rfl
      intro tm w9 htm h4 hb9
      have hres : (results Tryz.f4 tm).run Tryz.prog w9 = .ok (.bool true) w9 := by
        have hf : Tryz.f4.results = #[.tmp 4] := by kernel_rfl
        simp [results, hf]
        rw [← Array.getD_eq_getD_getElem?]
        exact h4
      refine (by assumption : ∀ (a : Act) (w : World), Code.wp Tryz.prog Code.ret _ a w → _) _ _ ?_
      have hend : GivesBool true w (.returned (.bool true)) w9 := ⟨rfl, HB7.out.trans (hb9.mono HB7.out.size)⟩
      exact wp_ret (bodyPost_ret_by (P := Tryz.prog) (fn := Tryz.f4) (R := GivesBool true w) (a := ⟨tm, []⟩) hres rfl hend)

set_option maxRecDepth 100000 in
set_option maxHeartbeats 1000000 in
theorem lifted (os : Os) (started : os.Started) (H : Type) (enc : TypeId × Value → H) :
    ReturnsInHanded {} Tryz.checked os 4 .any (fun w args => (Rows.derivTextSpec.pre enc Tryz.prog Tryz.f4 Rows.derivTextRow.domain false w args ∧ laidMetH Tryz.prog Rows.derivTextRow.laid w) ∧ sizedMet enc Tryz.prog Tryz.f4 (OpenSpec.ofChange Rows.derivTextSpec) false w args)
      (Rows.derivTextSpec.post enc Tryz.prog Tryz.f4 false true false false) := by
  refine returnsInHanded_of_change_and (C := Tryz.checked) (X := fun w _ => laidMetH Tryz.prog Rows.derivTextRow.laid w) (fun _ _ _ hh h => h.of_heap hh) noKnob started (by kernel_rfl) Tryz.func4
    (ChangeSpec.witness_shaped (enc := enc) (C := Tryz.checked) (os := os) (X := fun w _ => laidMetH Tryz.prog Rows.derivTextRow.laid w) false (World.laidAll Tryz.prog os Rows.derivTextRow.laid) #[.slice none 0 0, .string ⟨#[]⟩] 8 (World.laidAll_os _ _ _)
      (World.shaped_of_ZipB (by kernel_rfl) (by kernel_rfl)) (by kernel_rfl) (by kernel_rfl) (by kernel_rfl)
      (by rw [MakeChecks.laidMetH_plain _ _ _ (by kernel_rfl)]; exact laidMet_laidAll _ (by kernel_rfl) (by kernel_rfl))) ?_
  intro W base args ds gs before hval0 hW hcnd _ hL _
  have hval : ∀ (j : Nat) t v, Tryz.f4.params[j]? = some t → args[j]? = some v → Value.okWide Tryz.prog W .any base t v := hval0
  have hW' := hW
  obtain ⟨p, q, hA0, hV, rfl, hfz, hnd⟩ := hW
  have hA : DataW.TrodAll enc Tryz.prog W 0 (fun _ => true) true Tryz.f4.params.toList args.toList ds p := hA0
  rw [Tryz.params4] at hA hval
  obtain ⟨v0, vs0, d0, ds0, p0, q0, hargs, rfl, rfl, h0, r0⟩ := trodAll_cons hA
  obtain ⟨v1, vs1, d1, ds1, p1, q1, rfl, rfl, rfl, h1, r1⟩ := trodAll_cons r0
  obtain ⟨rfl, rfl, rfl⟩ := trodAll_nil r1
  obtain rfl : args = #[v0, v1] := by cases args; simp_all
  obtain ⟨rfl, rfl⟩ := trodVars_none hV
  clear hA0 hval0 hA
  simp only [List.append_nil] at hW'
  have hlt := hW'.lt
  obtain ⟨z0, b0⟩ := open_bytes (hval 0 22 v0 rfl rfl) h0
  obtain ⟨x1, rfl, rfl, rfl, b1⟩ := open_string Tryz.underlying9 (hval 1 9 v1 rfl rfl) h1
  refine (walk v0 z0 x1 W (tabs_of_laid hL (MakeChecks.laidMetH_plain _ _ _ (by kernel_rfl)) (by kernel_rfl) (by kernel_rfl)) b0 b1).mono fun e W' ⟨he, hg⟩ => ?_
  subst he
  exact ⟨_, rfl, post_of_old (pv := []) hW' (fun _ _ _ => trodAll_cons_mk (shut_bool Tryz.underlying4 _) trodAll_mk0) (trodAll_cons_mk (Below.trod laidOutP (by kernel_rfl) (of_decide_eq_true (by kernel_rfl)) h0 hg (fun x hx => by simpa using hlt x (by simp [hx]))) (trodAll_cons_mk (Below.trod laidOutP (by kernel_rfl) (of_decide_eq_true (by kernel_rfl)) h1 hg (fun x hx => by simp at hx)) (trodAll_mk0))) (fun _ => rfl) (by simp) hg⟩

theorem over : Rows.derivTextRow.holds Tryz.pinned (OpenSpec.ofChange Rows.derivTextSpec) :=
  OpenClaim.holds_of_wide 4 Tryz.f4 rfl rfl rfl rfl rfl rfl rfl ⟨rfl, rfl, rfl, rfl, rfl⟩ rfl rfl rfl rfl rfl (by kernel_rfl) Tryz.func4 (by kernel_rfl)
    (of_decide_eq_true (by kernel_rfl)) (by unfold Func.isWrapper; first | (rw [if_pos (by decide +kernel)]; kernel_rfl) | (rw [if_neg (by decide +kernel)]; exact ⟨rfl, rfl⟩))
    (fun os started H enc _ => lifted os started H enc)

/-- No parameter wants a stand-in. -/
theorem plain (f : FuncId) (fn : Func) (hf : Tryz.pinned.checked.prog.funcNamed "reglet/regletlaw08.DerivText" = some f) (hfn : Tryz.pinned.checked.prog.funcs[f]? = some fn) :
    false = Tryz.pinned.checked.prog.looks [] ∧ ∀ (j : Nat) t, fn.params[j]? = some t → Tryz.pinned.checked.prog.wantsStandIn t = false := by
  obtain rfl : f = 4 := Option.some.inj ((show Tryz.prog.funcNamed "reglet/regletlaw08.DerivText" = some 4 by kernel_rfl).symm.trans hf) |>.symm
  obtain rfl : fn = Tryz.f4 := (Option.some.inj (Tryz.func4.symm.trans hfn)).symm
  refine ⟨by kernel_rfl, fun j t ht => ?_⟩
  rw [Tryz.params4] at ht
  have hm : t ∈ [22, 9] := by simpa using Array.mem_of_getElem? ht
  have hall : ([22, 9].all fun u => !Tryz.prog.wantsStandIn u) = true := by kernel_rfl
  exact (show Tryz.prog.wantsStandIn t = false by simpa using List.all_eq_true.1 hall t hm)

/-- The statement. -/
theorem proved : Rows.DerivTextCardSaid :=
  Claim7.holds_tied_plain_at .later [] _ _ _ _ over (fun _ h => by cases h) (by kernel_rfl) (fun _ h => by cases h) derivText_row_tie rfl ⟨rfl, rfl⟩ (by kernel_rfl) rfl plain (by kernel_rfl)

#print axioms proved
end Go.Proofs.YtclnadjgbpihcaaGreatDoor.derivText
