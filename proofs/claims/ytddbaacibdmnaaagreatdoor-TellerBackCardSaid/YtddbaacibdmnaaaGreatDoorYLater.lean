/- Repetitions and concatenations behind an error, as the document's own reader reads them; for every text of at most 50000 bytes. -/
import Derived.Test.YtddbaacibdmnaaaGreatDoorYRepeat
namespace Go.Proofs.YtddbaacibdmnaaaGreatDoor
open Go.RowKit
set_option linter.unusedVariables false
set_option linter.unusedSimpArgs false

/-- Behind an error, so far on at most. -/
def BehindY (f : Nat) : Prop := ∀ {R p d : Nat} {c : Int} {s : ByteArray} {w : World}, AtY w R s p c → c ≠ 0 → s.size ≤ 50000 → p ≤ 54000 → d ≤ 60 →
  Calls Tryz.prog f #[.pointer (some ⟨R, 0, none⟩), .int .i64 d] w (LaterY R s p c w)

theorem yrep_ask {f k : Nat} (h : RepToY f k) : AskToY f false .rep k := by
  intro R p d s w ha hs hp hd hk
  refine (h ha hs (fun _ => ⟨hp, hd, hk⟩) (by omega) (by omega)).mono ?_
  rintro e w' ⟨x, t, q, c, ht, hg, ⟨_, ho⟩ | ⟨g, _⟩⟩
  · exact ⟨x, t, q, c, ht, hg, ho⟩
  · exact absurd rfl g
theorem yrep_behind {f k : Nat} (h : RepToY f k) : BehindY f := by
  intro R p d c s w ha hc hs hp hd
  refine (h ha hs (fun g => absurd g hc) hp hd).mono ?_
  rintro e w' ⟨x, t, q, c', ht, hg, ⟨g, _⟩ | ⟨_, rfl, hq⟩⟩
  · exact absurd g hc
  · exact ⟨x, t, q, ht, hq, hg⟩

set_option maxRecDepth 100000 in
set_option maxHeartbeats 4000000 in
theorem yseq_behind (hel : BehindY 67) : BehindY 52 := by
  intro R p d c s w h hc hs hp hd
  have hR := h.lt
  have qc : (c == 0) = false := by simpa using hc
  have HR := Lib.hid (res_new w)
  have HA := Lib.hid (h.alloc (.cells #[.int .i64 0, .string ⟨#[]⟩, .slice none 0 0, .int .i64 0, .int .i64 0, .slice none 0 0] 36))
  have HG := Lib.hid (World.grownBy_alloc w (.cells #[.int .i64 0, .string ⟨#[]⟩, .slice none 0 0, .int .i64 0, .int .i64 0, .slice none 0 0] 36) (some R))
  have HEL : Hid (BehindY 67) := @hel
  clear h hel
  go_enter Tryz.func52, Tryz.ntmps52
  go_wp2_with fail
  refine (HEL.out HA.out hc hs hp hd).mono ?_
  rintro e w1 ⟨x, t, q, ht, hq, ⟨rfl, ha, hg⟩⟩
  have H2 := Lib.hid (one_cell_ns ht)
  have H5 := Lib.hid (one_cell_ks ht)
  have hz1 : w.heap.size + 1 ≤ w1.heap.size := by have := hg.size; simp at this; omega
  have HT : Hid (TreeAt (w1.alloc (.cells x.arr 36)) (fun b => w.heap.size + 1 ≤ b) x t) :=
    (ht.weak (fun b hb _ => by simp at hb; omega)).under ((Below.refl _ _).alloc (Nat.le_refl _) _)
  have HA1 := Lib.hid (ha.alloc (.cells x.arr 36))
  have HG1 := Lib.hid (grown_alloc (HG.out.trans hg) (.cells x.arr 36))
  have HR1 := Lib.hid (res_alloc (res_kept HR.out hg (by omega)) (.cells x.arr 36))
  have hblk := heap_alloc_new w1 (.cells x.arr 36)
  obtain ⟨g, hgg⟩ : ∃ g, g = w1.heap.size := ⟨_, rfl⟩
  clear ht ha hg HR HA HG
  go_wp2_with (refine build_one rfl _ rfl x rfl H2.out H5.out ?_)
  rw [← hgg] at hblk ⊢
  obtain ⟨W, hW⟩ : ∃ W, W = w1.alloc (.cells x.arr 36) := ⟨_, rfl⟩
  rw [← hW] at HT HA1 HG1 HR1 hblk ⊢
  clear hW hgg
  obtain ⟨x0, x1, x2, x3, x4, x5⟩ := x
  have e0 : W.cell? ⟨g, 0, none⟩ = some (.int .i64 x0) := by simp [World.cell?, hblk, XV.arr]
  have e1 : W.cell? ⟨g, 1, none⟩ = some (.string x1) := by simp [World.cell?, hblk, XV.arr]
  have e2 : W.cell? ⟨g, 2, none⟩ = some x2 := by simp [World.cell?, hblk, XV.arr]
  have e3 : W.cell? ⟨g, 3, none⟩ = some (.int .i64 x3) := by simp [World.cell?, hblk, XV.arr]
  have e4 : W.cell? ⟨g, 4, none⟩ = some (.int .i64 x4) := by simp [World.cell?, hblk, XV.arr]
  have e5 : W.cell? ⟨g, 5, none⟩ = some x5 := by simp [World.cell?, hblk, XV.arr]
  have hb3 : g < W.heap.size := (Array.getElem?_eq_some_iff.1 hblk).1
  obtain ⟨c0, c1, c2, z0, z1, z2⟩ := HA1.out.cells
  clear hblk
  go_loopw [5] (fun v wr => v = .slice (some ⟨g, 0, none⟩) 1 1 ∧ wr = W) (fun _ _ => 0)
  case atStart => exact ⟨rfl, rfl⟩
  case round =>
    obtain ⟨rfl, rfl⟩ := hrel
    go_wp2_with (refine store_res rfl _ _ rfl w.heap.size ⟨x0, x1, x2, x3, x4, x5⟩ rfl rfl HR1.out H2.out H5.out ?_)
    exact bodyPost_ret_by (run_res rfl _ _ w.heap.size ⟨x0, x1, x2, x3, x4, x5⟩ rfl HR1.out) rfl ⟨_, t, q, (HT.out.set_row (fun b hb => by omega) _).weak (fun b hb _ => by omega), hq, rfl, HA1.out.set_row (by omega) _, grown_row HG1.out (Nat.le_refl _) _⟩

set_option maxRecDepth 100000 in
set_option maxHeartbeats 4000000 in
theorem yalt_behind (hel : BehindY 52) : BehindY 33 := by
  intro R p d c s w h hc hs hp hd
  have hR := h.lt
  have qc : (c == 0) = false := by simpa using hc
  have HR := Lib.hid (res_new w)
  have HA := Lib.hid (h.alloc (.cells #[.int .i64 0, .string ⟨#[]⟩, .slice none 0 0, .int .i64 0, .int .i64 0, .slice none 0 0] 36))
  have HG := Lib.hid (World.grownBy_alloc w (.cells #[.int .i64 0, .string ⟨#[]⟩, .slice none 0 0, .int .i64 0, .int .i64 0, .slice none 0 0] 36) (some R))
  have HEL : Hid (BehindY 52) := @hel
  clear h hel
  go_enter Tryz.func33, Tryz.ntmps33
  go_wp2_with fail
  refine (HEL.out HA.out hc hs hp hd).mono ?_
  rintro e w1 ⟨x, t, q, ht, hq, ⟨rfl, ha, hg⟩⟩
  have H2 := Lib.hid (one_cell_ns ht)
  have H5 := Lib.hid (one_cell_ks ht)
  have hz1 : w.heap.size + 1 ≤ w1.heap.size := by have := hg.size; simp at this; omega
  have HT : Hid (TreeAt (w1.alloc (.cells x.arr 36)) (fun b => w.heap.size + 1 ≤ b) x t) :=
    (ht.weak (fun b hb _ => by simp at hb; omega)).under ((Below.refl _ _).alloc (Nat.le_refl _) _)
  have HA1 := Lib.hid (ha.alloc (.cells x.arr 36))
  have HG1 := Lib.hid (grown_alloc (HG.out.trans hg) (.cells x.arr 36))
  have HR1 := Lib.hid (res_alloc (res_kept HR.out hg (by omega)) (.cells x.arr 36))
  have hblk := heap_alloc_new w1 (.cells x.arr 36)
  obtain ⟨g, hgg⟩ : ∃ g, g = w1.heap.size := ⟨_, rfl⟩
  clear ht ha hg HR HA HG
  go_wp2_with (refine build_one rfl _ rfl x rfl H2.out H5.out ?_)
  rw [← hgg] at hblk ⊢
  obtain ⟨W, hW⟩ : ∃ W, W = w1.alloc (.cells x.arr 36) := ⟨_, rfl⟩
  rw [← hW] at HT HA1 HG1 HR1 hblk ⊢
  clear hW hgg
  obtain ⟨x0, x1, x2, x3, x4, x5⟩ := x
  have e0 : W.cell? ⟨g, 0, none⟩ = some (.int .i64 x0) := by simp [World.cell?, hblk, XV.arr]
  have e1 : W.cell? ⟨g, 1, none⟩ = some (.string x1) := by simp [World.cell?, hblk, XV.arr]
  have e2 : W.cell? ⟨g, 2, none⟩ = some x2 := by simp [World.cell?, hblk, XV.arr]
  have e3 : W.cell? ⟨g, 3, none⟩ = some (.int .i64 x3) := by simp [World.cell?, hblk, XV.arr]
  have e4 : W.cell? ⟨g, 4, none⟩ = some (.int .i64 x4) := by simp [World.cell?, hblk, XV.arr]
  have e5 : W.cell? ⟨g, 5, none⟩ = some x5 := by simp [World.cell?, hblk, XV.arr]
  have hb3 : g < W.heap.size := (Array.getElem?_eq_some_iff.1 hblk).1
  obtain ⟨c0, c1, c2, z0, z1, z2⟩ := HA1.out.cells
  clear hblk
  go_loopw [5] (fun v wr => v = .slice (some ⟨g, 0, none⟩) 1 1 ∧ wr = W) (fun _ _ => 0)
  case atStart => exact ⟨rfl, rfl⟩
  case round =>
    obtain ⟨rfl, rfl⟩ := hrel
    go_wp2_with (refine store_res rfl _ _ rfl w.heap.size ⟨x0, x1, x2, x3, x4, x5⟩ rfl rfl HR1.out H2.out H5.out ?_)
    exact bodyPost_ret_by (run_res rfl _ _ w.heap.size ⟨x0, x1, x2, x3, x4, x5⟩ rfl HR1.out) rfl ⟨_, t, q, (HT.out.set_row (fun b hb => by omega) _).weak (fun b hb _ => by omega), hq, rfl, HA1.out.set_row (by omega) _, grown_row HG1.out (Nat.le_refl _) _⟩

end Go.Proofs.YtddbaacibdmnaaaGreatDoor
