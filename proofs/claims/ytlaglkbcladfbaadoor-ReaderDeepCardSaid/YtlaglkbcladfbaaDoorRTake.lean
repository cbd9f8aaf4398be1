/- The program's own small calls, further: a byte that is taken or must stand there; a run of bytes of one kind; for every text of at most 50000 bytes. -/
import Derived.Test.YtlaglkbcladfbaaDoorRNext
namespace Go.Proofs.YtlaglkbcladfbaaDoor
open Go.RowKit
set_option linter.unusedVariables false
set_option linter.unusedSimpArgs false

theorem At.step {w : World} {R : Nat} {s : ByteArray} {p d : Nat} (h : At w R s p d) : At (w.setCell ⟨R, 1, none⟩ (.int .i64 ((p : Int) + 1))) R s (p + 1) d := by
  have := h.set (p + 1)
  rwa [show ((p + 1 : Nat) : Int) = (p : Int) + 1 by omega] at this

theorem nx_eq {s : ByteArray} {p : Nat} {c : Int} (hc : 0 < c) : nx (rd s) p = c ↔ rd s p = c := by
  have := rd_range s p
  unfold nx
  split <;> omega

theorem wrap_step {p : Nat} (hp : p ≤ 60000) : IntKind.i64.wrap ((p : Int) + 1) = (p : Int) + 1 := IntWalk.i64_in _ ⟨by omega, by omega⟩

set_option maxRecDepth 100000 in
theorem taken_yes {R p d : Nat} {s : ByteArray} {w : World} (h : At w R s p d) (hs : s.size ≤ 50000) (c : Int) (hc : 0 < c) (hy : rd s p = c) :
    Calls Tryd.prog 84 #[.pointer (some ⟨R, 0, none⟩), .int .u8 c] w (Gives R s d (.bool true) (p + 1) w) := by
  have hlt : p < s.size := by
    by_cases g : p < s.size
    · exact g
    · rw [rd_out g] at hy; omega
  have hn := (nx_eq hc).2 hy
  obtain ⟨c0, c1, c2, z0, z1, z2⟩ := h.cells
  have HN := Lib.hid hn
  have H := Lib.hid h
  have HG := Lib.hid (next_any h hs (by omega))
  clear hn h hy
  go_enter Tryd.func84, Tryd.ntmps84
  go_wp2_with fail
  refine HG.out.mono ?_
  rw [HN.out]
  rintro e w' ⟨rfl, n, rfl⟩
  go_wp2_with fail
  go_ret
  exact ⟨rfl, (H.out.drew n).step, grown_set (grown_drew (grown_refl _ _) n) _ _⟩

set_option maxRecDepth 100000 in
theorem taken_no {R p d : Nat} {s : ByteArray} {w : World} (h : At w R s p d) (hs : s.size ≤ 50000) (hp : p ≤ s.size) (c : Int) (hc : 0 < c) (hy : rd s p ≠ c) :
    Calls Tryd.prog 84 #[.pointer (some ⟨R, 0, none⟩), .int .u8 c] w (Gives R s d (.bool false) p w) := by
  have hn : ¬ nx (rd s) p = c := fun g => hy ((nx_eq hc).1 g)
  have hb1 : (nx (rd s) p != c) = true := by simpa using hn
  have H := Lib.hid h
  have HG := Lib.hid (next_any h hs hp)
  clear hn h hy
  go_enter Tryd.func84, Tryd.ntmps84
  go_wp2_with fail
  refine HG.out.mono ?_
  rintro e w' ⟨rfl, n, rfl⟩
  go_wp2_with fail
  go_ret
  exact ⟨rfl, H.out.drew n, grown_drew (grown_refl _ _) n⟩

/-- The call returns nothing, and has read up to q. -/
def Takes (R : Nat) (s : ByteArray) (d : Nat) (q : Nat) (w : World) (e : Ending) (w' : World) : Prop := Gives R s d (.tuple #[]) q w e w'

theorem take_yes {R p d : Nat} {s : ByteArray} {w : World} (h : At w R s p d) (hs : s.size ≤ 50000) (c : Int) (hc : 0 < c) (hy : rd s p = c) :
    Calls Tryd.prog 83 #[.pointer (some ⟨R, 0, none⟩), .int .u8 c] w (Takes R s d (p + 1) w) := by
  have HG := Lib.hid (taken_yes h hs c hc hy)
  clear hy h
  go_enter Tryd.func83, Tryd.ntmps83
  go_wp2_with fail
  refine HG.out.mono ?_
  rintro e w' ⟨rfl, ha, hg⟩
  have HA := Lib.hid ha
  have HG := Lib.hid hg
  clear ha hg
  go_wp2_with fail
  go_end0
  exact ⟨rfl, HA.out, HG.out⟩

theorem take_no {R p d : Nat} {s : ByteArray} {w : World} (h : At w R s p d) (hs : s.size ≤ 50000) (hp : p ≤ s.size) (c : Int) (hc : 0 < c) (hy : rd s p ≠ c) :
    Calls Tryd.prog 83 #[.pointer (some ⟨R, 0, none⟩), .int .u8 c] w (Fails R 20 w) := by
  have HG := Lib.hid (taken_no h hs hp c hc hy)
  clear hy h
  go_enter Tryd.func83, Tryd.ntmps83
  go_wp2_with fail
  refine HG.out.mono ?_
  rintro e w' ⟨rfl, ha, hg⟩
  have HG := Lib.hid hg
  clear ha hg
  go_wp2_with fail
  refine (fail_any _ _).mono ?_
  rintro e w2 ⟨rfl, rfl⟩
  go_wp2_with fail
  exact ⟨rfl, rfl, HG.out⟩

end Go.Proofs.YtlaglkbcladfbaaDoor
