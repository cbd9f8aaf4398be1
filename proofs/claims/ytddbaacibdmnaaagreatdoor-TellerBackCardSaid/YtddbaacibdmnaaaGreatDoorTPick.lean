/- The law's numbers that are taken one by one. No condition. -/
import Derived.Test.YtddbaacibdmnaaaGreatDoorRes
namespace Go.Proofs.YtddbaacibdmnaaaGreatDoor
open Go.RowKit
set_option linter.unusedVariables false
set_option linter.unusedSimpArgs false

/-- A slice of bytes that reads so, in a block below R. -/
def BytesLow (W : World) (R : Nat) (v : Value) (zs : List Int) : Prop :=
  ∃ a cap, v = .slice a zs.length cap ∧ zs.length ≤ cap ∧ zs.length ≤ maxLen ∧ (∀ z ∈ zs, 0 ≤ z ∧ z ≤ 255) ∧
    (0 < zs.length → ∃ b off, a = some ⟨b, off, none⟩ ∧ b < R ∧ ∀ (i : Nat) (z : Int), zs[i]? = some z → W.cell? ⟨b, off + i, none⟩ = some (.int .u8 z))

theorem BytesLow.kept {W W' : World} {R : Nat} {v : Value} {zs : List Int} (h : BytesLow W R v zs) (hk : ∀ b, b < R → W'.heap[b]? = W.heap[b]?) : BytesLow W' R v zs := by
  obtain ⟨a, cap, h1, h2, h3, h4, h5⟩ := h
  refine ⟨a, cap, h1, h2, h3, h4, fun hn => ?_⟩
  obtain ⟨b, off, ha, hlt, hc⟩ := h5 hn
  refine ⟨b, off, ha, hlt, fun i z hz => ?_⟩
  rw [World.cell?_of_block (w := W) (hk b hlt)]
  exact hc i z hz

/-- The picker in block R: the slice of numbers, and how many are taken. -/
def PickAt (W : World) (R : Nat) (v : Value) (zs : List Int) (a : Nat) : Prop :=
  W.heap[R]? = some (.cells #[v, .int .i64 a] 43 (0, 0)) ∧ BytesLow W R v zs

theorem PickAt.lt {W : World} {R a : Nat} {v : Value} {zs : List Int} (h : PickAt W R v zs a) : R < W.heap.size := (Array.getElem?_eq_some_iff.1 h.1).1
theorem PickAt.kept {W W' : World} {R a : Nat} {v : Value} {zs : List Int} (h : PickAt W R v zs a) (hk : ∀ b, b ≤ R → W'.heap[b]? = W.heap[b]?) : PickAt W' R v zs a :=
  ⟨(hk R (Nat.le_refl _)).trans h.1, h.2.kept (fun b hb => hk b (Nat.le_of_lt hb))⟩
theorem PickAt.grown {W W' : World} {R a : Nat} {row : Option Nat} {v : Value} {zs : List Int} (h : PickAt W R v zs a) (hg : W.grownBy W' row) (hr : ∀ k, row = some k → R < k) : PickAt W' R v zs a :=
  h.kept (fun b hb => hg.block b (by have := h.lt; omega) (fun e => by have := hr b e.symm; omega))
theorem PickAt.below {W W' : World} {R a : Nat} {v : Value} {zs : List Int} (h : PickAt W R v zs a) (hb : Below W.heap.size W W') : PickAt W' R v zs a :=
  h.kept (fun b hl => hb.block b (by have := h.lt; omega))
theorem PickAt.alloc {W : World} {R a : Nat} {v : Value} {zs : List Int} (h : PickAt W R v zs a) (o : Obj) : PickAt (W.alloc o) R v zs a := h.below ((Below.refl _ _).alloc (Nat.le_refl _) o)
theorem PickAt.set_row {W : World} {R a g : Nat} {v : Value} {zs : List Int} (h : PickAt W R v zs a) (hg : R < g) (cs : Array Value) : PickAt (W.setRow g cs) R v zs a :=
  h.kept (fun b hb => setRow_other _ _ _ _ (by omega))
theorem PickAt.cells {W : World} {R a : Nat} {v : Value} {zs : List Int} (h : PickAt W R v zs a) : W.cell? ⟨R, 0, none⟩ = some v ∧ W.cell? ⟨R, 1, none⟩ = some (.int .i64 a) ∧ W.frozen? ⟨R, 0, none⟩ = false ∧ W.frozen? ⟨R, 1, none⟩ = false := by
  obtain ⟨h, _⟩ := h
  simp [World.cell?, World.frozen?, h]
theorem PickAt.set {W : World} {R a : Nat} {v : Value} {zs : List Int} (h : PickAt W R v zs a) (n : Nat) : PickAt (W.setCell ⟨R, 1, none⟩ (.int .i64 n)) R v zs n := by
  refine ⟨?_, h.2.kept (fun b hb => Below.heap_setCell _ _ _ _ (by show b ≠ R; omega))⟩
  have h0 := h.1
  unfold World.setCell
  simp only [Array.getElem?_modify, h0]
  simp

/-- Which number it is. -/
def pickF (zs : List Int) (a : Nat) (n : Int) : Nat := if zs.length < a + 1 ∨ 150 < a + 1 then 0 else (zs.getD a 0 % n).toNat
theorem pickF_lt (zs : List Int) (a : Nat) {n : Int} (hn : 1 ≤ n) : (pickF zs a n : Int) < n := by
  unfold pickF
  split
  · simp; omega
  · have h1 := Int.emod_nonneg (zs.getD a 0) (b := n) (by omega)
    have h2 := Int.emod_lt_of_pos (zs.getD a 0) (b := n) (by omega)
    omega

/-- The call answers that number, and has taken one more. -/
def Picks (R : Nat) (v : Value) (zs : List Int) (a : Nat) (n : Int) (w : World) (e : Ending) (w' : World) : Prop :=
  e = .returned (.int .i64 (pickF zs a n : Int)) ∧ PickAt w' R v zs (a + 1) ∧ w.grownBy w' (some R)

set_option maxRecDepth 100000 in
set_option maxHeartbeats 1000000 in
theorem pick_any {R a : Nat} {n : Int} {v : Value} {zs : List Int} {W : World} (h : PickAt W R v zs a) (ha : a ≤ 1000000) (hn : 1 ≤ n ∧ n ≤ 255) :
    Calls Tryz.prog 11 #[.pointer (some ⟨R, 0, none⟩), .int .i64 n] W (Picks R v zs a n W) := by
  obtain ⟨c0, c1, f0, f1⟩ := h.cells
  have hs := h.set (a + 1)
  have hg : W.grownBy (W.setCell ⟨R, 1, none⟩ (.int .i64 ((a + 1 : Nat) : Int))) (some R) := grown_set (grown_refl W _) _ _
  have hcast : ((a + 1 : Nat) : Int) = (a : Int) + 1 := by omega
  obtain ⟨d0, d1, g0, g1⟩ := hs.cells
  obtain ⟨p, cap, rfl, hcap, hmax, hrange, hcells⟩ := h.2
  unfold maxLen at hmax
  rw [hcast] at hs hg d0 d1 g0 g1
  have HS := Lib.hid hs
  have HG := Lib.hid hg
  clear hs hg h
  by_cases hlt : zs.length < a + 1
  · have q1 : decide ((zs.length : Int) < (a : Int) + 1) = true := decide_eq_true (by omega)
    have HF : Hid ((pickF zs a n : Int) = 0) := by unfold Hid; unfold pickF; rw [if_pos (.inl hlt)]; rfl
    go_enter Tryz.func11, Tryz.ntmps11
    go_wp2_with fail
    go_quiet (fail)
    go_wp2_with fail
    go_ret
    exact ⟨by rw [HF.out]; rfl, HS.out, grown_drew HG.out _⟩
  · have q1 : decide ((zs.length : Int) < (a : Int) + 1) = false := decide_eq_false (by omega)
    by_cases h150 : 150 < a + 1
    · have q2 : decide ((150 : Int) < (a : Int) + 1) = true := decide_eq_true (by omega)
      have HF : Hid ((pickF zs a n : Int) = 0) := by unfold Hid; unfold pickF; rw [if_pos (.inr h150)]; rfl
      go_enter Tryz.func11, Tryz.ntmps11
      go_wp2_with fail
      go_quiet (fail)
      go_wp2_with fail
      go_ret
      exact ⟨by rw [HF.out]; rfl, HS.out, grown_drew HG.out _⟩
    · have q2 : decide ((150 : Int) < (a : Int) + 1) = false := decide_eq_false (by omega)
      obtain ⟨b, off, rfl, hbR, hc⟩ := hcells (by omega)
      obtain ⟨z, hz⟩ : ∃ z, zs[a]? = some z := ⟨_, List.getElem?_eq_getElem (by omega)⟩
      have hz0 := hrange z (List.mem_of_getElem? hz)
      have e0 := hc a z hz
      have HF : Hid ((pickF zs a n : Int) = z % n) := by
        unfold Hid
        unfold pickF
        rw [if_neg (fun h => h.elim hlt h150), List.getD_eq_getElem?_getD, hz]
        exact Int.toNat_of_nonneg (Int.emod_nonneg _ (by omega))
      go_enter Tryz.func11, Tryz.ntmps11
      go_wp2_with fail
      go_quiet (fail)
      go_wp2_with fail
      go_quiet (fail)
      go_wp2_with fail
      go_ret
      exact ⟨by rw [HF.out]; rfl, HS.out, grown_drew (grown_drew HG.out _) _⟩

end Go.Proofs.YtddbaacibdmnaaaGreatDoor
