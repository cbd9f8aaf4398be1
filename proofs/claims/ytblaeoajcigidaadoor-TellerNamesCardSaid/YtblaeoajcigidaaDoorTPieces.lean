/- What the statements' own helpers return: the pieces, and texts of them; memory that was there stays as it was. -/
import Derived.Test.YtblaeoajcigidaaDoorTFrame
namespace Go.Proofs.YtblaeoajcigidaaDoor
open Go.RowKit
set_option linter.unusedVariables false
set_option linter.unusedSimpArgs false

/-- Some short texts in a row. -/
def TxtsAt (W : World) (v : Value) (m : Nat) : Prop := ∃ g cap, v = .slice (some ⟨g, 0, none⟩) m cap ∧ m ≤ cap ∧ g < W.heap.size ∧ ∀ i : Nat, i < m → ∃ s : ByteArray, W.cell? ⟨g, i, none⟩ = some (.string s) ∧ s.size ≤ 10
theorem TxtsAt.below {W W' : World} {v : Value} {m : Nat} (h : TxtsAt W v m) (hb : Below W.heap.size W W') : TxtsAt W' v m := by
  obtain ⟨g, cap, h1, h2, h3, h4⟩ := h
  refine ⟨g, cap, h1, h2, Nat.lt_of_lt_of_le h3 hb.size, fun i hi => ?_⟩
  obtain ⟨s, hs, hl⟩ := h4 i hi
  exact ⟨s, (hb.cell (p := ⟨g, i, none⟩) h3).trans hs, hl⟩
/-- The call returns a short text. -/
def GivesTxt (n : Nat) (w : World) (e : Ending) (w' : World) : Prop := ∃ s : ByteArray, s.size ≤ n ∧ e = .returned (.string s) ∧ Below w.heap.size w w'
def shortT (v : Value) : Bool := match v with | .string s => decide (s.size ≤ 10) | _ => false
theorem shortT_of {v : Value} (h : shortT v = true) : ∃ s : ByteArray, v = .string s ∧ s.size ≤ 10 := by
  cases v <;> simp [shortT] at h
  exact ⟨_, rfl, h⟩
theorem txts_new (w : World) (cs : Array Value) (t : TypeId) (m : Nat) (hs : cs.size = m) (ha : cs.toList.all shortT = true) : TxtsAt (w.alloc (.cells cs t)) (.slice (some ⟨w.heap.size, 0, none⟩) m m) m := by
  refine ⟨w.heap.size, m, rfl, Nat.le_refl _, by simp, fun i hi => ?_⟩
  have hc : cs[i]? = some cs[i] := Array.getElem?_eq_getElem (by omega)
  have hm := List.all_eq_true.1 ha cs[i] (by simp)
  obtain ⟨s, hs, hl⟩ := shortT_of hm
  refine ⟨s, ?_, hl⟩
  rw [← hs, ← hc]
  have := heap_alloc_new w (.cells cs t)
  simp only [World.cell?, this]
  rfl

set_option maxRecDepth 100000 in
set_option maxHeartbeats 8000000 in
theorem piecesT_any {m : Nat} (hm1 : 1 ≤ m) (hm2 : m ≤ 30) {v u : Value} {zs : List Int} {w : World} (hv : BytesAt w v zs) (hu : TxtsAt w u m) : Calls Tryd.prog 12 #[v, u] w (GivesTxt 140 w) := by
  obtain ⟨a, cap, rfl, hcap, hmax, hz, hc⟩ := hv
  obtain ⟨g, cu, rfl, hcu, hg, hs⟩ := hu
  unfold maxLen at hmax
  have HZ := Lib.hid hz
  have HC := Lib.hid hc
  have HS := Lib.hid hs
  obtain ⟨n, hn⟩ : ∃ n, n = zs.length := ⟨_, rfl⟩
  rw [← hn] at hcap hmax ⊢
  have HN := Lib.hid hn
  clear hz hc hs hn
  go_enter Tryd.func12, Tryd.ntmps12
  go_wp2_with fail
  go_loop [5, 6] (fun t i => ∃ (k : Nat) (s : ByteArray), i = .int .i64 k ∧ t = .string s ∧ k ≤ 14 ∧ s.size ≤ 10 * k) (fun _ i => 14 - (intOf i).toNat)
  case atStart => exact ⟨0, ⟨#[]⟩, rfl, rfl, by omega, by decide⟩
  case round =>
    obtain ⟨k, s, rfl, rfl, hk, hs⟩ := hrel
    by_cases h1 : k < n
    · have q1 : decide ((k : Int) < (n : Int)) = true := decide_eq_true (by omega)
      have q1' : decide (k < n) = true := decide_eq_true h1
      by_cases h2 : k < 14
      · have q2 : decide ((k : Int) < 14) = true := decide_eq_true (by omega)
        have q2' : decide (k < 14) = true := decide_eq_true h2
        obtain ⟨b, off, rfl, hb, hcell⟩ := HC.out (by rw [← HN.out]; omega)
        have hkl : k < zs.length := by rw [← HN.out]; exact h1
        have c0 := hcell k zs[k] (List.getElem?_eq_getElem hkl)
        have hz := HZ.out zs[k] (List.getElem_mem hkl)
        obtain ⟨z, hzz⟩ : ∃ z, z = zs[k] := ⟨_, rfl⟩
        rw [← hzz] at c0 hz
        have hm0 : 0 ≤ z % (m : Int) := Int.emod_nonneg z (by omega)
        obtain ⟨p, hp, hpl⟩ := HS.out (z % (m : Int)).toNat (by have := Int.emod_lt_of_pos z (show (0 : Int) < (m : Int) by omega); omega)
        have hmz : z % (m : Int) < (m : Int) := Int.emod_lt_of_pos z (by omega)
        have hm0' := hm0
        have hsz : (s ++ p).size = s.size + p.size := ByteArray.size_append ..
        have HSZ := Lib.hid hsz
        clear hcell hzz hsz
        go_wp2_with fail
        go_round
        case rel => exact ⟨k + 1, s ++ p, by go_num, rfl, by omega, by rw [HSZ.out]; omega⟩
        case measure => simp [intOf]; omega
      · have q2 : decide ((k : Int) < 14) = false := decide_eq_false (by omega)
        have q2' : decide (k < 14) = false := decide_eq_false h2
        go_wp2_with fail
        go_ret
        exact ⟨s, by omega, rfl, Below.refl _ _⟩
    · have q1 : decide ((k : Int) < (n : Int)) = false := decide_eq_false (by omega)
      have q1' : decide (k < n) = false := decide_eq_false h1
      go_wp2_with fail
      go_ret
      exact ⟨s, by omega, rfl, Below.refl _ _⟩

end Go.Proofs.YtblaeoajcigidaaDoor
