/- What key returns: the bytes whose bits tell which sets of the list have the byte: for every list of sets in memory; memory that was there stays as it was. -/
import Derived.Deep.OwnRows
import Derived.Laws.IdiomStrings
import Derived.Test.YtchicecmoknkjaaDoorFrame
import Derived.Test.YtchicecmoknkjaaDoorKeyMath
namespace Go.Proofs.YtchicecmoknkjaaDoor
open Go.RowKit
set_option linter.unusedVariables false

/-- Block B holds n sets' words from off on. -/
def SetsIn (W : World) (B off n : Nat) (x0 x1 x2 x3 : Nat → Int) : Prop :=
  ∀ i, i < n → W.cell? ⟨B, off + i * 4, none⟩ = some (.int .u64 (x0 i)) ∧ W.cell? ⟨B, off + i * 4 + 1, none⟩ = some (.int .u64 (x1 i)) ∧ W.cell? ⟨B, off + i * 4 + 2, none⟩ = some (.int .u64 (x2 i)) ∧ W.cell? ⟨B, off + i * 4 + 3, none⟩ = some (.int .u64 (x3 i))

theorem SetsIn.below {W W' : World} {B off n N : Nat} {x0 x1 x2 x3 : Nat → Int} (h : SetsIn W B off n x0 x1 x2 x3) (hb : Below N W W') (hB : B < N) : SetsIn W' B off n x0 x1 x2 x3 := by
  intro i hi
  obtain ⟨a, b, c, d⟩ := h i hi
  exact ⟨(hb.cell (p := ⟨B, off + i * 4, none⟩) hB).trans a, (hb.cell (p := ⟨B, off + i * 4 + 1, none⟩) hB).trans b, (hb.cell (p := ⟨B, off + i * 4 + 2, none⟩) hB).trans c, (hb.cell (p := ⟨B, off + i * 4 + 3, none⟩) hB).trans d⟩

/-- The call returns these bytes as a string, and leaves what was there. -/
def RetStr (l : List UInt8) (w : World) (e : Ending) (w' : World) : Prop := e = .returned (.string ⟨l.toArray⟩) ∧ Below w.heap.size w w'

theorem infoByte : (Tryd.prog.info? 5).map (fun i => (i.zero, i.size, i.bytes)) = some (some (.int .u8 0), 1, 1) := by kernel_rfl

theorem made_list (n : Nat) : (madeCells #[Value.int .u8 0] n).toList = List.replicate n (.int .u8 0) := by
  apply List.ext_getElem
  · simp [madeCells]
  · intro i h1 h2
    simp [madeCells, Nat.mod_one]

set_option maxRecDepth 100000 in
set_option maxHeartbeats 4000000 in
theorem key_some (B off n cap : Nat) (x0 x1 x2 x3 : Nat → Int) (fs : Nat → Nat → Bool) (hS : ∀ i, i < n → IsSet (x0 i) (x1 i) (x2 i) (x3 i) (fs i)) (b : Int) (hb0 : 0 ≤ b) (hb1 : b < 256) (hn : n ≤ 1000) (hcap : n ≤ cap)
    (w : World) (hc : SetsIn w B off n x0 x1 x2 x3) (hB : B < w.heap.size) :
    Calls Tryd.prog 49 #[.slice (some ⟨B, off, none⟩) n cap, .int .i64 b] w (RetStr (keyL n (fun i => fs i b.toNat)) w) := by
  obtain ⟨K, hK⟩ : ∃ K, K = keyL n (fun i => fs i b.toNat) := ⟨_, rfl⟩
  rw [← hK]
  have HK := Lib.hid hK
  have HS := Lib.hid hS
  have HC := Lib.hid hc
  clear hK hS hc
  obtain ⟨i0, hi, hz0, hz1, hz2⟩ := info_parts infoByte
  obtain ⟨m, hm⟩ : ∃ m, m = (n + 7) / 8 := ⟨_, rfl⟩
  have hm2 : m ≤ 200 := by omega
  have hm3 : ∀ i, i < n → i / 8 < m := by intro i h; omega
  have HM := Lib.hid hm
  have HM3 := Lib.hid hm3
  have hm4 : ((n : Int) + 7) / 8 = (m : Int) := by omega
  clear hm hm3
  go_enter Tryd.func49, Tryd.ntmps49
  go_wp2_with (at_make; refine wpList_make_full _ rfl _ _ 55 rfl w.heap.size 5 i0 (.int .u8 0) 1 Tryd.underlying55 hi hz0 hz1 .i64 .i64 _ _ m rfl rfl hm4 hm4 ?b2 ?b3 ?b4 ?_)
  case b2 => rw [hz2]; omega
  case b3 => unfold maxLen; omega
  case b4 => omega
  intro w1 hrow hgrow
  have hrow0 : w1.ownsRow w.heap.size 5 1 (.slice (some ⟨w.heap.size, 0, none⟩) m m) m (kcells m 0 (fun i => fs i b.toNat)) := by
    rw [kcells_zero, ← made_list]; exact hrow
  have hb1' := (Below.refl w.heap.size w).grown hgrow (Nat.le_refl _) (fun k h => by cases h)
  have hsz1 := (own_base hrow0).2.2
  clear hm4 hrow hgrow
  go_wp2
  go_loopw [15] (fun i wr => ∃ k : Nat, i = .int .i64 k ∧ k ≤ n ∧ wr.ownsRow w.heap.size 5 1 (.slice (some ⟨w.heap.size, 0, none⟩) m m) m (kcells m k (fun i => fs i b.toNat)) ∧ w.heap.size < wr.heap.size ∧ Below w.heap.size w wr)
    (fun i _ => n - (intOf i).toNat)
  case atStart => exact ⟨0, rfl, by omega, hrow0, hsz1, hb1'⟩
  case round =>
    obtain ⟨k, rfl, hk, hrw, hsz, hbel⟩ := hrel
    by_cases ht : k < n
    · obtain ⟨c0, c1, c2, c3⟩ := (HC.out.below hbel hB) k ht
      have hsk := HS.out k ht
      generalize x0 k = a0 at *
      generalize x1 k = a1 at *
      generalize x2 k = a2 at *
      generalize x3 k = a3 at *
      have hfe := hasB_in (fs k) b hb0 hb1
      have hkm := HM3.out k ht
      cases hfk : fs k b.toNat with
      | true =>
        rw [hfk] at hfe
        have HF := Lib.hid hfk
        clear hfk
        have hrw2 := own_alloc (own_alloc hrw (.cells #[.int .u64 a0, .int .u64 a1, .int .u64 a2, .int .u64 a3] 24)) (.cells #[.int .u64 a0, .int .u64 a1, .int .u64 a2, .int .u64 a3] 24)
        have e0 := own_cell hrw2 (kcells_at m k (fun i => fs i b.toNat) (k / 8) hkm)
        have f0 := own_frozen hrw2 (k / 8)
        go_wp2_with (go_at_call 26; refine (has_any _ _ _ _ _ _ _ hsk).mono ?_; rintro e w' ⟨rfl, rfl⟩)
        have hy := kb_yes k (fun i => fs i b.toNat) HF.out
        rw [wrap_u8] at hy
        have HY := Lib.hid hy
        clear hy
        go_region
        go_wp2
        go_roundw
        case rel =>
          refine ⟨k + 1, by go_num, by omega, ?_, by simp; omega, ?_⟩
          · have h := own_alloc (own_alloc (own_set hrw (k / 8) (.int .u8 (kb (k + 1) (fun i => fs i b.toNat) (k / 8) : Int))) (.cells #[.int .u64 a0, .int .u64 a1, .int .u64 a2, .int .u64 a3] 24)) (.cells #[.int .u64 a0, .int .u64 a1, .int .u64 a2, .int .u64 a3] 24)
            rw [kcells_yes] at h
            rw [← HY.out] at h
            exact h
          · go_grown
        case measure => simp [intOf]; omega
      | false =>
        rw [hfk] at hfe
        have HF := Lib.hid hfk
        clear hfk
        go_wp2_with (go_at_call 26; refine (has_any _ _ _ _ _ _ _ hsk).mono ?_; rintro e w' ⟨rfl, rfl⟩)
        go_roundw
        case rel => exact ⟨k + 1, by go_num, by omega, by rw [kcells_no m k (fun i => fs i b.toNat) HF.out]; exact own_alloc (own_alloc hrw _) _, by simp; omega, below_alloc (below_alloc hbel _) _⟩
        case measure => simp [intOf]; omega
    · obtain rfl : k = n := by omega
      have hlen : K.length = m := by rw [HK.out, HM.out]; simp [keyL]
      have hconv : (convert 55 9 (.slice (some ⟨w.heap.size, 0, none⟩) m m)).run Tryd.prog wr = .ok (.string ⟨K.toArray⟩) wr := by
        have h := run_convert_bytes_back (P := Tryd.prog) wr 55 9 5 ⟨w.heap.size, 0, none⟩ m K Tryd.underlying55 Tryd.underlying5 Tryd.underlying9 (fun j hj => by
          have hc := own_cell hrw (kcells_at m k (fun i => fs i b.toNat) j (by omega))
          have hj2 : K[j] = UInt8.ofNat (kb k (fun i => fs i b.toNat) j) := by
            have hk2 : K[j]? = some (UInt8.ofNat (kb k (fun i => fs i b.toNat) j)) := by
              rw [HK.out]
              have : j < (k + 7) / 8 := by rw [← HM.out]; omega
              simp [keyL, this]
            rw [List.getElem?_eq_getElem hj] at hk2
            exact Option.some.inj hk2
          rw [hj2, UInt8.toNat_ofNat', Nat.mod_eq_of_lt (kb_lt k _ j)]
          have hadd : (⟨w.heap.size, 0, none⟩ : Addr).add j = ⟨w.heap.size, j, none⟩ := by
            by_cases h0 : j = 0
            · subst h0; simp [Addr.add]
            · simp [Addr.add, h0]
          rw [hadd]
          exact hc)
        rw [hlen] at h
        exact h
      have HL := Lib.hid hlen
      clear hlen
      go_wp2
      go_ret
      exact ⟨rfl, hbel⟩

set_option maxRecDepth 100000 in
set_option maxHeartbeats 4000000 in
theorem key_nil (o : Option Addr) (cap : Nat) (b : Int) (fs : Nat → Nat → Bool) (w : World) :
    Calls Tryd.prog 49 #[.slice o 0 cap, .int .i64 b] w (RetStr (keyL 0 (fun i => fs i b.toNat)) w) := by
  have hk : keyL 0 (fun i => fs i b.toNat) = [] := rfl
  rw [hk]
  obtain ⟨i0, hi, hz0, hz1, hz2⟩ := info_parts infoByte
  go_enter Tryd.func49, Tryd.ntmps49
  go_wp2_with (at_make; refine wpList_make_full _ rfl _ _ 55 rfl w.heap.size 5 i0 (.int .u8 0) 1 Tryd.underlying55 hi hz0 hz1 .i64 .i64 _ _ 0 rfl rfl ?b1 ?b1' ?b2 ?b3 ?b4 ?_)
  case b1 => rfl
  case b1' => rfl
  case b2 => rw [hz2]; omega
  case b3 => unfold maxLen; omega
  case b4 => omega
  intro w1 hrow hgrow
  have hb1' := (Below.refl w.heap.size w).grown hgrow (Nat.le_refl _) (fun k h => by cases h)
  clear hrow hgrow
  go_wp2
  go_loopw [15] (fun i wr => i = .int .i64 0 ∧ Below w.heap.size w wr) (fun _ _ => 0)
  case atStart => exact ⟨rfl, hb1'⟩
  case round =>
    obtain ⟨rfl, hbel⟩ := hrel
    have hconv : (convert 55 9 (.slice (some ⟨w.heap.size, 0, none⟩) 0 0)).run Tryd.prog wr = .ok (.string ⟨([] : List UInt8).toArray⟩) wr :=
      run_convert_bytes_back (P := Tryd.prog) wr 55 9 5 ⟨w.heap.size, 0, none⟩ 0 [] Tryd.underlying55 Tryd.underlying5 Tryd.underlying9 (fun j hj => absurd hj (Nat.not_lt_zero j))
    go_wp2
    go_ret
    exact ⟨rfl, hbel⟩

/-- A list of n sets in memory, nil or not. -/
def SetsAt (W : World) (v : Value) (n : Nat) (x0 x1 x2 x3 : Nat → Int) : Prop :=
  (∃ o cap, v = .slice o 0 cap ∧ n = 0) ∨ ∃ B off cap, v = .slice (some ⟨B, off, none⟩) n cap ∧ n ≤ cap ∧ B < W.heap.size ∧ SetsIn W B off n x0 x1 x2 x3

theorem SetsAt.below {W W' : World} {v : Value} {n : Nat} {x0 x1 x2 x3 : Nat → Int} (h : SetsAt W v n x0 x1 x2 x3) (hb : Below W.heap.size W W') : SetsAt W' v n x0 x1 x2 x3 := by
  rcases h with h | ⟨B, off, cap, hv, hc, hB, hs⟩
  · exact .inl h
  · exact .inr ⟨B, off, cap, hv, hc, Nat.lt_of_lt_of_le hB hb.size, hs.below hb hB⟩

theorem key_any (v : Value) (n : Nat) (x0 x1 x2 x3 : Nat → Int) (fs : Nat → Nat → Bool) (hS : ∀ i, i < n → IsSet (x0 i) (x1 i) (x2 i) (x3 i) (fs i)) (b : Int) (hb0 : 0 ≤ b) (hb1 : b < 256) (hn : n ≤ 1000) (w : World) (hv : SetsAt w v n x0 x1 x2 x3) :
    Calls Tryd.prog 49 #[v, .int .i64 b] w (RetStr (keyL n (fun i => fs i b.toNat)) w) := by
  rcases hv with ⟨o, cap, rfl, rfl⟩ | ⟨B, off, cap, rfl, hc, hB, hs⟩
  · exact key_nil o cap b fs w
  · exact key_some B off n cap x0 x1 x2 x3 fs hS b hb0 hb1 hn hc w hs hB

end Go.Proofs.YtchicecmoknkjaaDoor
