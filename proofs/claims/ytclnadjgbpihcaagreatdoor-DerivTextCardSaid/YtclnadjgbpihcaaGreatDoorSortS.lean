/- The library's SortStableFunc at expressions with their texts, in a row of the call's own. No condition but size. -/
import Derived.Test.YtclnadjgbpihcaaGreatDoorCompact
import Derived.Test.YtclnadjgbpihcaaGreatDoorStable
namespace Go.Proofs.YtclnadjgbpihcaaGreatDoor
open Go.RowKit Go.Lib Go.Sort Go.Shelf
set_option linter.unusedVariables false
set_option linter.unusedSimpArgs false

theorem flat7_get (ks : List KE) (t : Nat) (ht : t < ks.length * 7) : (ks.flatMap KE.enc)[t]? = some (flatK KE.enc 7 ks.toArray)[t]! := by
  have hi : t / 7 < ks.length := by omega
  have hm : t % 7 < 7 := Nat.mod_lt _ (by decide)
  have h := flat7_at ks (t / 7) (t % 7) ks[t / 7] (List.getElem?_eq_getElem hi) hm
  rw [show t / 7 * 7 + t % 7 = t by omega] at h
  rw [h, get_flatK _ _ _ t (by simpa using ht)]
  have e : ks.toArray[t / 7]! = ks[t / 7] := by rw [getElem!_pos ks.toArray (t / 7) (by simpa using hi)]; simp
  rw [e]
  have hl : t % 7 < (ks[t / 7]).enc.length := hm
  rw [List.getElem?_eq_getElem hl, getElem!_pos (ks[t / 7]).enc (t % 7) hl]
theorem rowK_of {w : World} {base g n cap : Nat} {ks : List KE} (h : w.ownsRow base 106 7 (.slice (some ⟨g, 0, none⟩) n cap) n (ks.flatMap KE.enc)) : RowK KE.enc 7 w g 0 ks.toArray := by
  refine ⟨KE.enc_len, KE.enc_one, ?_, (row_base h).2.2.2⟩
  intro j hj
  rw [size_flatK] at hj
  have hj : j < ks.length * 7 := by simpa using hj
  refine ⟨?_, own_frozenR h _⟩
  rw [Nat.zero_add]
  exact row_cell h (flat7_get ks j hj)
theorem SW7.heap {w0 W : World} {g : Nat} {dk : Array KE} (h : SW7 w0 g 0 dk W) {cur : Array Value} {e : TypeId} (hb : w0.heap[g]? = some (.cells cur e (0, 0))) :
    W.heap[g]? = some (.cells (putCells id 0 (flatK KE.enc 7 dk) cur) e (0, 0)) ∧ ∀ b, b < w0.heap.size → b ≠ g → W.heap[b]? = w0.heap[b]? := by
  obtain ⟨m, os, rfl⟩ := h
  have hg : g < w0.heap.size := (Array.getElem?_eq_some_iff.1 hb).1
  unfold sortWorldK putRowK putRow
  constructor
  · rw [heap_grow_old _ _ (by simpa [mapBlock, Sort.ahead] using hg)]
    simp [mapBlock, Sort.ahead, Array.getElem?_modify, hb, onCells]
  · intro b hb2 hne
    rw [heap_grow_old _ _ (by simpa [mapBlock, Sort.ahead] using hb2)]
    have : g ≠ b := fun e => hne e.symm
    simp [mapBlock, Sort.ahead, Array.getElem?_modify, this]
theorem SW7.row {w0 W : World} {base g n cap : Nat} {ks : List KE} {dk : Array KE} (h : SW7 w0 g 0 dk W) (hO : w0.ownsRow base 106 7 (.slice (some ⟨g, 0, none⟩) n cap) n (ks.flatMap KE.enc)) (hd : dk.size = n) :
    W.ownsRow base 106 7 (.slice (some ⟨g, 0, none⟩) n cap) n (dk.toList.flatMap KE.enc) ∧ Below base w0 W := by
  rcases hO.2 with ⟨h2, _⟩ | ⟨g', cap', cur, hv, hb, hh, hc, hm, hsz, ht⟩
  · cases h2
  obtain ⟨rfl, rfl⟩ : g = g' ∧ cap = cap' := by simp at hv; omega
  obtain ⟨h1, h2⟩ := SW7.heap h hh
  have hlen : (dk.toList.flatMap KE.enc).length = n * 7 := by rw [flat7_len, Array.length_toList, hd]
  refine ⟨⟨hlen, .inr ⟨g, cap, _, rfl, hb, h1, hc, hm, by simp [putCells, hsz], ?_⟩⟩, ?_⟩
  · refine List.ext_getElem? fun t => ?_
    by_cases ht2 : t < n * 7
    · rw [List.getElem?_take_of_lt ht2, flat7_get _ _ (by rw [Array.length_toList, hd]; exact ht2)]
      have hcs : t < cur.size := by have : n * 7 ≤ cap * 7 := Nat.mul_le_mul_right _ hc; omega
      have hfs : t < dk.size * 7 := by rw [hd]; exact ht2
      rw [Array.getElem?_toList]
      simp [putCells, hcs, hfs]
    · rw [List.getElem?_eq_none (by rw [List.length_take]; omega), List.getElem?_eq_none (by omega)]
  · obtain ⟨m, os, rfl⟩ := h
    refine ⟨rfl, rfl, rfl, ?_, fun b hb2 => ?_⟩
    · rw [sortWorldK, Go.Sort.size_grow]
      simp [putRowK, putRow, mapBlock, Sort.ahead]
    · exact h2 b (by have := (Array.getElem?_eq_some_iff.1 hh).1; omega) (by omega)

set_option maxRecDepth 100000 in
set_option maxHeartbeats 4000000 in
theorem sortstable_any (w : World) (base g n cap : Nat) (ks : List KE) (hO : w.ownsRow base 106 7 (.slice (some ⟨g, 0, none⟩) n cap) n (ks.flatMap KE.enc)) (hn : n ≤ 1000000000000) (hix : ∀ (t : Nat) (x : KE), ks[t]? = some x → x.ix = t) :
    Calls Tryz.prog 70 #[.slice (some ⟨g, 0, none⟩) n cap, .func (.func 71) #[] #[]] w fun e w' =>
      e = .returned (.tuple #[]) ∧ ∃ D : List KE, D.Perm ks ∧ SrtL KE.key KE.ix D ∧ w'.ownsRow base 106 7 (.slice (some ⟨g, 0, none⟩) n cap) n (D.flatMap KE.enc) ∧ Below base w w' := by
  have hkl : ks.length = n := by have := hO.1; rw [flat7_len] at this; omega
  have R := rowK_of hO
  have hH := R.hH
  have c := stable_any R (by simp; omega) cap ks.toArray w (SWK.start hH) rfl (fun t ht => by
    have ht' : t < ks.length := by simpa using ht
    have e : ks.toArray[t]! = ks[t] := by rw [getElem!_pos ks.toArray t ht]; simp
    rw [e]
    exact hix t _ (List.getElem?_eq_getElem ht'))
  rw [show ks.toArray.size = n by simp [hkl]] at c
  have HO := Lib.hid hO
  have HKL := Lib.hid hkl
  clear hO R hH hix hkl
  go_enter Tryz.func70, Tryz.ntmps70
  go_wp2_with fail
  ((with_reducible refine c.mono ?_))
  rintro _ w2 ⟨rfl, d', hS, hP, hR⟩
  have HS := Lib.hid hS
  have HP := Lib.hid hP
  have HR := Lib.hid hR
  clear hS hP hR c
  go_wp2
  go_end0
  have hds : d'.size = n := HP.out.1.trans (by simp [HKL.out])
  obtain ⟨h1, h2⟩ := SW7.row HS.out HO.out hds
  exact ⟨rfl, d'.toList, by have := perm_of (by simp [HKL.out]) HP.out; simpa using this, srtL_of hds HR.out, h1, h2⟩

end Go.Proofs.YtclnadjgbpihcaaGreatDoor

