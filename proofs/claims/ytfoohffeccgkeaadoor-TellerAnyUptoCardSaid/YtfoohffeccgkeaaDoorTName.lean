/- Names and texts of bytes, by the program's teller; for every text of at most maxLen bytes. -/
import Derived.Test.YtfoohffeccgkeaaDoorTAll
import Derived.Laws.IdiomStrings
namespace Go.Proofs.YtfoohffeccgkeaaDoor
open Go.RowKit
set_option linter.unusedVariables false
set_option linter.unusedSimpArgs false

/-- A text turned into bytes. -/
theorem conv_bytes (W : World) (S : ByteArray) (hs : S.size ≤ maxLen) : ∃ cap, S.size ≤ cap ∧ cap ≤ maxLen ∧
    (convert 9 45 (.string S)).run Tryd.prog W = .ok (.slice (some ⟨W.heap.size, 0, none⟩) S.size cap) (W.drew.alloc (.cells (bytesRow S cap) 5 ((bytesRow S cap).size, (bytesRow S cap).size + 1))) :=
  ⟨grownCap W S.size 0 5, grownCap_ge _ _ _ _, grownCap_le_maxLen _ _ _ _ hs, run_bytes_of_string W 9 45 5 S Tryd.underlying9 Tryd.underlying45 Tryd.underlying5⟩

theorem bytes_row {x : List Int} (hx : ∀ c ∈ x, 0 ≤ c ∧ c ≤ 255) (W : World) (cap : Nat) (hc : x.length ≤ cap) (hm : cap ≤ maxLen) :
    RowAny (W.drew.alloc (.cells (bytesRow (strOf x) cap) 5 ((bytesRow (strOf x) cap).size, (bytesRow (strOf x) cap).size + 1))) (.slice (some ⟨W.heap.size, 0, none⟩) x.length cap) x.length (bcells x) := by
  refine .inr ⟨W.heap.size, 0, cap, rfl, hc, hm, by simp, fun j u hj => ?_⟩
  have hjl : j < x.length := by
    have := (List.getElem?_eq_some_iff.1 hj).1
    simpa [bcells] using this
  have hjs : j < (strOf x).size := by rw [strOf_size]; exact hjl
  have hg := strOf_get8 hx j hjs
  have hb := bytesRow_at (strOf x) cap j hjs
  have hu : u = .int .u8 (((strOf x)[j].toNat : Nat) : Int) := by
    unfold bcells at hj
    rw [List.getElem?_map, hg] at hj
    exact (Option.some.inj hj).symm
  have hblk : (W.drew.alloc (.cells (bytesRow (strOf x) cap) 5 ((bytesRow (strOf x) cap).size, (bytesRow (strOf x) cap).size + 1))).heap[W.heap.size]? = some (.cells (bytesRow (strOf x) cap) 5 ((bytesRow (strOf x) cap).size, (bytesRow (strOf x) cap).size + 1)) := by
    show (W.heap.push _)[W.heap.size]? = _
    simp
  rw [hu]
  simp only [World.cell?, hblk, Nat.zero_add]
  exact hb

set_option maxRecDepth 100000 in
set_option maxHeartbeats 1000000 in
theorem name_text {x : List Int} (w : World) (hx : ∀ c ∈ x, 0 ≤ c ∧ c ≤ 255) (hl : x.length ≤ 9223372036854775807) : Calls Tryd.prog 9 #[.string (strOf x)] w (GivesBool (nameB x) w) := by
  cases x with
  | nil =>
    rw [strOf_nil]
    go_enter Tryd.func9, Tryd.ntmps9
    go_wp2_with fail
    go_ret
    exact ⟨rfl, Below.refl _ _⟩
  | cons a l =>
    obtain ⟨x, hxx⟩ : ∃ x, x = a :: l := ⟨_, rfl⟩
    have hname : nameB (a :: l) = (decide (x.length ≤ 40) && smB a && x.all nlB) := by rw [hxx]; rfl
    rw [hname]
    rw [← hxx] at hx hl ⊢
    have ha := hx a (by rw [hxx]; simp)
    have h0 : x[0]? = some a := by rw [hxx]; rfl
    have hpos : 0 < x.length := by rw [hxx]; simp
    clear hname hxx
    have hsz := strOf_size x
    obtain ⟨cap, hc1, hc2, kc⟩ := conv_bytes w (strOf x) (by rw [strOf_size]; unfold maxLen; omega)
    have hrow := bytes_row hx w cap (by rw [← strOf_size]; exact hc1) hc2
    have hget := strOf_get8 hx
    rw [strOf_size] at kc
    obtain ⟨S, hS⟩ : ∃ S, S = strOf x := ⟨_, rfl⟩
    rw [← hS] at hsz hget hrow kc ⊢
    have HROW := Lib.hid (all_name hx hrow)
    obtain ⟨n, hn⟩ : ∃ n, n = x.length := ⟨_, rfl⟩
    rw [← hn] at hsz hl hpos kc HROW ⊢
    have hlist : S.toList.isEmpty = false := str_some4 (by omega)
    have HSZ := Lib.hid hsz
    have hsm : S.size ≤ 9223372036854775807 := by omega
    have hpos2 : 0 < S.size := by omega
    have hfirst : ((S[0].toNat : Nat) : Int) = a := by
      have := hget 0 hpos2
      rw [h0] at this
      exact (Option.some.inj this).symm
    have HFIRST := Lib.hid hfirst
    have HB : Hid (Below w.heap.size w (w.drew.alloc (.cells (bytesRow S cap) 5 ((bytesRow S cap).size, (bytesRow S cap).size + 1)))) := (below_drawn (Below.refl w.heap.size w) 1).alloc (Nat.le_refl _) _
    clear hx hS hn hget h0 hfirst hrow hc1 hc2
    by_cases h40 : n ≤ 40
    · have q1 : decide (n ≤ 40) = true := decide_eq_true h40
      rw [q1]
      have hs40 : S.size ≤ 40 := by have := HSZ.out; omega
      have HSM := Lib.hid (fun W => small_any a ha.1 ha.2 W)
      cases hsm0 : smB a
      · rw [hsm0] at HSM
        clear q1 hsm0
        go_enter Tryd.func9, Tryd.ntmps9
        go_wp2_with fail
        rw [HFIRST.out]
        refine (HSM.out _).mono ?_
        rintro e w' ⟨rfl, rfl⟩
        go_wp2_with fail
        go_ret
        exact ⟨rfl, Below.refl _ _⟩
      · rw [hsm0] at HSM
        clear q1 hsm0
        go_enter Tryd.func9, Tryd.ntmps9
        go_wp2_with fail
        rw [HFIRST.out]
        refine (HSM.out _).mono ?_
        rintro e w' ⟨rfl, rfl⟩
        go_wp2_with fail
        refine HROW.out.mono ?_
        rintro e w' ⟨rfl, hb⟩
        have HB2 := Lib.hid (below_then HB.out hb)
        clear hb
        go_wp2_with fail
        go_ret
        exact ⟨by simp, HB2.out⟩
    · have q1 : decide (n ≤ 40) = false := decide_eq_false h40
      rw [q1]
      have hs40 : ¬ S.size ≤ 40 := by have := HSZ.out; omega
      clear q1
      go_enter Tryd.func9, Tryd.ntmps9
      go_wp2_with fail
      go_ret
      exact ⟨rfl, Below.refl _ _⟩

end Go.Proofs.YtfoohffeccgkeaaDoor
