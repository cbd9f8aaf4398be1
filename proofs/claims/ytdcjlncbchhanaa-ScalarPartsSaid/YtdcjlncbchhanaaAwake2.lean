/- What any right program answers is answered: the walk of awake, in every world. -/
import Derived.Test.YtdcjlncbchhanaaSame
namespace Go.Proofs.Ytdcjlncbchhanaa
open Go.RowKit
set_option linter.unusedVariables false

theorem lop_ascii : lop 0 127 = 127 := by decide

theorem parts_ascii {lo hi : Int} {L : List (Int × Int)} (h : Parts lo hi L) (h0 : lo = 0) (h1 : hi = 127) : L = [(0, 127)] := by
  subst h0 h1
  cases h with
  | none h => omega
  | gap _ h1 h2 _ _ => omega
  | cut _ _ h _ _ => rw [lop_ascii] at h; omega
  | one _ _ _ => rfl

theorem seq_ascii : seqOf (0, 127) = [(0, 127)] := by decide
theorem enc_233 : encS 233 = [195, 169] := by decide
theorem enc_gap : encS 55296 = [] := by decide

set_option maxRecDepth 100000 in
set_option maxHeartbeats 4000000 in
theorem awake_any (w : World) : Calls Try.prog 9 #[] w (GivesBool true w) := by
  go_enter Try.func9, Try.ntmps9
  go_wp2_with fail
  refine (seqs_any _ _ _).mono ?_
  rintro e w1 ⟨v, L, rfl, hL, hS, hb1⟩
  obtain rfl := parts_ascii hL (by decide) (by decide)
  clear hL
  obtain ⟨us, hl, hr, hs⟩ := hS
  simp only [List.map_cons, List.map_nil, seq_ascii] at hl hr hs
  obtain ⟨g, c, rfl⟩ := (row_forms hr).resolve_left (fun h => by cases h.2)
  obtain ⟨g2, c2, hu1, hu2⟩ := hs 0 _ rfl
  have e0 := row_cell hr hu1
  have d0 := row_cell hu2 (pcells_lo _ 0 (by decide))
  have d1 := row_cell hu2 (pcells_hi _ 0 (by decide))
  have hg := (row_base hr).2.2.2
  have hg2 := (row_base hu2).2.2.2
  simp only [List.length_cons, List.length_nil, Nat.zero_add, Nat.zero_mul, List.getElem_cons_zero] at e0 d0 d1 ⊢
  clear hl hr hs hu1 hu2 us
  go_wp2_with fail
  refine (bytes_any _ _).mono ?_
  rw [enc_233]
  rintro e w2 ⟨v2, rfl, hv2, hb2⟩
  obtain ⟨g3, c3, rfl⟩ := (row_forms hv2).resolve_left (fun h => by cases h.2)
  have f0 := (hb2.cell (p := ⟨g, 0, none⟩) hg).trans e0
  have f1 := (hb2.cell (p := ⟨g2, 0, none⟩) hg2).trans d0
  have f2 := (hb2.cell (p := ⟨g2, 1, none⟩) hg2).trans d1
  have k0 := row_cell hv2 (j := 0) rfl
  have k1 := row_cell hv2 (j := 1) rfl
  have HW := below_then hb1 hb2
  clear hb1 hb2 hv2 e0 d0 d1
  simp only [List.length_cons, List.length_nil, Nat.zero_add, Nat.reduceAdd]
  go_wp2_with fail
  refine (bytes_any _ _).mono ?_
  rw [enc_gap]
  rintro e w3 ⟨v3, rfl, hv3, hb3⟩
  have HW3 := below_then HW hb3
  clear hb3 f0 f1 f2 k0 k1
  obtain rfl | ⟨g4, c4, rfl⟩ : v3 = .slice none 0 0 ∨ ∃ g c, v3 = .slice (some ⟨g, 0, none⟩) 0 c := by
    rcases row_forms hv3 with ⟨h, _⟩ | h
    · exact .inl h
    · exact .inr h
  all_goals
    clear hv3
    go_wp2
    go_ret
    exact ⟨rfl, HW3⟩

end Go.Proofs.Ytdcjlncbchhanaa
