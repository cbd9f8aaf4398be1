/- The law's own sameness of the two tellers. -/
import Derived.Test.YtfoohffeccgkeaaDoorTRefTell
namespace Go.Proofs.YtfoohffeccgkeaaDoor
open Go.RowKit
set_option linter.unusedVariables false
set_option linter.unusedSimpArgs false

/-- Every beginning of the rules that may be told is short enough. -/
def ShortL (l : List Rule) : Prop := ∀ i, (l.take i).all rlB = true → (((l.take i).map lineT).flatten).length ≤ 1000000000000
theorem ShortL.whole {l : List Rule} (h : ShortL l) : l.all rlB = true → ((l.map lineT).flatten).length ≤ 1000000000000 := by
  have := h l.length
  rwa [List.take_length] at this

theorem tellV_cases (l : List Rule) : (∃ S, tellV l = .tuple #[.string S, .int .i64 0]) ∨ (∃ S, tellV l = .tuple #[.string S, .int .i64 1]) := by
  unfold tellV
  split
  · exact .inl ⟨_, rfl⟩
  · exact .inr ⟨_, rfl⟩

set_option maxRecDepth 100000 in
set_option maxHeartbeats 8000000 in
theorem same_any {w : World} {v : Value} {vs : List LV} {l : List Rule} (h : LinesE w v vs l) (hT : Tabs w) (hs : ShortL l) :
    Calls Tryd.prog 6 #[v] w (GivesBool true w) := by
  have HP := Lib.hid (tell_any h hT hs.whole)
  have HD := Lib.hid (fun W (hb : Below w.heap.size w W) => tell4_any (h.below hb) hs)
  unfold GivesTell at HP HD
  obtain ⟨h1, h2, h3⟩ := h
  have H2 := Lib.hid h2
  have H3 := Lib.hid h3
  obtain ⟨n, hnn⟩ : ∃ n, n = l.length := ⟨_, rfl⟩
  rw [← hnn] at h1
  have HNN := Lib.hid hnn
  rcases tellV_cases l with ⟨S, hv⟩ | ⟨S, hv⟩
  all_goals
    rw [hv] at HP HD
    have hSS : (S == S) = true := (Go.MapKept.bytes_beq S S).2 rfl
    rcases h1 with ⟨h0, a, cap, rfl⟩ | ⟨g, off, cap, rfl, g1, g2, g3, g4⟩
    · subst h0
      clear h2 h3 hnn hv hT hs
      go_enter Tryd.func6, Tryd.ntmps6
      go_wp2_with fail
      refine HP.out.mono ?_
      rintro e w1 ⟨rfl, hb⟩
      have HB1 := Lib.hid hb
      clear hb
      go_wp2_with fail
      refine (HD.out _ HB1.out).mono ?_
      rintro e w2 ⟨rfl, hb⟩
      have HB2 := Lib.hid (below_then HB1.out hb)
      clear hb
      go_wp2_with fail
      go_loop [7] (fun v => v = .int .i64 0) (fun _ => 0)
      case atStart => rfl
      case round =>
        subst hrel
        go_wp2_with fail
        go_ret
        exact ⟨rfl, HB2.out⟩
    · have G4 := Lib.hid g4
      unfold maxLen at g2
      clear g4 h2 h3 hnn hv hT hs
      go_enter Tryd.func6, Tryd.ntmps6
      go_wp2_with fail
      refine HP.out.mono ?_
      rintro e w1 ⟨rfl, hb⟩
      have HB1 := Lib.hid hb
      clear hb
      go_wp2_with fail
      refine (HD.out _ HB1.out).mono ?_
      rintro e w2 ⟨rfl, hb⟩
      have HB2 := Lib.hid (below_then HB1.out hb)
      clear hb
      go_wp2_with fail
      go_loopw [7] (fun v wr => ∃ i : Nat, v = .int .i64 i ∧ i ≤ n ∧ Hid (Below w.heap.size w wr)) (fun v _ => n - (intOf v).toNat)
      case atStart => exact ⟨0, rfl, by omega, HB2⟩
      case round =>
        obtain ⟨i, rfl, hi, HBEL⟩ := hrel
        by_cases hlt : i < n
        · obtain ⟨Y, hY⟩ : ∃ y, vs[i]? = some y := ⟨_, List.getElem?_eq_getElem (by rw [H2.out, ← HNN.out]; exact hlt)⟩
          obtain ⟨t, ht⟩ : ∃ y, l[i]? = some y := ⟨_, List.getElem?_eq_getElem (by rw [← HNN.out]; exact hlt)⟩
          have CX : ∀ (j : Nat) (u : Value), j < 8 → Y.cells[j]? = some u → wr.cell? ⟨g, off + (i * 8 + j), none⟩ = some u := fun j u hj hu =>
            (HBEL.out.cell (p := ⟨g, off + (i * 8 + j), none⟩) g3).trans (G4.out _ u ((flatL4_at vs i j Y hY hj).trans hu))
          obtain ⟨en, hc, hl, em, hE⟩ := H3.out i Y t hY ht
          have HN1 := Lib.hid (fun W => name_text (x := t.name) W hc hl)
          have HN2 := Lib.hid (fun W => (name4_any (x := t.name) W hc hl).mono (R' := GivesBool (nameB t.name) W) (fun e w' h => ⟨h.1, by rw [h.2]; exact Below.refl _ _⟩))
          have HR1 := Lib.hid (fun W (hb : Below w.heap.size w W) => right_any (hE.under hb))
          have HR2 := Lib.hid (fun W (hb : Below w.heap.size w W) => right4_all 50 (by omega) W Y.expr t.expr 50 rfl (hE.under hb))
          obtain ⟨N, hN⟩ : ∃ N, N = strOf t.name := ⟨_, rfl⟩
          obtain ⟨nm, mo, ⟨k, s, nv, lo, hi', kv⟩⟩ := Y
          simp only [] at en em
          have en2 : nm = N := en.trans hN.symm
          subst en2 em
          rw [← hN] at HN1 HN2
          have e0 := CX 0 _ (by omega) rfl
          have e2 := CX 2 _ (by omega) rfl
          have e3 := CX 3 _ (by omega) rfl
          have e4 := CX 4 _ (by omega) rfl
          have e5 := CX 5 _ (by omega) rfl
          have e6 := CX 6 _ (by omega) rfl
          have e7 := CX 7 _ (by omega) rfl
          rw [← Nat.add_assoc] at e0 e2 e3 e4 e5 e6 e7
          rw [Nat.add_zero] at e0
          simp only [] at e0 e2 e3 e4 e5 e6 e7
          obtain ⟨P, hP⟩ : ∃ P, P = nameB t.name := ⟨_, rfl⟩
          obtain ⟨Q, hQ⟩ : ∃ Q, Q = rightF 50 t.expr := ⟨_, rfl⟩
          rw [← hP] at HN1 HN2
          rw [← hQ] at HR1 HR2
          clear CX hY ht en hE hc hl hN hP hQ
          cases P <;> cases Q
          all_goals
            go_wp2_with fail
            go_region_held3 (fun W' => (W'.cell? ⟨g, off + i * 8, none⟩ = some (.string nm) ∧ W'.cell? ⟨g, off + i * 8 + 2, none⟩ = some (.int .i64 k) ∧ W'.cell? ⟨g, off + i * 8 + 3, none⟩ = some (.string s) ∧ W'.cell? ⟨g, off + i * 8 + 4, none⟩ = some nv ∧ W'.cell? ⟨g, off + i * 8 + 5, none⟩ = some (.int .i64 lo) ∧ W'.cell? ⟨g, off + i * 8 + 6, none⟩ = some (.int .i64 hi') ∧ W'.cell? ⟨g, off + i * 8 + 7, none⟩ = some kv) ∧ Below w.heap.size w W')
              (first | exact TelS.step (by assumption) (by assumption) | exact TelS.drew (by assumption) | assumption | exact ⟨⟨by assumption, by assumption, by assumption, by assumption, by assumption, by assumption, by assumption⟩, below_drawn HBEL.out 1⟩)
              (first
                | (go_at_call 9; refine (HN1.out _).mono ?_; rintro e w' ⟨rfl, hb'⟩)
                | (go_at_call 12; refine (HN2.out _).mono ?_; rintro e w' ⟨rfl, hb'⟩)
                | (go_at_call 8; refine (HR1.out _ (And.right (by assumption))).mono ?_; rintro e w' ⟨rfl, hb'⟩)
                | (go_at_call 13; refine (HR2.out _ (And.right (by assumption))).mono ?_; rintro e w' ⟨rfl, hb'⟩))
            rename_i hS
            have HB3 := Lib.hid hS.2
            clear hS e0 e2 e3 e4 e5 e6 e7
            go_wp2_with fail
            go_roundw
            case rel => exact ⟨i + 1, by go_num, by omega, HB3⟩
            case measure => simp [intOf]; omega
        · go_wp2_with fail
          go_ret
          exact ⟨rfl, HBEL.out⟩

end Go.Proofs.YtfoohffeccgkeaaDoor
