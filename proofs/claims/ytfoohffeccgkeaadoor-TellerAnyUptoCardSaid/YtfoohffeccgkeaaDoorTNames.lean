/- Names and texts of bytes, by the document's teller; for every text of at most maxLen bytes. -/
import Derived.Test.YtfoohffeccgkeaaDoorTBase
import Derived.Lib.Strings
namespace Go.Proofs.YtfoohffeccgkeaaDoor
open Go.RowKit
set_option linter.unusedVariables false
set_option linter.unusedSimpArgs false

theorem strOf_get8 {x : List Int} (hx : ∀ c ∈ x, 0 ≤ c ∧ c ≤ 255) (i : Nat) (h : i < (strOf x).size) : x[i]? = some ((strOf x)[i].toNat : Int) := by
  have h' : i < x.length := by rwa [strOf_size] at h
  have h1 : (strOf x)[i] = byt x[i] := by
    have e : (strOf x).data.toList[i]? = some (byt x[i]) := by rw [strOf_data, List.getElem?_map, List.getElem?_eq_getElem h']; rfl
    have e2 : (strOf x).data.toList[i]? = some (strOf x)[i] := List.getElem?_eq_getElem (by simpa using h)
    exact Option.some.inj (e2.symm.trans e)
  rw [h1, List.getElem?_eq_getElem h']
  have hm := hx x[i] (List.getElem_mem h')
  unfold byt
  congr 1
  simp
  omega
theorem str_some4 {s : ByteArray} (h : 0 < s.size) : s.toList.isEmpty = false := by
  rw [Lib.toList_data]
  cases g : s.data.toList with
  | nil =>
    have : s.size = 0 := by
      show s.data.size = 0
      rw [← Array.length_toList, g]; rfl
    omega
  | cons a l => rfl
theorem all_upto {P : Int → Bool} {x : List Int} {n : Nat} (hn : x.length ≤ n) (h : ∀ (i : Nat) (c : Int), i < n → x[i]? = some c → P c = true) : x.all P = true := by
  rw [List.all_eq_true]
  intro c hc
  obtain ⟨i, hi⟩ := List.getElem?_of_mem hc
  exact h i c (Nat.lt_of_lt_of_le (List.getElem?_eq_some_iff.1 hi).1 hn) hi
theorem all_not {P : Int → Bool} {x : List Int} {i : Nat} {c : Int} (h : x[i]? = some c) (hc : P c = false) : x.all P = false := by
  rw [List.all_eq_false]
  exact ⟨c, List.mem_of_getElem? h, by simp [hc]⟩

set_option maxRecDepth 100000 in
set_option maxHeartbeats 1000000 in
theorem fold4_any {x : List Int} (w : World) (hx : ∀ c ∈ x, 0 ≤ c ∧ c ≤ 255) (hl : x.length ≤ 9223372036854775807) : Calls Tryd.prog 25 #[.string (strOf x)] w (SaysB (x.all foB) w) := by
  have hsz := strOf_size x
  have hget := strOf_get8 hx
  obtain ⟨S, hS⟩ : ∃ S, S = strOf x := ⟨_, rfl⟩
  rw [← hS] at hsz hget ⊢
  obtain ⟨n, hn⟩ : ∃ n, n = x.length := ⟨_, rfl⟩
  rw [← hn] at hsz hl
  have HN := Lib.hid hn
  have HGET := Lib.hid hget
  have HSZ := Lib.hid hsz
  have hsm : S.size ≤ 9223372036854775807 := by omega
  clear hx hS hn hget
  go_enter Tryd.func25, Tryd.ntmps25
  go_wp2_with fail
  go_loop [3] (fun v => ∃ i : Nat, v = .int .i64 i ∧ i ≤ n ∧ ∀ (j : Nat) (c : Int), j < i → x[j]? = some c → foB c = true) (fun v => n - (intOf v).toNat)
  case atStart => exact ⟨0, rfl, by omega, fun j c h => by omega⟩
  case round =>
    obtain ⟨i, rfl, hi, hall⟩ := hrel
    have HALL := Lib.hid hall
    clear hall
    by_cases hlt : i < n
    · have hss : i < S.size := by have := HSZ.out; omega
      have hxi := HGET.out i hss
      obtain ⟨Z, hZ⟩ : ∃ z, ((S[i].toNat : Nat) : Int) = z := ⟨_, rfl⟩
      rw [hZ] at hxi
      have hZ0 : 0 ≤ Z := by omega
      have HXI := Lib.hid hxi
      clear hxi
      cases hf : foB Z
      · have HNOT := Lib.hid (all_not HXI.out hf)
        rw [HNOT.out]
        have hf2 : Z < 32 ∨ 126 < Z ∨ Z = 34 ∨ (65 ≤ Z ∧ Z ≤ 90) := by
          unfold foB at hf
          simp at hf
          omega
        clear hf
        by_cases a : Z < 32
        · go_wp2_with fail
          go_ret
          exact ⟨rfl, rfl⟩
        · by_cases b : 126 < Z
          · go_wp2_with fail
            go_ret
            exact ⟨rfl, rfl⟩
          · by_cases c : Z = 34
            · have qc : (Z == 34) = true := by simpa using c
              go_wp2_with fail
              go_ret
              exact ⟨rfl, rfl⟩
            · have qc : (Z == 34) = false := by simpa using c
              have d : 65 ≤ Z := by omega
              have d2 : Z ≤ 90 := by omega
              go_wp2_with fail
              go_ret
              exact ⟨rfl, rfl⟩
      · have HNX : Hid (∀ (j : Nat) (c : Int), j < i + 1 → x[j]? = some c → foB c = true) := fun j c hj hc => by
          by_cases g : j = i
          · subst g
            rw [HXI.out] at hc
            rw [← Option.some.inj hc]
            exact hf
          · exact HALL.out j c (by omega) hc
        have hf2 : 32 ≤ Z ∧ Z ≤ 126 ∧ Z ≠ 34 ∧ (Z < 65 ∨ 90 < Z) := by
          unfold foB at hf
          simp at hf
          omega
        obtain ⟨a, b, c, d⟩ := hf2
        have qc : (Z == 34) = false := by simpa using c
        clear hf c
        by_cases e : 65 ≤ Z
        · have e2 : decide (Z ≤ 90) = false := decide_eq_false (by omega)
          go_wp2_with fail
          go_round
          case rel => exact ⟨i + 1, by go_num, by omega, HNX.out⟩
          case measure => simp [intOf]; omega
        · go_wp2_with fail
          go_round
          case rel => exact ⟨i + 1, by go_num, by omega, HNX.out⟩
          case measure => simp [intOf]; omega
    · have hyes : x.all foB = true := all_upto (n := n) (by rw [HN.out]; exact Nat.le_refl _) (fun j c h hc => HALL.out j c (by omega) hc)
      have HYES := Lib.hid hyes
      clear hyes
      go_wp2_with fail
      go_ret
      exact ⟨by rw [HYES.out]; exact rfl, rfl⟩

theorem nlB_no {c : Int} (h : nlB c = false) : smB c = false ∧ isDc c = false ∧ c ≠ 45 := by
  unfold nlB at h
  simp at h
  exact ⟨h.1.1, h.1.2, h.2⟩

set_option maxRecDepth 100000 in
set_option maxHeartbeats 1000000 in
theorem name4_any {x : List Int} (w : World) (hx : ∀ c ∈ x, 0 ≤ c ∧ c ≤ 255) (hl : x.length ≤ 9223372036854775807) : Calls Tryd.prog 12 #[.string (strOf x)] w (SaysB (nameB x) w) := by
  cases x with
  | nil =>
    rw [strOf_nil]
    go_enter Tryd.func12, Tryd.ntmps12
    go_wp2_with fail
    go_ret
    exact ⟨rfl, rfl⟩
  | cons a l =>
    obtain ⟨x, hxx⟩ : ∃ x, x = a :: l := ⟨_, rfl⟩
    have hname : nameB (a :: l) = (decide (x.length ≤ 40) && smB a && x.all nlB) := by rw [hxx]; rfl
    rw [hname]
    rw [← hxx] at hx hl ⊢
    have ha := hx a (by rw [hxx]; simp)
    have h0 : x[0]? = some a := by rw [hxx]; rfl
    have hpos : 0 < x.length := by rw [hxx]; simp
    clear hname hxx
    have hsz := strOf_size x
    have hget := strOf_get8 hx
    obtain ⟨S, hS⟩ : ∃ S, S = strOf x := ⟨_, rfl⟩
    rw [← hS] at hsz hget ⊢
    obtain ⟨n, hn⟩ : ∃ n, n = x.length := ⟨_, rfl⟩
    rw [← hn] at hsz hl hpos ⊢
    have hlist : S.toList.isEmpty = false := str_some4 (by omega)
    have HN := Lib.hid hn
    have HGET := Lib.hid hget
    have HSZ := Lib.hid hsz
    have hsm : S.size ≤ 9223372036854775807 := by omega
    have hpos2 : 0 < S.size := by omega
    have hfirst : ((S[0].toNat : Nat) : Int) = a := by
      have := hget 0 hpos2
      rw [h0] at this
      exact (Option.some.inj this).symm
    have HFIRST := Lib.hid hfirst
    have HX := Lib.hid hx
    clear hx hS hn hget h0 hfirst
    by_cases h40 : n ≤ 40
    · have q1 : decide (n ≤ 40) = true := decide_eq_true h40
      rw [q1]
      have hs40 : ¬ 40 < S.size := by have := HSZ.out; omega
      cases hsm0 : smB a
      · have HSM := Lib.hid (fun W => letter4_any a ha.1 ha.2 W)
        rw [hsm0] at HSM
        clear q1
        go_enter Tryd.func12, Tryd.ntmps12
        go_wp2_with fail
        rw [HFIRST.out]
        refine (HSM.out _).mono ?_
        rintro e w' ⟨rfl, rfl⟩
        go_wp2_with fail
        go_ret
        exact ⟨rfl, rfl⟩
      · have HSM := Lib.hid (fun W => letter4_any a ha.1 ha.2 W)
        rw [hsm0] at HSM
        clear q1
        go_enter Tryd.func12, Tryd.ntmps12
        go_wp2_with fail
        rw [HFIRST.out]
        refine (HSM.out _).mono ?_
        rintro e w' ⟨rfl, rfl⟩
        go_wp2_with fail
        go_loop [3] (fun v => ∃ i : Nat, v = .int .i64 i ∧ i ≤ n ∧ ∀ (j : Nat) (c : Int), j < i → x[j]? = some c → nlB c = true) (fun v => n - (intOf v).toNat)
        case atStart => exact ⟨0, rfl, by omega, fun j c h => by omega⟩
        case round =>
          obtain ⟨i, rfl, hi, hall⟩ := hrel
          have HALL := Lib.hid hall
          clear hall
          by_cases hlt : i < n
          · have hss : i < S.size := by have := HSZ.out; omega
            have hxi := HGET.out i hss
            obtain ⟨Z, hZ⟩ : ∃ z, ((S[i].toNat : Nat) : Int) = z := ⟨_, rfl⟩
            rw [hZ] at hxi
            have hZ0 : 0 ≤ Z ∧ Z ≤ 255 := HX.out Z (List.mem_of_getElem? hxi)
            have HXI := Lib.hid hxi
            have HL := Lib.hid (fun W => letter4_any Z hZ0.1 hZ0.2 W)
            have HD := Lib.hid (fun W => digit4_any Z hZ0.1 hZ0.2 W)
            clear hxi
            cases hf : nlB Z
            · have HNOT := Lib.hid (all_not HXI.out hf)
              obtain ⟨f1, f2, f3⟩ := nlB_no hf
              rw [f1] at HL
              rw [f2] at HD
              have q45 : (Z != 45) = true := by simpa using f3
              clear hf f1 f2 f3
              go_wp2_with fail
              refine (HL.out _).mono ?_
              rintro e w' ⟨rfl, rfl⟩
              go_wp2_with fail
              refine (HD.out _).mono ?_
              rintro e w' ⟨rfl, rfl⟩
              go_wp2_with fail
              go_ret
              exact ⟨by rw [HNOT.out]; simp, rfl⟩
            · have HNX : Hid (∀ (j : Nat) (c : Int), j < i + 1 → x[j]? = some c → nlB c = true) := fun j c hj hc => by
                by_cases g : j = i
                · subst g
                  rw [HXI.out] at hc
                  rw [← Option.some.inj hc]
                  exact hf
                · exact HALL.out j c (by omega) hc
              cases f1 : smB Z
              · rw [f1] at HL
                cases f2 : isDc Z
                · rw [f2] at HD
                  have q45 : (Z != 45) = false := by
                    unfold nlB at hf
                    rw [f1, f2] at hf
                    simpa using hf
                  clear hf f1 f2
                  go_wp2_with fail
                  refine (HL.out _).mono ?_
                  rintro e w' ⟨rfl, rfl⟩
                  go_wp2_with fail
                  refine (HD.out _).mono ?_
                  rintro e w' ⟨rfl, rfl⟩
                  go_wp2_with fail
                  go_round
                  case rel => exact ⟨i + 1, by go_num, by omega, HNX.out⟩
                  case measure => simp [intOf]; omega
                · rw [f2] at HD
                  clear hf f1 f2
                  go_wp2_with fail
                  refine (HL.out _).mono ?_
                  rintro e w' ⟨rfl, rfl⟩
                  go_wp2_with fail
                  refine (HD.out _).mono ?_
                  rintro e w' ⟨rfl, rfl⟩
                  go_wp2_with fail
                  go_round
                  case rel => exact ⟨i + 1, by go_num, by omega, HNX.out⟩
                  case measure => simp [intOf]; omega
              · rw [f1] at HL
                clear hf f1
                go_wp2_with fail
                refine (HL.out _).mono ?_
                rintro e w' ⟨rfl, rfl⟩
                go_wp2_with fail
                go_round
                case rel => exact ⟨i + 1, by go_num, by omega, HNX.out⟩
                case measure => simp [intOf]; omega
          · have hyes : x.all nlB = true := all_upto (n := n) (by rw [HN.out]; exact Nat.le_refl _) (fun j c h hc => HALL.out j c (by omega) hc)
            have HYES := Lib.hid hyes
            clear hyes
            go_wp2_with fail
            go_ret
            exact ⟨by rw [HYES.out]; exact rfl, rfl⟩
    · have q1 : decide (n ≤ 40) = false := decide_eq_false h40
      rw [q1]
      have hs40 : 40 < S.size := by have := HSZ.out; omega
      clear q1
      go_enter Tryd.func12, Tryd.ntmps12
      go_wp2_with fail
      go_ret
      exact ⟨rfl, rfl⟩

end Go.Proofs.YtfoohffeccgkeaaDoor
