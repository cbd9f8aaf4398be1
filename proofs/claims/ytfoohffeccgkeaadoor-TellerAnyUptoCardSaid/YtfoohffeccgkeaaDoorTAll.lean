/- Whether all items of a list are of a kind, by the program's generic functions. -/
import Derived.Test.YtfoohffeccgkeaaDoorTNames
namespace Go.Proofs.YtfoohffeccgkeaaDoor
open Go.RowKit
set_option linter.unusedVariables false
set_option linter.unusedSimpArgs false

/-- A slice that reads as these bytes: empty, or from somewhere in a block on. -/
def bcells (x : List Int) : List Value := x.map (Value.int .u8)
theorem bcells_at {x : List Int} {i : Nat} {c : Int} (h : x[i]? = some c) : (bcells x)[i]? = some (.int .u8 c) := by simp [bcells, h]
theorem icells_at4 {x : List Int} {i : Nat} {c : Int} (h : x[i]? = some c) : (icells x)[i]? = some (.int .i64 c) := by simp [icells, h]

theorem inFold_any (c : Int) (h0 : 0 ≤ c) (h1 : c ≤ 255) (w : World) : Calls Tryd.prog 50 #[.int .u8 c] w (SaysB (foB c) w) := by
  have hu : foB c = (decide (32 ≤ c) && decide (c ≤ 126) && !(c == 34) && !(decide (65 ≤ c) && decide (c ≤ 90))) := rfl
  by_cases q : c = 34
  · subst q
    rw [show foB 34 = false by decide]
    clear hu
    go_enter Tryd.func50, Tryd.ntmps50
    go_wp2
    go_ret
    exact ⟨rfl, rfl⟩
  · have q1 : (c == 34) = false := by simpa using q
    have q2 : (c != 34) = true := by simpa using q
    rw [q1] at hu
    by_cases a : 32 ≤ c <;> by_cases b : c ≤ 126 <;> by_cases d : 65 ≤ c <;> by_cases e : c ≤ 90
    all_goals try (exfalso; omega)
    all_goals
      simp only [a, b, d, e, decide_true, decide_false, Bool.and_true, Bool.and_false, Bool.and_self, Bool.not_false, Bool.not_true, Bool.true_and, Bool.false_and] at hu
      rw [hu]
      clear hu
      have w1 : (32 ≤ c ∨ ¬ 32 ≤ c) := by omega
      have k1 : decide (c < 65) = !decide (65 ≤ c) := by by_cases g : 65 ≤ c <;> simp [g] <;> omega
      have k2 : decide (90 < c) = !decide (c ≤ 90) := by by_cases g : c ≤ 90 <;> simp [g] <;> omega
      simp only [d, e, decide_true, decide_false, Bool.not_true, Bool.not_false] at k1 k2
      clear w1
      go_enter Tryd.func50, Tryd.ntmps50
      go_wp2
      go_ret
      exact ⟨rfl, rfl⟩

/-- Handed in: isInName. -/
theorem not_name {B : Nat} {w : World} (c : Int) (hb : 0 ≤ c ∧ c ≤ 255) (hB : w.cell? ⟨B, 0, none⟩ = some (.func (Fn.func 21) #[] #[])) : Calls Tryd.prog 36 #[.int .u8 c, .pointer (some ⟨B, 0, none⟩)] w (SaysB (!nlB c) w) := by
  cases hp : nlB c
  all_goals
    have HC := Lib.hid (fun W : World => (show Calls Tryd.prog 21 #[.int .u8 c] W (SaysB (nlB c) W) from inName_any c hb.1 hb.2 _))
    rw [hp] at HC
    clear hp
    go_enter Tryd.func36, Tryd.ntmps36
    go_wp2_with fail
    refine (HC.out _).mono ?_
    rintro e w' ⟨rfl, rfl⟩
    go_wp2_with fail
    go_ret
    exact ⟨rfl, rfl⟩

set_option maxRecDepth 100000 in
set_option maxHeartbeats 1000000 in
theorem index_name {B : Nat} {w : World} {x : List Int} {v : Value} (hx : ∀ c ∈ x, 0 ≤ c ∧ c ≤ 255) (hv : RowAny w v x.length (bcells x)) (hB : w.cell? ⟨B, 0, none⟩ = some (.func (Fn.func 21) #[] #[])) :
    Calls Tryd.prog 56 #[v, .func (Fn.func 36) #[] #[.pointer (some ⟨B, 0, none⟩)]] w fun e w' => ∃ i : Int, e = .returned (.int .i64 i) ∧ w = w' ∧ -1 ≤ i ∧ decide (0 ≤ i) = !x.all nlB := by
  have HX := Lib.hid hx
  clear hx
  have HB := Lib.hid hB
  obtain ⟨n, hn⟩ : ∃ n, n = x.length := ⟨_, rfl⟩
  rw [← hn] at hv
  have HN := Lib.hid hn
  rcases hv with ⟨h0, a, cap, rfl⟩ | ⟨g, off, cap, rfl, h1, h2, h3, h4⟩
  · have hx0 : x = [] := List.length_eq_zero_iff.1 (by omega)
    subst hx0
    clear hn h0 hB
    go_enter Tryd.func56, Tryd.ntmps56
    go_wp2_with fail
    go_loop [8] (fun v => v = .int .i64 0) (fun v => 0)
    case atStart => rfl
    case round =>
      subst hrel
      go_wp2_with fail
      go_ret
      exact ⟨-1, rfl, rfl, by omega, by decide⟩
  · have H4 := Lib.hid h4
    unfold maxLen at h2
    clear hn h4 hB
    go_enter Tryd.func56, Tryd.ntmps56
    go_wp2_with fail
    go_loop [8] (fun v => ∃ i : Nat, v = .int .i64 i ∧ i ≤ n ∧ ∀ (j : Nat) (c : Int), j < i → x[j]? = some c → nlB c = true) (fun v => n - (intOf v).toNat)
    case atStart => exact ⟨0, rfl, by omega, fun j c h => by omega⟩
    case round =>
      obtain ⟨i, rfl, hi, hall⟩ := hrel
      have HALL := Lib.hid hall
      clear hall
      by_cases hlt : i < n
      · obtain ⟨Z, hZ⟩ : ∃ z, x[i]? = some z := ⟨_, List.getElem?_eq_getElem (by rw [← HN.out]; exact hlt)⟩
        have HXI := Lib.hid hZ
        have c0 := H4.out i _ (bcells_at hZ)
        clear hZ
        go_wp2_with fail
        refine (not_name Z (HX.out Z (List.mem_of_getElem? HXI.out)) HB.out).mono ?_
        cases hf : nlB Z
        · have HNOT := Lib.hid (all_not HXI.out hf)
          clear hf
          rintro e w' ⟨rfl, rfl⟩
          go_wp2_with fail
          go_ret
          exact ⟨(i : Int), rfl, rfl, by omega, by rw [HNOT.out]; simp⟩
        · have HNX : Hid (∀ (j : Nat) (c : Int), j < i + 1 → x[j]? = some c → nlB c = true) := fun j c hj hc => by
            by_cases g : j = i
            · subst g
              rw [HXI.out] at hc
              rw [← Option.some.inj hc]
              exact hf
            · exact HALL.out j c (by omega) hc
          clear hf
          rintro e w' ⟨rfl, rfl⟩
          go_wp2_with fail
          go_round
          case rel => exact ⟨i + 1, by go_num, by omega, HNX.out⟩
          case measure => simp [intOf]; omega
      · have hyes : x.all nlB = true := all_upto (n := n) (by rw [HN.out]; exact Nat.le_refl _) (fun j c h hc => HALL.out j c (by omega) hc)
        have HYES := Lib.hid hyes
        clear hyes
        go_wp2_with fail
        go_ret
        exact ⟨-1, rfl, rfl, by omega, by rw [HYES.out]; decide⟩

theorem some_name {B : Nat} {w : World} {x : List Int} {v : Value} (hx : ∀ c ∈ x, 0 ≤ c ∧ c ≤ 255) (hv : RowAny w v x.length (bcells x)) (hB : w.cell? ⟨B, 0, none⟩ = some (.func (Fn.func 21) #[] #[])) :
    Calls Tryd.prog 35 #[v, .func (Fn.func 36) #[] #[.pointer (some ⟨B, 0, none⟩)]] w (SaysB (!x.all nlB) w) := by
  have HI := Lib.hid (index_name hx hv hB)
  clear hv hB
  go_enter Tryd.func35, Tryd.ntmps35
  go_wp2_with fail
  refine HI.out.mono ?_
  rintro e w' ⟨i, rfl, rfl, hi, hd⟩
  have HD := Lib.hid hd
  clear hd
  go_wp2_with fail
  go_ret
  exact ⟨by rw [← HD.out]; exact rfl, rfl⟩

theorem all_name {w : World} {x : List Int} {v : Value} (hx : ∀ c ∈ x, 0 ≤ c ∧ c ≤ 255) (hv : RowAny w v x.length (bcells x)) :
    Calls Tryd.prog 20 #[v, .func (Fn.func 21) #[] #[]] w (GivesBool (x.all nlB) w) := by
  have HS := Lib.hid (fun o : Obj => some_name (w := w.alloc o) (B := w.heap.size) hx (hv.below ((Below.refl _ _).alloc (Nat.le_refl _) _)))
  clear hv
  cases hp : x.all nlB
  all_goals
    rw [hp] at HS
    clear hp
    go_enter Tryd.func20, Tryd.ntmps20
    go_wp2_with fail
    refine (HS.out _ (by unfold World.cell?; rw [heap_alloc_new]; rfl)).mono ?_
    rintro e w' ⟨rfl, rfl⟩
    go_wp2_with fail
    go_ret
    exact ⟨rfl, (Below.refl _ _).alloc (Nat.le_refl _) _⟩

/-- Handed in: isInFold. -/
theorem not_fold {B : Nat} {w : World} (c : Int) (hb : 0 ≤ c ∧ c ≤ 255) (hB : w.cell? ⟨B, 0, none⟩ = some (.func (Fn.func 50) #[] #[])) : Calls Tryd.prog 36 #[.int .u8 c, .pointer (some ⟨B, 0, none⟩)] w (SaysB (!foB c) w) := by
  cases hp : foB c
  all_goals
    have HC := Lib.hid (fun W : World => (show Calls Tryd.prog 50 #[.int .u8 c] W (SaysB (foB c) W) from inFold_any c hb.1 hb.2 _))
    rw [hp] at HC
    clear hp
    go_enter Tryd.func36, Tryd.ntmps36
    go_wp2_with fail
    refine (HC.out _).mono ?_
    rintro e w' ⟨rfl, rfl⟩
    go_wp2_with fail
    go_ret
    exact ⟨rfl, rfl⟩

set_option maxRecDepth 100000 in
set_option maxHeartbeats 1000000 in
theorem index_fold {B : Nat} {w : World} {x : List Int} {v : Value} (hx : ∀ c ∈ x, 0 ≤ c ∧ c ≤ 255) (hv : RowAny w v x.length (bcells x)) (hB : w.cell? ⟨B, 0, none⟩ = some (.func (Fn.func 50) #[] #[])) :
    Calls Tryd.prog 56 #[v, .func (Fn.func 36) #[] #[.pointer (some ⟨B, 0, none⟩)]] w fun e w' => ∃ i : Int, e = .returned (.int .i64 i) ∧ w = w' ∧ -1 ≤ i ∧ decide (0 ≤ i) = !x.all foB := by
  have HX := Lib.hid hx
  clear hx
  have HB := Lib.hid hB
  obtain ⟨n, hn⟩ : ∃ n, n = x.length := ⟨_, rfl⟩
  rw [← hn] at hv
  have HN := Lib.hid hn
  rcases hv with ⟨h0, a, cap, rfl⟩ | ⟨g, off, cap, rfl, h1, h2, h3, h4⟩
  · have hx0 : x = [] := List.length_eq_zero_iff.1 (by omega)
    subst hx0
    clear hn h0 hB
    go_enter Tryd.func56, Tryd.ntmps56
    go_wp2_with fail
    go_loop [8] (fun v => v = .int .i64 0) (fun v => 0)
    case atStart => rfl
    case round =>
      subst hrel
      go_wp2_with fail
      go_ret
      exact ⟨-1, rfl, rfl, by omega, by decide⟩
  · have H4 := Lib.hid h4
    unfold maxLen at h2
    clear hn h4 hB
    go_enter Tryd.func56, Tryd.ntmps56
    go_wp2_with fail
    go_loop [8] (fun v => ∃ i : Nat, v = .int .i64 i ∧ i ≤ n ∧ ∀ (j : Nat) (c : Int), j < i → x[j]? = some c → foB c = true) (fun v => n - (intOf v).toNat)
    case atStart => exact ⟨0, rfl, by omega, fun j c h => by omega⟩
    case round =>
      obtain ⟨i, rfl, hi, hall⟩ := hrel
      have HALL := Lib.hid hall
      clear hall
      by_cases hlt : i < n
      · obtain ⟨Z, hZ⟩ : ∃ z, x[i]? = some z := ⟨_, List.getElem?_eq_getElem (by rw [← HN.out]; exact hlt)⟩
        have HXI := Lib.hid hZ
        have c0 := H4.out i _ (bcells_at hZ)
        clear hZ
        go_wp2_with fail
        refine (not_fold Z (HX.out Z (List.mem_of_getElem? HXI.out)) HB.out).mono ?_
        cases hf : foB Z
        · have HNOT := Lib.hid (all_not HXI.out hf)
          clear hf
          rintro e w' ⟨rfl, rfl⟩
          go_wp2_with fail
          go_ret
          exact ⟨(i : Int), rfl, rfl, by omega, by rw [HNOT.out]; simp⟩
        · have HNX : Hid (∀ (j : Nat) (c : Int), j < i + 1 → x[j]? = some c → foB c = true) := fun j c hj hc => by
            by_cases g : j = i
            · subst g
              rw [HXI.out] at hc
              rw [← Option.some.inj hc]
              exact hf
            · exact HALL.out j c (by omega) hc
          clear hf
          rintro e w' ⟨rfl, rfl⟩
          go_wp2_with fail
          go_round
          case rel => exact ⟨i + 1, by go_num, by omega, HNX.out⟩
          case measure => simp [intOf]; omega
      · have hyes : x.all foB = true := all_upto (n := n) (by rw [HN.out]; exact Nat.le_refl _) (fun j c h hc => HALL.out j c (by omega) hc)
        have HYES := Lib.hid hyes
        clear hyes
        go_wp2_with fail
        go_ret
        exact ⟨-1, rfl, rfl, by omega, by rw [HYES.out]; decide⟩

theorem some_fold {B : Nat} {w : World} {x : List Int} {v : Value} (hx : ∀ c ∈ x, 0 ≤ c ∧ c ≤ 255) (hv : RowAny w v x.length (bcells x)) (hB : w.cell? ⟨B, 0, none⟩ = some (.func (Fn.func 50) #[] #[])) :
    Calls Tryd.prog 35 #[v, .func (Fn.func 36) #[] #[.pointer (some ⟨B, 0, none⟩)]] w (SaysB (!x.all foB) w) := by
  have HI := Lib.hid (index_fold hx hv hB)
  clear hv hB
  go_enter Tryd.func35, Tryd.ntmps35
  go_wp2_with fail
  refine HI.out.mono ?_
  rintro e w' ⟨i, rfl, rfl, hi, hd⟩
  have HD := Lib.hid hd
  clear hd
  go_wp2_with fail
  go_ret
  exact ⟨by rw [← HD.out]; exact rfl, rfl⟩

theorem all_fold {w : World} {x : List Int} {v : Value} (hx : ∀ c ∈ x, 0 ≤ c ∧ c ≤ 255) (hv : RowAny w v x.length (bcells x)) :
    Calls Tryd.prog 20 #[v, .func (Fn.func 50) #[] #[]] w (GivesBool (x.all foB) w) := by
  have HS := Lib.hid (fun o : Obj => some_fold (w := w.alloc o) (B := w.heap.size) hx (hv.below ((Below.refl _ _).alloc (Nat.le_refl _) _)))
  clear hv
  cases hp : x.all foB
  all_goals
    rw [hp] at HS
    clear hp
    go_enter Tryd.func20, Tryd.ntmps20
    go_wp2_with fail
    refine (HS.out _ (by unfold World.cell?; rw [heap_alloc_new]; rfl)).mono ?_
    rintro e w' ⟨rfl, rfl⟩
    go_wp2_with fail
    go_ret
    exact ⟨rfl, (Below.refl _ _).alloc (Nat.le_refl _) _⟩

/-- Handed in: isNumber. -/
theorem not_nums {B : Nat} {w : World} (c : Int) (hB : w.cell? ⟨B, 0, none⟩ = some (.func (Fn.func 52) #[] #[])) : Calls Tryd.prog 64 #[.int .i64 c, .pointer (some ⟨B, 0, none⟩)] w (SaysB (!numB c) w) := by
  cases hp : numB c
  all_goals
    have HC := Lib.hid (fun W : World => (show Calls Tryd.prog 52 #[.int .i64 c] W (SaysB (numB c) W) from num4_any c _))
    rw [hp] at HC
    clear hp
    go_enter Tryd.func64, Tryd.ntmps64
    go_wp2_with fail
    refine (HC.out _).mono ?_
    rintro e w' ⟨rfl, rfl⟩
    go_wp2_with fail
    go_ret
    exact ⟨rfl, rfl⟩

set_option maxRecDepth 100000 in
set_option maxHeartbeats 1000000 in
theorem index_nums {B : Nat} {w : World} {x : List Int} {v : Value} (hv : RowAny w v x.length (icells x)) (hB : w.cell? ⟨B, 0, none⟩ = some (.func (Fn.func 52) #[] #[])) :
    Calls Tryd.prog 74 #[v, .func (Fn.func 64) #[] #[.pointer (some ⟨B, 0, none⟩)]] w fun e w' => ∃ i : Int, e = .returned (.int .i64 i) ∧ w = w' ∧ -1 ≤ i ∧ decide (0 ≤ i) = !x.all numB := by
  have HB := Lib.hid hB
  obtain ⟨n, hn⟩ : ∃ n, n = x.length := ⟨_, rfl⟩
  rw [← hn] at hv
  have HN := Lib.hid hn
  rcases hv with ⟨h0, a, cap, rfl⟩ | ⟨g, off, cap, rfl, h1, h2, h3, h4⟩
  · have hx0 : x = [] := List.length_eq_zero_iff.1 (by omega)
    subst hx0
    clear hn h0 hB
    go_enter Tryd.func74, Tryd.ntmps74
    go_wp2_with fail
    go_loop [8] (fun v => v = .int .i64 0) (fun v => 0)
    case atStart => rfl
    case round =>
      subst hrel
      go_wp2_with fail
      go_ret
      exact ⟨-1, rfl, rfl, by omega, by decide⟩
  · have H4 := Lib.hid h4
    unfold maxLen at h2
    clear hn h4 hB
    go_enter Tryd.func74, Tryd.ntmps74
    go_wp2_with fail
    go_loop [8] (fun v => ∃ i : Nat, v = .int .i64 i ∧ i ≤ n ∧ ∀ (j : Nat) (c : Int), j < i → x[j]? = some c → numB c = true) (fun v => n - (intOf v).toNat)
    case atStart => exact ⟨0, rfl, by omega, fun j c h => by omega⟩
    case round =>
      obtain ⟨i, rfl, hi, hall⟩ := hrel
      have HALL := Lib.hid hall
      clear hall
      by_cases hlt : i < n
      · obtain ⟨Z, hZ⟩ : ∃ z, x[i]? = some z := ⟨_, List.getElem?_eq_getElem (by rw [← HN.out]; exact hlt)⟩
        have HXI := Lib.hid hZ
        have c0 := H4.out i _ (icells_at4 hZ)
        clear hZ
        go_wp2_with fail
        refine (not_nums Z HB.out).mono ?_
        cases hf : numB Z
        · have HNOT := Lib.hid (all_not HXI.out hf)
          clear hf
          rintro e w' ⟨rfl, rfl⟩
          go_wp2_with fail
          go_ret
          exact ⟨(i : Int), rfl, rfl, by omega, by rw [HNOT.out]; simp⟩
        · have HNX : Hid (∀ (j : Nat) (c : Int), j < i + 1 → x[j]? = some c → numB c = true) := fun j c hj hc => by
            by_cases g : j = i
            · subst g
              rw [HXI.out] at hc
              rw [← Option.some.inj hc]
              exact hf
            · exact HALL.out j c (by omega) hc
          clear hf
          rintro e w' ⟨rfl, rfl⟩
          go_wp2_with fail
          go_round
          case rel => exact ⟨i + 1, by go_num, by omega, HNX.out⟩
          case measure => simp [intOf]; omega
      · have hyes : x.all numB = true := all_upto (n := n) (by rw [HN.out]; exact Nat.le_refl _) (fun j c h hc => HALL.out j c (by omega) hc)
        have HYES := Lib.hid hyes
        clear hyes
        go_wp2_with fail
        go_ret
        exact ⟨-1, rfl, rfl, by omega, by rw [HYES.out]; decide⟩

theorem some_nums {B : Nat} {w : World} {x : List Int} {v : Value} (hv : RowAny w v x.length (icells x)) (hB : w.cell? ⟨B, 0, none⟩ = some (.func (Fn.func 52) #[] #[])) :
    Calls Tryd.prog 63 #[v, .func (Fn.func 64) #[] #[.pointer (some ⟨B, 0, none⟩)]] w (SaysB (!x.all numB) w) := by
  have HI := Lib.hid (index_nums hv hB)
  clear hv hB
  go_enter Tryd.func63, Tryd.ntmps63
  go_wp2_with fail
  refine HI.out.mono ?_
  rintro e w' ⟨i, rfl, rfl, hi, hd⟩
  have HD := Lib.hid hd
  clear hd
  go_wp2_with fail
  go_ret
  exact ⟨by rw [← HD.out]; exact rfl, rfl⟩

theorem all_nums {w : World} {x : List Int} {v : Value} (hv : RowAny w v x.length (icells x)) :
    Calls Tryd.prog 51 #[v, .func (Fn.func 52) #[] #[]] w (GivesBool (x.all numB) w) := by
  have HS := Lib.hid (fun o : Obj => some_nums (w := w.alloc o) (B := w.heap.size) (hv.below ((Below.refl _ _).alloc (Nat.le_refl _) _)))
  clear hv
  cases hp : x.all numB
  all_goals
    rw [hp] at HS
    clear hp
    go_enter Tryd.func51, Tryd.ntmps51
    go_wp2_with fail
    refine (HS.out _ (by unfold World.cell?; rw [heap_alloc_new]; rfl)).mono ?_
    rintro e w' ⟨rfl, rfl⟩
    go_wp2_with fail
    go_ret
    exact ⟨rfl, (Below.refl _ _).alloc (Nat.le_refl _) _⟩

end Go.Proofs.YtfoohffeccgkeaaDoor
