/- The merging of two runs. No condition. -/
import Derived.Test.YtclnadjgbpihcaaGreatDoorRotate
import Derived.Shelf.SlSortCmp.QuietGrown
namespace Go.Proofs.YtclnadjgbpihcaaGreatDoor
open Go.RowKit Go.Sort Go.Lib Go.Shelf
set_option linter.unusedVariables false
set_option linter.unusedSimpArgs false

theorem keycmp_ok : CmpOk KE.cmp := by
  have key : ∀ a b : List UInt8, compareBytes a b < 0 → ¬ compareBytes b a < 0 := by
    intro a
    induction a with
    | nil => intro b; cases b <;> simp [compareBytes]
    | cons x a ih =>
      intro b
      cases b with
      | nil => simp [compareBytes]
      | cons y b =>
        simp only [compareBytes]
        by_cases h1 : x < y
        · have h2 : ¬ y < x := fun h => by
            have := UInt8.lt_iff_toNat_lt.1 h1; have := UInt8.lt_iff_toNat_lt.1 h; omega
          simp [h1, h2]
        · by_cases h2 : y < x
          · simp [h1, h2]
          · simp only [h1, h2, if_false]
            exact ih b
  have tr : ∀ x y z : List UInt8, ¬ compareBytes y x < 0 → ¬ compareBytes z y < 0 → ¬ compareBytes z x < 0 := by
    intro x
    induction x with
    | nil =>
      intro y z
      cases z <;> simp [compareBytes]
    | cons p x ih =>
      intro y z
      cases y with
      | nil => simp [compareBytes]
      | cons q y =>
        cases z with
        | nil => simp [compareBytes]
        | cons r z =>
          simp only [compareBytes]
          by_cases a1 : q < p
          · simp [a1]
          · by_cases a2 : r < q
            · simp [a2]
            · have a3 : ¬ r < p := fun h => by
                have e1 : ¬ q.toNat < p.toNat := fun h => a1 (UInt8.lt_iff_toNat_lt.2 h)
                have e2 : ¬ r.toNat < q.toNat := fun h => a2 (UInt8.lt_iff_toNat_lt.2 h)
                have := UInt8.lt_iff_toNat_lt.1 h
                omega
              simp only [a1, a2, a3, if_false]
              by_cases b1 : p < q
              · have : p < r := UInt8.lt_iff_toNat_lt.2 (by
                  have e2 : ¬ r.toNat < q.toNat := fun h => a2 (UInt8.lt_iff_toNat_lt.2 h)
                  have := UInt8.lt_iff_toNat_lt.1 b1
                  omega)
                simp [b1, this]
              · by_cases b2 : q < r
                · have : p < r := UInt8.lt_iff_toNat_lt.2 (by
                    have e2 : ¬ q.toNat < p.toNat := fun h => a1 (UInt8.lt_iff_toNat_lt.2 h)
                    have := UInt8.lt_iff_toNat_lt.1 b2
                    omega)
                  simp [b1, b2, this]
                · have : ¬ p < r := fun h => by
                    have e1 : ¬ p.toNat < q.toNat := fun h => b1 (UInt8.lt_iff_toNat_lt.2 h)
                    have e2 : ¬ q.toNat < r.toNat := fun h => b2 (UInt8.lt_iff_toNat_lt.2 h)
                    have := UInt8.lt_iff_toNat_lt.1 h
                    omega
                  simp only [b1, b2, this, if_false]
                  exact ih y z
  exact ⟨fun x y => key _ _, fun x y z => tr _ _ _⟩

set_option maxHeartbeats 4000000 in
set_option maxRecDepth 100000 in
/-- One element against a run behind it. -/
theorem merge_one {w0 : World} {blk off : Nat} {d0 : Array KE} (R : RowK KE.enc 7 w0 blk off d0) (hsz : d0.size < 4611686018427387904) (cap a m b : Nat) (d : Array KE) (w : World) (hS : SW7 w0 blk off d w) (hd : d.size = d0.size)
    (hm : m = a + 1) (hmb : m < b) (hb : b ≤ d.size) (hs : Srt KE.cmp KE.ix m b d) (hx : ∀ t, m ≤ t → t < b → KE.ix d[a]! < KE.ix d[t]!) :
    Calls Tryz.prog 91 #[.slice (some ⟨blk, off, none⟩) d.size cap, .int .i64 a, .int .i64 m, .int .i64 b, .func (.func 71) #[] #[]] w fun e w' =>
      e = .returned (.tuple #[]) ∧ ∃ d', SW7 w0 blk off d' w' ∧ PermIn a b d d' ∧ Srt KE.cmp KE.ix a b d' := by
  have HS : Hid (SW7 w0 blk off d w) := hS
  have HR : Hid (RowK KE.enc 7 w0 blk off d0) := R
  have HD : Hid (d.size = d0.size) := hd
  have hz : d.size < 4611686018427387904 := by omega
  have mixed : Tryz.prog.follows .mixedOrders = true := by kernel_rfl
  have HX : Hid (Srt KE.cmp KE.ix m b d ∧ ∀ t, m ≤ t → t < b → KE.ix d[a]! < KE.ix d[t]!) := ⟨hs, hx⟩
  have HM : Hid (m = a + 1) := hm
  have t1 : ((m : Int) - (a : Int) == 1) = true := by simp; omega
  have hm1 : a < m := by omega
  have hm2 : m ≤ a + 1 := by omega
  clear hS R hd hs hx hm
  go_enter Tryz.func91, Tryz.ntmps91
  go_wp2
  go_loopg [10, 11] (b - m) (fun g vi vj wr => ∃ (i j : Nat), vi = .int .i64 i ∧ vj = .int .i64 j ∧ m ≤ i ∧ i ≤ j ∧ j ≤ b ∧ j - i ≤ g ∧ Hid (SW7 w0 blk off d wr) ∧ Hid ((i = m ∨ KE.cmp d[i - 1]! d[a]! < 0) ∧ (j = b ∨ ¬ KE.cmp d[j]! d[a]! < 0)))
  case atStart => exact ⟨m, b, rfl, rfl, by omega, by omega, by omega, by omega, HS, ⟨.inl rfl, .inl rfl⟩⟩
  case round =>
    obtain ⟨i, j, rfl, rfl, hi, hij, hj, hg, HW, HI⟩ := hrel
    by_cases hlt : i < j
    · have hltz : (i : Int) < (j : Int) := by omega
      obtain ⟨h, hh⟩ : ∃ h, h = (i + j) / 2 := ⟨_, rfl⟩
      have eh : ((i : Int) + (j : Int)) / 2 = (h : Int) := by omega
      have h1 : i ≤ h := by omega
      have h2 : h < j := by omega
      have HH : Hid (h = (i + j) / 2) := hh
      obtain ⟨r, hr⟩ : ∃ r, KE.cmp d[h]! d[a]! = r := ⟨_, rfl⟩
      obtain ⟨u0, u1, u2, u3, u4, u5, u6, hu, cu⟩ := cells7 HW.out HR.out HD.out (h) (by omega)
      obtain ⟨v0, v1, v2, v3, v4, v5, v6, hv, cv⟩ := cells7 HW.out HR.out HD.out (a) (by omega)
      obtain ⟨ca, hca⟩ : ∃ c, c = (d[h]!).enc := ⟨_, rfl⟩
      obtain ⟨cb, hcb⟩ : ∃ c, c = (d[a]!).enc := ⟨_, rfl⟩
      have hs1 : ca.length = 7 := by rw [hca]; rfl
      have hs2 : cb.length = 7 := by rw [hcb]; rfl
      have fu : #[u0, u1, u2, u3, u4, u5, u6] = ca.toArray := by rw [hca, hu]
      have fv : #[v0, v1, v2, v3, v4, v5, v6] = cb.toArray := by rw [hcb, hv]
      have hcg : ∀ n os, Calls Tryz.prog 71 #[.agg ca.toArray, .agg cb.toArray] (grow (wr.drewN n) os) fun e w' => e = .returned (.int .i64 r) ∧ ∃ q os', w' = grow ((grow (wr.drewN n) os).drewN q) os' := fun n os => by
        rw [hca, hcb, ← hr]
        exact keycmp_any _ _ _
      have a0 := fun n os => (cu n os).1
      have a1 := fun n os => (cu n os).2.1
      have a2 := fun n os => (cu n os).2.2.1
      have a3 := fun n os => (cu n os).2.2.2.1
      have a4 := fun n os => (cu n os).2.2.2.2.1
      have a5 := fun n os => (cu n os).2.2.2.2.2.1
      have a6 := fun n os => (cu n os).2.2.2.2.2.2
      have b0 := fun n os => (cv n os).1
      have b1 := fun n os => (cv n os).2.1
      have b2 := fun n os => (cv n os).2.2.1
      have b3 := fun n os => (cv n os).2.2.2.1
      have b4 := fun n os => (cv n os).2.2.2.2.1
      have b5 := fun n os => (cv n os).2.2.2.2.2.1
      have b6 := fun n os => (cv n os).2.2.2.2.2.2
      have zi : ((h : Nat) : Int) < (d.size : Int) := by omega
      have zj : ((a : Nat) : Int) < (d.size : Int) := by omega
      clear cu cv hu hv hca hcb
      have HRR : Hid (KE.cmp d[h]! d[a]! = r) := hr
      clear hr hh
      by_cases hr0 : r < 0
      · go_wp2_with fail
        go_quiet_grown (first | (go_at_call 71; refine Calls.grown_of (hcg _ _)))
        go_wp2
        go_roundg (j - (h + 1))
        case measure => omega
        case rel => exact ⟨h + 1, j, by go_num, rfl, by omega, by omega, by omega, Nat.le_refl _, (show Hid _ from HW.out.grown nq osq), ⟨.inr (by rw [Nat.add_sub_cancel, HRR.out]; exact hr0), HI.out.2⟩⟩
      · go_wp2_with fail
        go_quiet_grown (first | (go_at_call 71; refine Calls.grown_of (hcg _ _)))
        go_wp2
        go_roundg (h - i)
        case measure => omega
        case rel => exact ⟨i, h, rfl, rfl, by omega, by omega, by omega, Nat.le_refl _, (show Hid _ from HW.out.grown nq osq), ⟨HI.out.1, .inr (by rw [HRR.out]; exact hr0)⟩⟩
    · have e : j = i := by omega
      subst e
      clear hlt
      go_wp2
      go_loopg [13] (j - 1 - a) (fun g vk wr => ∃ (k : Nat) (dk : Array KE), vk = .int .i64 k ∧ a ≤ k ∧ k + 1 ≤ j ∧ j - 1 - k ≤ g ∧ Hid (SW7 w0 blk off dk wr) ∧ Hid (ShR a k d dk) ∧ Hid (PermIn a b d dk) ∧ Hid (dk.size = d.size))
      case atStart => exact ⟨a, d, rfl, by omega, by omega, by omega, HW, ShR.start _ _, permIn_refl _ _ _, rfl⟩
      case round =>
        obtain ⟨k, dk, rfl, hk1, hk2, hgk, HW2, HS2, HP2, HZ⟩ := hrel
        by_cases hlt : k + 1 < j
        · have hltz : (k : Int) < (j : Int) - 1 := by omega
          obtain ⟨u0, u1, u2, u3, u4, u5, u6, hu, cu⟩ := cells7 HW2.out HR.out (by rw [HZ.out]; exact HD.out) (k) (by have := HZ.out; omega)
          obtain ⟨v0, v1, v2, v3, v4, v5, v6, hv, cv⟩ := cells7 HW2.out HR.out (by rw [HZ.out]; exact HD.out) (k + 1) (by have := HZ.out; omega)
          have s1 := HW2.out.st1 HR.out (by rw [HZ.out]; exact HD.out) Tryz.prog (k) (by have := HZ.out; omega) dk[k + 1]!
          have s2 := HW2.out.st2 HR.out (by rw [HZ.out]; exact HD.out) Tryz.prog (k) (k + 1) (by have := HZ.out; omega) (by have := HZ.out; omega) dk[k + 1]! dk[k]!
          obtain ⟨ca, hca⟩ : ∃ c, c = (dk[k]!).enc := ⟨_, rfl⟩
          obtain ⟨cb, hcb⟩ : ∃ c, c = (dk[k + 1]!).enc := ⟨_, rfl⟩
          rw [← hcb] at s1
          rw [← hca, ← hcb] at s2
          have hs1 : ca.length = 7 := by rw [hca]; rfl
          have hs2 : cb.length = 7 := by rw [hcb]; rfl
          have fu : #[u0, u1, u2, u3, u4, u5, u6] = ca.toArray := by rw [hca, hu]
          have fv : #[v0, v1, v2, v3, v4, v5, v6] = cb.toArray := by rw [hcb, hv]
          have LT : Hid (ca = (dk[k]!).enc ∧ cb = (dk[k + 1]!).enc) := ⟨hca, hcb⟩
          obtain ⟨a0, a1, a2, a3, a4, a5, a6⟩ := cu 1 #[]
          obtain ⟨b0, b1, b2, b3, b4, b5, b6⟩ := cv 1 #[]
          rw [grow_empty, World.cell?_drewN] at a0 a1 a2 a3 a4 a5 a6 b0 b1 b2 b3 b4 b5 b6
          have zi : ((k : Nat) : Int) < (d.size : Int) := by omega
          have zj : ((k + 1 : Nat) : Int) < (d.size : Int) := by omega
          clear hca hcb hu hv cu cv
          go_wp2_with fail
          go_big_region_o
          all_goals go_wp2
          all_goals
            go_roundg (j - 1 - (k + 1))
            case measure => omega
            case rel =>
              refine ⟨k + 1, swp dk k (k + 1), by go_num, by omega, by omega, Nat.le_refl _, (show Hid _ from ?_), (show Hid _ from HS2.out.step hk1 (by omega)), (show Hid _ from permIn_trans _ _ _ _ _ HP2.out (swp_permIn _ _ _ _ _ (by omega) (by omega) (by omega) (by omega) (by rw [HZ.out]; exact hb))), (show Hid _ from (size_swp _ _ _).trans HZ.out)⟩
              rw [LT.out.1, LT.out.2]
              exact HW2.out.swapped HR.out k (k + 1) (by have := HZ.out; omega) (by have := HZ.out; omega)
        · have hltz : ¬ (k : Int) < (j : Int) - 1 := by omega
          have e : k = j - 1 := by omega
          have E : Hid (k = j - 1) := e
          clear e
          go_wp2
          refine bodyPost_ret (v := .tuple #[]) (by simp [results, Tryz.results91, go_sem]) rfl ?_
          exact ⟨rfl, dk, HW2.out, HP2.out, ShR.done keycmp_ok (i := j) (by omega) hj (by rw [← HM.out]; exact HX.out.1) (fun t h1 h2 => HX.out.2 t (by omega) h2) (by rw [← HM.out]; exact HI.out.1) (HI.out.2.imp id fun h => by omega) (by rw [← E.out]; exact HS2.out)⟩

set_option maxHeartbeats 4000000 in
set_option maxRecDepth 100000 in
/-- A run against one element behind it. -/
theorem merge_last {w0 : World} {blk off : Nat} {d0 : Array KE} (R : RowK KE.enc 7 w0 blk off d0) (hsz : d0.size < 4611686018427387904) (cap a m b : Nat) (d : Array KE) (w : World) (hS : SW7 w0 blk off d w) (hd : d.size = d0.size)
    (ham : a + 1 < m) (hm : b = m + 1) (hb : b ≤ d.size) (hs : Srt KE.cmp KE.ix a m d) (hx : ∀ t, a ≤ t → t < m → KE.ix d[t]! < KE.ix d[m]!) :
    Calls Tryz.prog 91 #[.slice (some ⟨blk, off, none⟩) d.size cap, .int .i64 a, .int .i64 m, .int .i64 b, .func (.func 71) #[] #[]] w fun e w' =>
      e = .returned (.tuple #[]) ∧ ∃ d', SW7 w0 blk off d' w' ∧ PermIn a b d d' ∧ Srt KE.cmp KE.ix a b d' := by
  have HS : Hid (SW7 w0 blk off d w) := hS
  have HR : Hid (RowK KE.enc 7 w0 blk off d0) := R
  have HD : Hid (d.size = d0.size) := hd
  have hz : d.size < 4611686018427387904 := by omega
  have mixed : Tryz.prog.follows .mixedOrders = true := by kernel_rfl
  have HX : Hid (Srt KE.cmp KE.ix a m d ∧ ∀ t, a ≤ t → t < m → KE.ix d[t]! < KE.ix d[m]!) := ⟨hs, hx⟩
  have HM : Hid (b = m + 1) := hm
  have t1 : ((m : Int) - (a : Int) == 1) = false := by simp; omega
  have t2 : ((b : Int) - (m : Int) == 1) = true := by simp; omega
  have hm1 : m < b := by omega
  have hm2 : b ≤ m + 1 := by omega
  clear hS R hd hs hx hm
  go_enter Tryz.func91, Tryz.ntmps91
  go_wp2
  go_loopg [14, 15] (m - a) (fun g vi vj wr => ∃ (i j : Nat), vi = .int .i64 i ∧ vj = .int .i64 j ∧ a ≤ i ∧ i ≤ j ∧ j ≤ m ∧ j - i ≤ g ∧ Hid (SW7 w0 blk off d wr) ∧ Hid ((i = a ∨ ¬ KE.cmp d[m]! d[i - 1]! < 0) ∧ (j = m ∨ KE.cmp d[m]! d[j]! < 0)))
  case atStart => exact ⟨a, m, rfl, rfl, by omega, by omega, by omega, by omega, HS, ⟨.inl rfl, .inl rfl⟩⟩
  case round =>
    obtain ⟨i, j, rfl, rfl, hi, hij, hj, hg, HW, HI⟩ := hrel
    by_cases hlt : i < j
    · have hltz : (i : Int) < (j : Int) := by omega
      obtain ⟨h, hh⟩ : ∃ h, h = (i + j) / 2 := ⟨_, rfl⟩
      have eh : ((i : Int) + (j : Int)) / 2 = (h : Int) := by omega
      have h1 : i ≤ h := by omega
      have h2 : h < j := by omega
      have HH : Hid (h = (i + j) / 2) := hh
      obtain ⟨r, hr⟩ : ∃ r, KE.cmp d[m]! d[h]! = r := ⟨_, rfl⟩
      obtain ⟨u0, u1, u2, u3, u4, u5, u6, hu, cu⟩ := cells7 HW.out HR.out HD.out (m) (by omega)
      obtain ⟨v0, v1, v2, v3, v4, v5, v6, hv, cv⟩ := cells7 HW.out HR.out HD.out (h) (by omega)
      obtain ⟨ca, hca⟩ : ∃ c, c = (d[m]!).enc := ⟨_, rfl⟩
      obtain ⟨cb, hcb⟩ : ∃ c, c = (d[h]!).enc := ⟨_, rfl⟩
      have hs1 : ca.length = 7 := by rw [hca]; rfl
      have hs2 : cb.length = 7 := by rw [hcb]; rfl
      have fu : #[u0, u1, u2, u3, u4, u5, u6] = ca.toArray := by rw [hca, hu]
      have fv : #[v0, v1, v2, v3, v4, v5, v6] = cb.toArray := by rw [hcb, hv]
      have hcg : ∀ n os, Calls Tryz.prog 71 #[.agg ca.toArray, .agg cb.toArray] (grow (wr.drewN n) os) fun e w' => e = .returned (.int .i64 r) ∧ ∃ q os', w' = grow ((grow (wr.drewN n) os).drewN q) os' := fun n os => by
        rw [hca, hcb, ← hr]
        exact keycmp_any _ _ _
      have a0 := fun n os => (cu n os).1
      have a1 := fun n os => (cu n os).2.1
      have a2 := fun n os => (cu n os).2.2.1
      have a3 := fun n os => (cu n os).2.2.2.1
      have a4 := fun n os => (cu n os).2.2.2.2.1
      have a5 := fun n os => (cu n os).2.2.2.2.2.1
      have a6 := fun n os => (cu n os).2.2.2.2.2.2
      have b0 := fun n os => (cv n os).1
      have b1 := fun n os => (cv n os).2.1
      have b2 := fun n os => (cv n os).2.2.1
      have b3 := fun n os => (cv n os).2.2.2.1
      have b4 := fun n os => (cv n os).2.2.2.2.1
      have b5 := fun n os => (cv n os).2.2.2.2.2.1
      have b6 := fun n os => (cv n os).2.2.2.2.2.2
      have zi : ((m : Nat) : Int) < (d.size : Int) := by omega
      have zj : ((h : Nat) : Int) < (d.size : Int) := by omega
      clear cu cv hu hv hca hcb
      have HRR : Hid (KE.cmp d[m]! d[h]! = r) := hr
      clear hr hh
      by_cases hr0 : r < 0
      · have hr1 : decide (r < 0) = true := by simpa using hr0
        go_wp2_with fail
        go_quiet_grown (first | (go_at_call 71; refine Calls.grown_of (hcg _ _)))
        go_wp2
        go_roundg (h - i)
        case measure => omega
        case rel => exact ⟨i, h, rfl, rfl, by omega, by omega, by omega, Nat.le_refl _, (show Hid _ from HW.out.grown nq osq), ⟨HI.out.1, .inr (by rw [HRR.out]; exact hr0)⟩⟩
      · have hr1 : decide (r < 0) = false := by simpa using hr0
        go_wp2_with fail
        go_quiet_grown (first | (go_at_call 71; refine Calls.grown_of (hcg _ _)))
        go_wp2
        go_roundg (j - (h + 1))
        case measure => omega
        case rel => exact ⟨h + 1, j, by go_num, rfl, by omega, by omega, by omega, Nat.le_refl _, (show Hid _ from HW.out.grown nq osq), ⟨.inr (by rw [Nat.add_sub_cancel, HRR.out]; exact hr0), HI.out.2⟩⟩
    · have e : j = i := by omega
      subst e
      clear hlt
      go_wp2
      go_loopg [17] (m - j) (fun g vk wr => ∃ (k : Nat) (dk : Array KE), vk = .int .i64 k ∧ j ≤ k ∧ k ≤ m ∧ k - j ≤ g ∧ Hid (SW7 w0 blk off dk wr) ∧ Hid (ShL k m d dk) ∧ Hid (PermIn a b d dk) ∧ Hid (dk.size = d.size))
      case atStart => exact ⟨m, d, rfl, by omega, by omega, by omega, HW, ShL.start _ _, permIn_refl _ _ _, rfl⟩
      case round =>
        obtain ⟨k, dk, rfl, hk1, hk2, hgk, HW2, HS2, HP2, HZ⟩ := hrel
        by_cases hlt : j < k
        · obtain ⟨q, rfl⟩ : ∃ q, k = q + 1 := ⟨k - 1, by omega⟩
          have hltz : (j : Int) < (q : Int) + 1 := by omega
          have hltb : decide (((q + 1 : Nat) : Int) > (j : Int)) = true := by simp; omega
          have eq1 : IntKind.i64.wrap (q : Int) = (q : Int) := by rw [IntKind.wrap_i64]; omega
          obtain ⟨u0, u1, u2, u3, u4, u5, u6, hu, cu⟩ := cells7 HW2.out HR.out (by rw [HZ.out]; exact HD.out) (q + 1) (by have := HZ.out; omega)
          obtain ⟨v0, v1, v2, v3, v4, v5, v6, hv, cv⟩ := cells7 HW2.out HR.out (by rw [HZ.out]; exact HD.out) (q) (by have := HZ.out; omega)
          have s1 := HW2.out.st1 HR.out (by rw [HZ.out]; exact HD.out) Tryz.prog (q + 1) (by have := HZ.out; omega) dk[q]!
          have s2 := HW2.out.st2 HR.out (by rw [HZ.out]; exact HD.out) Tryz.prog (q + 1) (q) (by have := HZ.out; omega) (by have := HZ.out; omega) dk[q]! dk[q + 1]!
          obtain ⟨ca, hca⟩ : ∃ c, c = (dk[q + 1]!).enc := ⟨_, rfl⟩
          obtain ⟨cb, hcb⟩ : ∃ c, c = (dk[q]!).enc := ⟨_, rfl⟩
          rw [← hcb] at s1
          rw [← hca, ← hcb] at s2
          have hs1 : ca.length = 7 := by rw [hca]; rfl
          have hs2 : cb.length = 7 := by rw [hcb]; rfl
          have fu : #[u0, u1, u2, u3, u4, u5, u6] = ca.toArray := by rw [hca, hu]
          have fv : #[v0, v1, v2, v3, v4, v5, v6] = cb.toArray := by rw [hcb, hv]
          have LT : Hid (ca = (dk[q + 1]!).enc ∧ cb = (dk[q]!).enc) := ⟨hca, hcb⟩
          obtain ⟨a0, a1, a2, a3, a4, a5, a6⟩ := cu 1 #[]
          obtain ⟨b0, b1, b2, b3, b4, b5, b6⟩ := cv 1 #[]
          rw [grow_empty, World.cell?_drewN] at a0 a1 a2 a3 a4 a5 a6 b0 b1 b2 b3 b4 b5 b6
          have zi : ((q + 1 : Nat) : Int) < (d.size : Int) := by omega
          have zj : ((q : Nat) : Int) < (d.size : Int) := by omega
          clear hca hcb hu hv cu cv
          go_wp2_with fail
          go_big_region_o
          all_goals go_wp2
          all_goals
            go_roundg (q - j)
            case measure => omega
            case rel =>
              refine ⟨q, swp dk (q + 1) q, by first | rfl | go_num, by omega, by omega, Nat.le_refl _, (show Hid _ from ?_), (show Hid _ from HS2.out.step hk2 (by omega)), (show Hid _ from permIn_trans _ _ _ _ _ HP2.out (swp_permIn _ _ _ _ _ (by omega) (by omega) (by omega) (by omega) (by rw [HZ.out]; exact hb))), (show Hid _ from (size_swp _ _ _).trans HZ.out)⟩
              rw [LT.out.1, LT.out.2]
              exact HW2.out.swapped HR.out (q + 1) q (by have := HZ.out; omega) (by have := HZ.out; omega)
        · have hltz : ¬ (j : Int) < (k : Int) := by omega
          have hltb : decide ((k : Int) > (j : Int)) = false := by simp; omega
          have e : k = j := by omega
          have E : Hid (k = j) := e
          clear e
          go_wp2
          refine bodyPost_ret (v := .tuple #[]) (by simp [results, Tryz.results91, go_sem]) rfl ?_
          exact ⟨rfl, dk, HW2.out, HP2.out, by rw [HM.out]; exact ShL.done keycmp_ok (i := j) hi hj HX.out.1 HX.out.2 (HI.out.1.imp id fun h => by omega) HI.out.2 (by rw [← E.out]; exact HS2.out)⟩

end Go.Proofs.YtclnadjgbpihcaaGreatDoor

