/- The merging of two runs, by halves. No condition. -/
import Derived.Test.YtclnadjgbpihcaaGreatDoorMerge
namespace Go.Proofs.YtclnadjgbpihcaaGreatDoor
open Go.RowKit Go.Sort Go.Lib Go.Shelf
set_option linter.unusedVariables false
set_option linter.unusedSimpArgs false

set_option maxHeartbeats 8000000 in
set_option maxRecDepth 100000 in
/-- The merging of two runs, one behind the other. -/
theorem symmerge_any {w0 : World} {blk off : Nat} {d0 : Array KE} (R : RowK KE.enc 7 w0 blk off d0) (hsz : d0.size < 4611686018427387904) (cap : Nat) : ∀ (N a m b : Nat) (d : Array KE) (w : World), b - a ≤ N → SW7 w0 blk off d w → d.size = d0.size →
    a < m → m < b → b ≤ d.size → Srt KE.cmp KE.ix a m d → Srt KE.cmp KE.ix m b d → (∀ p q, a ≤ p → p < m → m ≤ q → q < b → KE.ix d[p]! < KE.ix d[q]!) →
    Calls Tryz.prog 91 #[.slice (some ⟨blk, off, none⟩) d.size cap, .int .i64 a, .int .i64 m, .int .i64 b, .func (.func 71) #[] #[]] w fun e w' =>
      e = .returned (.tuple #[]) ∧ ∃ d', SW7 w0 blk off d' w' ∧ PermIn a b d d' ∧ Srt KE.cmp KE.ix a b d'  := by
  intro N
  induction N with
  | zero =>
    intro a m b d w hN hS hd ham hmb hb hl hr hx
    omega
  | succ N IH =>
    intro a m b d w hN hS hd ham hmb hb hl hr hx
    by_cases c1 : m = a + 1
    · exact merge_one R hsz cap a m b d w hS hd c1 hmb hb hr (fun t h1 h2 => hx a t (by omega) (by omega) h1 h2)
    by_cases c2 : b = m + 1
    · exact (merge_last R hsz cap a m b d w hS hd (by omega) c2 hb hl (fun t h1 h2 => hx t m h1 h2 (by omega) (by omega)))
    have HIH : Hid (∀ (a m b : Nat) (d : Array KE) (w : World), b - a ≤ N → SW7 w0 blk off d w → d.size = d0.size → a < m → m < b → b ≤ d.size → Srt KE.cmp KE.ix a m d → Srt KE.cmp KE.ix m b d → (∀ p q, a ≤ p → p < m → m ≤ q → q < b → KE.ix d[p]! < KE.ix d[q]!) → Calls Tryz.prog 91 #[.slice (some ⟨blk, off, none⟩) d.size cap, .int .i64 a, .int .i64 m, .int .i64 b, .func (.func 71) #[] #[]] w fun e w' =>
      e = .returned (.tuple #[]) ∧ ∃ d', SW7 w0 blk off d' w' ∧ PermIn a b d d' ∧ Srt KE.cmp KE.ix a b d' ) := IH
    have HX : Hid (Srt KE.cmp KE.ix a m d ∧ Srt KE.cmp KE.ix m b d ∧ ∀ p q, a ≤ p → p < m → m ≤ q → q < b → KE.ix d[p]! < KE.ix d[q]!) := ⟨hl, hr, hx⟩
    have t1 : ((m : Int) - (a : Int) == 1) = false := by simp; omega
    have t2 : ((b : Int) - (m : Int) == 1) = false := by simp; omega
    have hm2 : a + 2 ≤ m := by omega
    have hm3 : m + 2 ≤ b := by omega
    obtain ⟨mid, hmid⟩ : ∃ k, k = (a + b) / 2 := ⟨_, rfl⟩
    have em : ((a : Int) + (b : Int)) / 2 = (mid : Int) := by omega
    have hmid1 : 2 * mid ≤ a + b := by omega
    have hmid2 : a + b ≤ 2 * mid + 1 := by omega
    clear IH hl hr hx hmid c1 c2
    have HS : Hid (SW7 w0 blk off d w) := hS
    have HR : Hid (RowK KE.enc 7 w0 blk off d0) := R
    have HD : Hid (d.size = d0.size) := hd
    have hz : d.size < 4611686018427387904 := by omega
    have mixed : Tryz.prog.follows .mixedOrders = true := by kernel_rfl
    clear hS R hd
    by_cases hgt : mid < m
    · have hg1 : decide ((m : Int) > (mid : Int)) = true := by simp; omega
      go_enter Tryz.func91, Tryz.ntmps91
      go_wp2
      go_loopg [20, 21] (mid - (mid + m - b)) (fun g vi vj wr => ∃ (i j : Nat), vi = .int .i64 i ∧ vj = .int .i64 j ∧ (mid + m - b) ≤ i ∧ i ≤ j ∧ j ≤ mid ∧ j - i ≤ g ∧ Hid (SW7 w0 blk off d wr) ∧ Hid ((i = (mid + m - b) ∨ ¬ KE.cmp d[mid + m - i]! d[i - 1]! < 0) ∧ (j = mid ∨ KE.cmp d[mid + m - 1 - j]! d[j]! < 0)))
      case atStart => exact ⟨(mid + m - b), mid, by first | rfl | go_num | (congr 1; omega), rfl, by omega, by omega, by omega, by omega, HS, ⟨.inl rfl, .inl rfl⟩⟩
      case round =>
        obtain ⟨i, j, rfl, rfl, hi, hij, hj, hg, HW, HI⟩ := hrel
        by_cases hlt : i < j
        · have hltz : (i : Int) < (j : Int) := by omega
          obtain ⟨h, hh⟩ : ∃ h, h = (i + j) / 2 := ⟨_, rfl⟩
          have eh : ((i : Int) + (j : Int)) / 2 = (h : Int) := by omega
          have h1 : i ≤ h := by omega
          have h2 : h < j := by omega
          obtain ⟨y, hy⟩ : ∃ y, y = mid + m - 1 - h := ⟨_, rfl⟩
          have ey : (mid : Int) + (m : Int) - 1 - (h : Int) = (y : Int) := by omega
          have eyw : IntKind.i64.wrap (y : Int) = (y : Int) := by rw [IntKind.wrap_i64]; omega
          have hyb : y < b := by omega
          have HH : Hid (h = (i + j) / 2 ∧ y = mid + m - 1 - h) := ⟨hh, hy⟩
          obtain ⟨r, hr⟩ : ∃ r, KE.cmp d[y]! d[h]! = r := ⟨_, rfl⟩
          clear hh hy
          obtain ⟨u0, u1, u2, u3, u4, u5, u6, hu, cu⟩ := cells7 HW.out HR.out HD.out (y) (by omega)
          obtain ⟨v0, v1, v2, v3, v4, v5, v6, hv, cv⟩ := cells7 HW.out HR.out HD.out (h) (by omega)
          obtain ⟨ca, hca⟩ : ∃ c, c = (d[y]!).enc := ⟨_, rfl⟩
          obtain ⟨cb, hcb⟩ : ∃ c, c = (d[h]!).enc := ⟨_, rfl⟩
          have hs1 : ca.length = 7 := by rw [hca]; rfl
          have hs2 : cb.length = 7 := by rw [hcb]; rfl
          have fu : #[u0, u1, u2, u3, u4, u5, u6] = ca.toArray := by rw [hca, hu]
          have fv : #[v0, v1, v2, v3, v4, v5, v6] = cb.toArray := by rw [hcb, hv]
          have hcg : ∀ n os, Calls Tryz.prog 71 #[.agg ca.toArray, .agg cb.toArray] (grow (wr.drewN n) os) fun e w' => e = .returned (.int .i64 r) ∧ ∃ q os', w' = grow ((grow (wr.drewN n) os).drewN q) os' := fun n os => by
            rw [hca, hcb, ← hr]
            exact keycmp_any _ _ _
          have a0 := fun n os => (cu n os).1
          have a1 := fun n os => (cu n os).2.1
          have a2 := fun n os => (cu n os).2.2.1
          have a3 := fun n os => (cu n os).2.2.2.1
          have a4 := fun n os => (cu n os).2.2.2.2.1
          have a5 := fun n os => (cu n os).2.2.2.2.2.1
          have a6 := fun n os => (cu n os).2.2.2.2.2.2
          have b0 := fun n os => (cv n os).1
          have b1 := fun n os => (cv n os).2.1
          have b2 := fun n os => (cv n os).2.2.1
          have b3 := fun n os => (cv n os).2.2.2.1
          have b4 := fun n os => (cv n os).2.2.2.2.1
          have b5 := fun n os => (cv n os).2.2.2.2.2.1
          have b6 := fun n os => (cv n os).2.2.2.2.2.2
          have zi : ((y : Nat) : Int) < (d.size : Int) := by omega
          have zj : ((h : Nat) : Int) < (d.size : Int) := by omega
          clear cu cv hu hv hca hcb
          have HRR : Hid (KE.cmp d[y]! d[h]! = r) := hr
          clear hr
          by_cases hr0 : r < 0
          · have hr1 : decide (r < 0) = true := by simpa using hr0
            go_wp2_with fail
            go_quiet_grown (first | (go_at_call 71; refine Calls.grown_of (hcg _ _)))
            go_wp2
            go_roundg (h - i)
            case measure => omega
            case rel => exact ⟨i, h, rfl, rfl, by omega, by omega, by omega, Nat.le_refl _, (show Hid _ from HW.out.grown nq osq), ⟨HI.out.1, .inr (by rw [← HH.out.2, HRR.out]; exact hr0)⟩⟩
          · have hr1 : decide (r < 0) = false := by simpa using hr0
            go_wp2_with fail
            go_quiet_grown (first | (go_at_call 71; refine Calls.grown_of (hcg _ _)))
            go_wp2
            go_roundg (j - (h + 1))
            case measure => omega
            case rel => exact ⟨h + 1, j, by go_num, rfl, by omega, by omega, by omega, Nat.le_refl _, (show Hid _ from HW.out.grown nq osq), ⟨.inr (by have e := HH.out.2; rw [show mid + m - (h + 1) = y by omega, Nat.add_sub_cancel, HRR.out]; exact hr0), HI.out.2⟩⟩
        · have e : j = i := by omega
          subst e
          clear hlt
          obtain ⟨s, hs⟩ : ∃ s, s = j := ⟨_, rfl⟩
          subst hs
          obtain ⟨e, he⟩ : ∃ e, e = mid + m - s := ⟨_, rfl⟩
          have ee : (mid : Int) + (m : Int) - (s : Int) = (e : Int) := by omega
          have hs1 : a ≤ s := by omega
          have hs2 : s ≤ m := by omega
          have hs3 : s ≤ mid := by omega
          have he1 : m ≤ e := by omega
          have he2 : e ≤ b := by omega
          have he3 : mid + m = s + e := by omega
          have b1 : Hid (s = a ∨ e = b ∨ ¬ KE.cmp d[e]! d[s - 1]! < 0) := by
            rcases HI.out.1 with q | q
            · exact .inr (.inl (by omega))
            · refine .inr (.inr ?_)
              rw [he]
              omega
          have b2 : Hid (s = m ∨ e = m ∨ KE.cmp d[e - 1]! d[s]! < 0) := by
            rcases HI.out.2 with q | q
            · exact .inr (.inl (by omega))
            · refine .inr (.inr ?_)
              rw [show e - 1 = mid + m - 1 - s by omega]
              exact q
          have PT : Hid (∀ f, IsRot s m e d f → Parted KE.cmp KE.ix a s mid e b f) := fun f hf => by
            rw [show mid = s + (e - m) by omega]
            exact parted keycmp_ok hs1 hs2 he1 he2 hf HX.out.1 HX.out.2.1 HX.out.2.2 b1.out b2.out
          clear he b1 b2 HI
          by_cases hB : s < mid
          · by_cases hC : s < m
            · by_cases hA : a < s
              · by_cases hD : e < b
                · have zas : (a : Int) < (s : Int) := by omega
                  have zsmid : (s : Int) < (mid : Int) := by omega
                  have zsm : (s : Int) < (m : Int) := by omega
                  have zeb : (e : Int) < (b : Int) := by omega
                  have zme : (m : Int) < (e : Int) := by omega
                  have zmide : (mid : Int) < (e : Int) := by omega
                  have hcr := rotate_any HR.out hsz (.func (.func 71) #[] #[]) cap s m e d wr HW.out HD.out (by omega) (by omega) (by omega)
                  go_wp2_with fail
                  ((with_reducible refine hcr.mono ?_))
                  rintro e1 w1 ⟨rfl, f, hW1, hI1, hP1⟩
                  have HWf : Hid (SW7 w0 blk off f w1) := hW1
                  have fZ : Hid (f.size = d.size) := hP1.1
                  have HPf : Hid (PermIn a b d f) := permIn_mono _ _ _ _ _ _ hs1 he2 hb hP1
                  have PP : Hid (Parted KE.cmp KE.ix a s mid e b f) := PT.out f hI1
                  clear hW1 hI1 hP1 hcr
                  have hc2 := HIH.out a s mid f w1 (by omega) HWf.out (by rw [fZ.out]; exact HD.out) (by omega) (by omega) (by rw [fZ.out]; omega) PP.out.s1 PP.out.s2 PP.out.x1
                  rw [fZ.out] at hc2
                  go_wp2_with fail
                  ((with_reducible refine hc2.mono ?_))
                  rintro e2 w2 ⟨rfl, g, hW2, hP2, hS2⟩
                  have HWg : Hid (SW7 w0 blk off g w2) := hW2
                  have gZ : Hid (g.size = d.size) := hP2.1.trans fZ.out
                  have gK : Hid (∀ x, PermIn mid b g x → Srt KE.cmp KE.ix mid b x → PermIn a b d x ∧ Srt KE.cmp KE.ix a b x) := fun x h1 h2 =>
                    ⟨permIn_trans _ _ _ _ _ HPf.out (permIn_trans _ _ _ _ _ (permIn_mono _ _ _ _ _ _ (Nat.le_refl _) (by omega) (by rw [fZ.out]; exact hb) hP2) (permIn_mono _ _ _ _ _ _ (by omega) (Nat.le_refl _) (by rw [gZ.out]; exact hb) h1)),
                      joined2 (by omega) (by rw [fZ.out]; exact hb) (by omega) PP.out.cross hP2 hS2 h1 h2⟩
                  have gQ : Hid (Srt KE.cmp KE.ix mid e g ∧ Srt KE.cmp KE.ix e b g ∧ ∀ p q, mid ≤ p → p < e → e ≤ q → q < b → KE.ix g[p]! < KE.ix g[q]!) :=
                    ⟨PP.out.s3.congr fun p h1 h2 => hP2.2.1 _ (.inr h1), PP.out.s4.congr fun p h1 h2 => hP2.2.1 _ (.inr (by omega)), fun p q h1 h2 h3 h4 => by
                      rw [hP2.2.1 p (.inr h1), hP2.2.1 q (.inr (by omega))]
                      exact PP.out.x2 p q h1 h2 h3 h4⟩
                  clear hW2 hP2 hS2 hc2
                  have hc3 := HIH.out mid e b g w2 (by omega) HWg.out (by rw [gZ.out]; exact HD.out) (by omega) (by omega) (by rw [gZ.out]; exact hb) gQ.out.1 gQ.out.2.1 gQ.out.2.2
                  rw [gZ.out] at hc3
                  go_wp2_with fail
                  all_goals
                    ((with_reducible refine hc3.mono ?_))
                    rintro e3 w3 ⟨rfl, f3, hW3, hP3, hS3⟩
                    go_wp2
                    go_end0
                    exact ⟨rfl, f3, hW3, gK.out f3 hP3 hS3⟩
                · have zas : (a : Int) < (s : Int) := by omega
                  have zsmid : (s : Int) < (mid : Int) := by omega
                  have zsm : (s : Int) < (m : Int) := by omega
                  have zeb : ¬ (e : Int) < (b : Int) := by omega
                  have zme : (m : Int) < (e : Int) := by omega
                  have zmide : (mid : Int) < (e : Int) := by omega
                  have hcr := rotate_any HR.out hsz (.func (.func 71) #[] #[]) cap s m e d wr HW.out HD.out (by omega) (by omega) (by omega)
                  go_wp2_with fail
                  ((with_reducible refine hcr.mono ?_))
                  rintro e1 w1 ⟨rfl, f, hW1, hI1, hP1⟩
                  have HWf : Hid (SW7 w0 blk off f w1) := hW1
                  have fZ : Hid (f.size = d.size) := hP1.1
                  have HPf : Hid (PermIn a b d f) := permIn_mono _ _ _ _ _ _ hs1 he2 hb hP1
                  have PP : Hid (Parted KE.cmp KE.ix a s mid e b f) := PT.out f hI1
                  clear hW1 hI1 hP1 hcr
                  have hc2 := HIH.out a s mid f w1 (by omega) HWf.out (by rw [fZ.out]; exact HD.out) (by omega) (by omega) (by rw [fZ.out]; omega) PP.out.s1 PP.out.s2 PP.out.x1
                  rw [fZ.out] at hc2
                  go_wp2_with fail
                  ((with_reducible refine hc2.mono ?_))
                  rintro e2 w2 ⟨rfl, g, hW2, hP2, hS2⟩
                  have HWg : Hid (SW7 w0 blk off g w2) := hW2
                  have gZ : Hid (g.size = d.size) := hP2.1.trans fZ.out
                  have gK : Hid (∀ x, PermIn mid b g x → Srt KE.cmp KE.ix mid b x → PermIn a b d x ∧ Srt KE.cmp KE.ix a b x) := fun x h1 h2 =>
                    ⟨permIn_trans _ _ _ _ _ HPf.out (permIn_trans _ _ _ _ _ (permIn_mono _ _ _ _ _ _ (Nat.le_refl _) (by omega) (by rw [fZ.out]; exact hb) hP2) (permIn_mono _ _ _ _ _ _ (by omega) (Nat.le_refl _) (by rw [gZ.out]; exact hb) h1)),
                      joined2 (by omega) (by rw [fZ.out]; exact hb) (by omega) PP.out.cross hP2 hS2 h1 h2⟩
                  have S3 : Hid (Srt KE.cmp KE.ix mid b g) := Srt.congr (d := f) (by
                      rw [show b = e by omega]
                      exact PP.out.s3) fun p h1 h2 => hP2.2.1 _ (.inr h1)
                  clear hW2 hP2 hS2 hc2
                  go_wp2
                  all_goals
                    go_end0
                    exact ⟨rfl, g, HWg.out, gK.out g (permIn_refl _ _ _) S3.out⟩
              · by_cases hD : e < b
                · have zas : ¬ (a : Int) < (s : Int) := by omega
                  have zsmid : (s : Int) < (mid : Int) := by omega
                  have zsm : (s : Int) < (m : Int) := by omega
                  have zeb : (e : Int) < (b : Int) := by omega
                  have zme : (m : Int) < (e : Int) := by omega
                  have zmide : (mid : Int) < (e : Int) := by omega
                  have hcr := rotate_any HR.out hsz (.func (.func 71) #[] #[]) cap s m e d wr HW.out HD.out (by omega) (by omega) (by omega)
                  go_wp2_with fail
                  ((with_reducible refine hcr.mono ?_))
                  rintro e1 w1 ⟨rfl, f, hW1, hI1, hP1⟩
                  have HWf : Hid (SW7 w0 blk off f w1) := hW1
                  have fZ : Hid (f.size = d.size) := hP1.1
                  have HPf : Hid (PermIn a b d f) := permIn_mono _ _ _ _ _ _ hs1 he2 hb hP1
                  have PP : Hid (Parted KE.cmp KE.ix a s mid e b f) := PT.out f hI1
                  clear hW1 hI1 hP1 hcr
                  have SA : Hid (Srt KE.cmp KE.ix a mid f) := (by
                    show Srt KE.cmp KE.ix a mid f
                    rw [show a = s by omega]
                    exact PP.out.s2)
                  have fK : Hid (∀ x, PermIn mid b f x → Srt KE.cmp KE.ix mid b x → PermIn a b d x ∧ Srt KE.cmp KE.ix a b x) := fun x h1 h2 =>
                    ⟨permIn_trans _ _ _ _ _ HPf.out (permIn_mono _ _ _ _ _ _ (by omega) (Nat.le_refl _) (by rw [fZ.out]; exact hb) h1),
                      joined2 (by omega) (by rw [fZ.out]; exact hb) (by omega) PP.out.cross (permIn_refl _ _ _) SA.out h1 h2⟩
                  have fQ : Hid (Srt KE.cmp KE.ix mid e f ∧ Srt KE.cmp KE.ix e b f ∧ ∀ p q, mid ≤ p → p < e → e ≤ q → q < b → KE.ix f[p]! < KE.ix f[q]!) := ⟨PP.out.s3, PP.out.s4, PP.out.x2⟩
                  have hc3 := HIH.out mid e b f w1 (by omega) HWf.out (by rw [fZ.out]; exact HD.out) (by omega) (by omega) (by rw [fZ.out]; exact hb) fQ.out.1 fQ.out.2.1 fQ.out.2.2
                  rw [fZ.out] at hc3
                  go_wp2_with fail
                  all_goals
                    ((with_reducible refine hc3.mono ?_))
                    rintro e3 w3 ⟨rfl, f3, hW3, hP3, hS3⟩
                    go_wp2
                    go_end0
                    exact ⟨rfl, f3, hW3, fK.out f3 hP3 hS3⟩
                · have zas : ¬ (a : Int) < (s : Int) := by omega
                  have zsmid : (s : Int) < (mid : Int) := by omega
                  have zsm : (s : Int) < (m : Int) := by omega
                  have zeb : ¬ (e : Int) < (b : Int) := by omega
                  have zme : (m : Int) < (e : Int) := by omega
                  have zmide : (mid : Int) < (e : Int) := by omega
                  have hcr := rotate_any HR.out hsz (.func (.func 71) #[] #[]) cap s m e d wr HW.out HD.out (by omega) (by omega) (by omega)
                  go_wp2_with fail
                  ((with_reducible refine hcr.mono ?_))
                  rintro e1 w1 ⟨rfl, f, hW1, hI1, hP1⟩
                  have HWf : Hid (SW7 w0 blk off f w1) := hW1
                  have fZ : Hid (f.size = d.size) := hP1.1
                  have HPf : Hid (PermIn a b d f) := permIn_mono _ _ _ _ _ _ hs1 he2 hb hP1
                  have PP : Hid (Parted KE.cmp KE.ix a s mid e b f) := PT.out f hI1
                  clear hW1 hI1 hP1 hcr
                  have SA : Hid (Srt KE.cmp KE.ix a mid f) := (by
                    show Srt KE.cmp KE.ix a mid f
                    rw [show a = s by omega]
                    exact PP.out.s2)
                  have fK : Hid (∀ x, PermIn mid b f x → Srt KE.cmp KE.ix mid b x → PermIn a b d x ∧ Srt KE.cmp KE.ix a b x) := fun x h1 h2 =>
                    ⟨permIn_trans _ _ _ _ _ HPf.out (permIn_mono _ _ _ _ _ _ (by omega) (Nat.le_refl _) (by rw [fZ.out]; exact hb) h1),
                      joined2 (by omega) (by rw [fZ.out]; exact hb) (by omega) PP.out.cross (permIn_refl _ _ _) SA.out h1 h2⟩
                  have S3 : Hid (Srt KE.cmp KE.ix mid b f) := (by
                    show Srt KE.cmp KE.ix mid b f
                    rw [show b = e by omega]
                    exact PP.out.s3)
                  go_wp2
                  all_goals
                    go_end0
                    exact ⟨rfl, f, HWf.out, fK.out f (permIn_refl _ _ _) S3.out⟩
            · by_cases hA : a < s
              · have zas : (a : Int) < (s : Int) := by omega
                have zsmid : (s : Int) < (mid : Int) := by omega
                have zsm : ¬ (s : Int) < (m : Int) := by omega
                have zme : (m : Int) < (e : Int) := by omega
                have zmide : ¬ (mid : Int) < (e : Int) := by omega
                obtain ⟨f, hf⟩ : ∃ f, f = d := ⟨_, rfl⟩
                have HWf : Hid (SW7 w0 blk off f wr) := by rw [hf]; exact HW
                have fZ : Hid (f.size = d.size) := by rw [hf]; exact rfl
                have HPf : Hid (PermIn a b d f) := by rw [hf]; exact permIn_refl _ _ _
                have PP : Hid (Parted KE.cmp KE.ix a s mid e b f) := by
                  rw [hf]
                  exact PT.out d ⟨rfl, fun t q1 q2 => at_eq (by omega), fun t q1 q2 => at_eq (by omega), fun t _ => rfl⟩
                clear hf
                have hc2 := HIH.out a s mid f wr (by omega) HWf.out (by rw [fZ.out]; exact HD.out) (by omega) (by omega) (by rw [fZ.out]; omega) PP.out.s1 PP.out.s2 PP.out.x1
                rw [fZ.out] at hc2
                go_wp2_with fail
                ((with_reducible refine hc2.mono ?_))
                rintro e2 w2 ⟨rfl, g, hW2, hP2, hS2⟩
                have HWg : Hid (SW7 w0 blk off g w2) := hW2
                have gZ : Hid (g.size = d.size) := hP2.1.trans fZ.out
                have gK : Hid (∀ x, PermIn mid b g x → Srt KE.cmp KE.ix mid b x → PermIn a b d x ∧ Srt KE.cmp KE.ix a b x) := fun x h1 h2 =>
                  ⟨permIn_trans _ _ _ _ _ HPf.out (permIn_trans _ _ _ _ _ (permIn_mono _ _ _ _ _ _ (Nat.le_refl _) (by omega) (by rw [fZ.out]; exact hb) hP2) (permIn_mono _ _ _ _ _ _ (by omega) (Nat.le_refl _) (by rw [gZ.out]; exact hb) h1)),
                    joined2 (by omega) (by rw [fZ.out]; exact hb) (by omega) PP.out.cross hP2 hS2 h1 h2⟩
                have S3 : Hid (Srt KE.cmp KE.ix mid b g) := Srt.congr (d := f) (by
                    rw [show mid = e by omega]
                    exact PP.out.s4) fun p h1 h2 => hP2.2.1 _ (.inr h1)
                clear hW2 hP2 hS2 hc2
                go_wp2
                all_goals
                  go_end0
                  exact ⟨rfl, g, HWg.out, gK.out g (permIn_refl _ _ _) S3.out⟩
              · have zas : ¬ (a : Int) < (s : Int) := by omega
                have zsmid : (s : Int) < (mid : Int) := by omega
                have zsm : ¬ (s : Int) < (m : Int) := by omega
                have zme : (m : Int) < (e : Int) := by omega
                have zmide : ¬ (mid : Int) < (e : Int) := by omega
                obtain ⟨f, hf⟩ : ∃ f, f = d := ⟨_, rfl⟩
                have HWf : Hid (SW7 w0 blk off f wr) := by rw [hf]; exact HW
                have fZ : Hid (f.size = d.size) := by rw [hf]; exact rfl
                have HPf : Hid (PermIn a b d f) := by rw [hf]; exact permIn_refl _ _ _
                have PP : Hid (Parted KE.cmp KE.ix a s mid e b f) := by
                  rw [hf]
                  exact PT.out d ⟨rfl, fun t q1 q2 => at_eq (by omega), fun t q1 q2 => at_eq (by omega), fun t _ => rfl⟩
                clear hf
                have SA : Hid (Srt KE.cmp KE.ix a mid f) := (by
                  show Srt KE.cmp KE.ix a mid f
                  rw [show a = s by omega]
                  exact PP.out.s2)
                have fK : Hid (∀ x, PermIn mid b f x → Srt KE.cmp KE.ix mid b x → PermIn a b d x ∧ Srt KE.cmp KE.ix a b x) := fun x h1 h2 =>
                  ⟨permIn_trans _ _ _ _ _ HPf.out (permIn_mono _ _ _ _ _ _ (by omega) (Nat.le_refl _) (by rw [fZ.out]; exact hb) h1),
                    joined2 (by omega) (by rw [fZ.out]; exact hb) (by omega) PP.out.cross (permIn_refl _ _ _) SA.out h1 h2⟩
                have S3 : Hid (Srt KE.cmp KE.ix mid b f) := (by
                  show Srt KE.cmp KE.ix mid b f
                  rw [show mid = e by omega]
                  exact PP.out.s4)
                go_wp2
                all_goals
                  go_end0
                  exact ⟨rfl, f, HWf.out, fK.out f (permIn_refl _ _ _) S3.out⟩
          · by_cases hC : s < m
            · by_cases hD : e < b
              · have zsmid : ¬ (s : Int) < (mid : Int) := by omega
                have zsm : (s : Int) < (m : Int) := by omega
                have zeb : (e : Int) < (b : Int) := by omega
                have zme : ¬ (m : Int) < (e : Int) := by omega
                have zmide : (mid : Int) < (e : Int) := by omega
                obtain ⟨f, hf⟩ : ∃ f, f = d := ⟨_, rfl⟩
                have HWf : Hid (SW7 w0 blk off f wr) := by rw [hf]; exact HW
                have fZ : Hid (f.size = d.size) := by rw [hf]; exact rfl
                have HPf : Hid (PermIn a b d f) := by rw [hf]; exact permIn_refl _ _ _
                have PP : Hid (Parted KE.cmp KE.ix a s mid e b f) := by
                  rw [hf]
                  exact PT.out d ⟨rfl, fun t q1 q2 => at_eq (by omega), fun t q1 q2 => at_eq (by omega), fun t _ => rfl⟩
                clear hf
                have SA : Hid (Srt KE.cmp KE.ix a mid f) := (by
                  show Srt KE.cmp KE.ix a mid f
                  rw [show mid = s by omega]
                  exact PP.out.s1)
                have fK : Hid (∀ x, PermIn mid b f x → Srt KE.cmp KE.ix mid b x → PermIn a b d x ∧ Srt KE.cmp KE.ix a b x) := fun x h1 h2 =>
                  ⟨permIn_trans _ _ _ _ _ HPf.out (permIn_mono _ _ _ _ _ _ (by omega) (Nat.le_refl _) (by rw [fZ.out]; exact hb) h1),
                    joined2 (by omega) (by rw [fZ.out]; exact hb) (by omega) PP.out.cross (permIn_refl _ _ _) SA.out h1 h2⟩
                have fQ : Hid (Srt KE.cmp KE.ix mid e f ∧ Srt KE.cmp KE.ix e b f ∧ ∀ p q, mid ≤ p → p < e → e ≤ q → q < b → KE.ix f[p]! < KE.ix f[q]!) := ⟨PP.out.s3, PP.out.s4, PP.out.x2⟩
                have hc3 := HIH.out mid e b f wr (by omega) HWf.out (by rw [fZ.out]; exact HD.out) (by omega) (by omega) (by rw [fZ.out]; exact hb) fQ.out.1 fQ.out.2.1 fQ.out.2.2
                rw [fZ.out] at hc3
                go_wp2_with fail
                all_goals
                  ((with_reducible refine hc3.mono ?_))
                  rintro e3 w3 ⟨rfl, f3, hW3, hP3, hS3⟩
                  go_wp2
                  go_end0
                  exact ⟨rfl, f3, hW3, fK.out f3 hP3 hS3⟩
              · have zsmid : ¬ (s : Int) < (mid : Int) := by omega
                have zsm : (s : Int) < (m : Int) := by omega
                have zeb : ¬ (e : Int) < (b : Int) := by omega
                have zme : ¬ (m : Int) < (e : Int) := by omega
                have zmide : (mid : Int) < (e : Int) := by omega
                obtain ⟨f, hf⟩ : ∃ f, f = d := ⟨_, rfl⟩
                have HWf : Hid (SW7 w0 blk off f wr) := by rw [hf]; exact HW
                have fZ : Hid (f.size = d.size) := by rw [hf]; exact rfl
                have HPf : Hid (PermIn a b d f) := by rw [hf]; exact permIn_refl _ _ _
                have PP : Hid (Parted KE.cmp KE.ix a s mid e b f) := by
                  rw [hf]
                  exact PT.out d ⟨rfl, fun t q1 q2 => at_eq (by omega), fun t q1 q2 => at_eq (by omega), fun t _ => rfl⟩
                clear hf
                have SA : Hid (Srt KE.cmp KE.ix a mid f) := (by
                  show Srt KE.cmp KE.ix a mid f
                  rw [show mid = s by omega]
                  exact PP.out.s1)
                have fK : Hid (∀ x, PermIn mid b f x → Srt KE.cmp KE.ix mid b x → PermIn a b d x ∧ Srt KE.cmp KE.ix a b x) := fun x h1 h2 =>
                  ⟨permIn_trans _ _ _ _ _ HPf.out (permIn_mono _ _ _ _ _ _ (by omega) (Nat.le_refl _) (by rw [fZ.out]; exact hb) h1),
                    joined2 (by omega) (by rw [fZ.out]; exact hb) (by omega) PP.out.cross (permIn_refl _ _ _) SA.out h1 h2⟩
                have S3 : Hid (Srt KE.cmp KE.ix mid b f) := (by
                  show Srt KE.cmp KE.ix mid b f
                  rw [show b = e by omega]
                  exact PP.out.s3)
                go_wp2
                all_goals
                  go_end0
                  exact ⟨rfl, f, HWf.out, fK.out f (permIn_refl _ _ _) S3.out⟩
            · have zsmid : ¬ (s : Int) < (mid : Int) := by omega
              have zsm : ¬ (s : Int) < (m : Int) := by omega
              have zme : ¬ (m : Int) < (e : Int) := by omega
              have zmide : ¬ (mid : Int) < (e : Int) := by omega
              obtain ⟨f, hf⟩ : ∃ f, f = d := ⟨_, rfl⟩
              have HWf : Hid (SW7 w0 blk off f wr) := by rw [hf]; exact HW
              have fZ : Hid (f.size = d.size) := by rw [hf]; exact rfl
              have HPf : Hid (PermIn a b d f) := by rw [hf]; exact permIn_refl _ _ _
              have PP : Hid (Parted KE.cmp KE.ix a s mid e b f) := by
                rw [hf]
                exact PT.out d ⟨rfl, fun t q1 q2 => at_eq (by omega), fun t q1 q2 => at_eq (by omega), fun t _ => rfl⟩
              clear hf
              have SA : Hid (Srt KE.cmp KE.ix a mid f) := (by
                show Srt KE.cmp KE.ix a mid f
                rw [show mid = s by omega]
                exact PP.out.s1)
              have fK : Hid (∀ x, PermIn mid b f x → Srt KE.cmp KE.ix mid b x → PermIn a b d x ∧ Srt KE.cmp KE.ix a b x) := fun x h1 h2 =>
                ⟨permIn_trans _ _ _ _ _ HPf.out (permIn_mono _ _ _ _ _ _ (by omega) (Nat.le_refl _) (by rw [fZ.out]; exact hb) h1),
                  joined2 (by omega) (by rw [fZ.out]; exact hb) (by omega) PP.out.cross (permIn_refl _ _ _) SA.out h1 h2⟩
              have S3 : Hid (Srt KE.cmp KE.ix mid b f) := (by
                show Srt KE.cmp KE.ix mid b f
                rw [show mid = e by omega]
                exact PP.out.s4)
              go_wp2
              all_goals
                go_end0
                exact ⟨rfl, f, HWf.out, fK.out f (permIn_refl _ _ _) S3.out⟩
    · have hg1 : decide ((m : Int) > (mid : Int)) = false := by simp; omega
      go_enter Tryz.func91, Tryz.ntmps91
      go_wp2
      go_loopg [20, 21] (m - a) (fun g vi vj wr => ∃ (i j : Nat), vi = .int .i64 i ∧ vj = .int .i64 j ∧ a ≤ i ∧ i ≤ j ∧ j ≤ m ∧ j - i ≤ g ∧ Hid (SW7 w0 blk off d wr) ∧ Hid ((i = a ∨ ¬ KE.cmp d[mid + m - i]! d[i - 1]! < 0) ∧ (j = m ∨ KE.cmp d[mid + m - 1 - j]! d[j]! < 0)))
      case atStart => exact ⟨a, m, by first | rfl | go_num | (congr 1; omega), rfl, by omega, by omega, by omega, by omega, HS, ⟨.inl rfl, .inl rfl⟩⟩
      case round =>
        obtain ⟨i, j, rfl, rfl, hi, hij, hj, hg, HW, HI⟩ := hrel
        by_cases hlt : i < j
        · have hltz : (i : Int) < (j : Int) := by omega
          obtain ⟨h, hh⟩ : ∃ h, h = (i + j) / 2 := ⟨_, rfl⟩
          have eh : ((i : Int) + (j : Int)) / 2 = (h : Int) := by omega
          have h1 : i ≤ h := by omega
          have h2 : h < j := by omega
          obtain ⟨y, hy⟩ : ∃ y, y = mid + m - 1 - h := ⟨_, rfl⟩
          have ey : (mid : Int) + (m : Int) - 1 - (h : Int) = (y : Int) := by omega
          have eyw : IntKind.i64.wrap (y : Int) = (y : Int) := by rw [IntKind.wrap_i64]; omega
          have hyb : y < b := by omega
          have HH : Hid (h = (i + j) / 2 ∧ y = mid + m - 1 - h) := ⟨hh, hy⟩
          obtain ⟨r, hr⟩ : ∃ r, KE.cmp d[y]! d[h]! = r := ⟨_, rfl⟩
          clear hh hy
          obtain ⟨u0, u1, u2, u3, u4, u5, u6, hu, cu⟩ := cells7 HW.out HR.out HD.out (y) (by omega)
          obtain ⟨v0, v1, v2, v3, v4, v5, v6, hv, cv⟩ := cells7 HW.out HR.out HD.out (h) (by omega)
          obtain ⟨ca, hca⟩ : ∃ c, c = (d[y]!).enc := ⟨_, rfl⟩
          obtain ⟨cb, hcb⟩ : ∃ c, c = (d[h]!).enc := ⟨_, rfl⟩
          have hs1 : ca.length = 7 := by rw [hca]; rfl
          have hs2 : cb.length = 7 := by rw [hcb]; rfl
          have fu : #[u0, u1, u2, u3, u4, u5, u6] = ca.toArray := by rw [hca, hu]
          have fv : #[v0, v1, v2, v3, v4, v5, v6] = cb.toArray := by rw [hcb, hv]
          have hcg : ∀ n os, Calls Tryz.prog 71 #[.agg ca.toArray, .agg cb.toArray] (grow (wr.drewN n) os) fun e w' => e = .returned (.int .i64 r) ∧ ∃ q os', w' = grow ((grow (wr.drewN n) os).drewN q) os' := fun n os => by
            rw [hca, hcb, ← hr]
            exact keycmp_any _ _ _
          have a0 := fun n os => (cu n os).1
          have a1 := fun n os => (cu n os).2.1
          have a2 := fun n os => (cu n os).2.2.1
          have a3 := fun n os => (cu n os).2.2.2.1
          have a4 := fun n os => (cu n os).2.2.2.2.1
          have a5 := fun n os => (cu n os).2.2.2.2.2.1
          have a6 := fun n os => (cu n os).2.2.2.2.2.2
          have b0 := fun n os => (cv n os).1
          have b1 := fun n os => (cv n os).2.1
          have b2 := fun n os => (cv n os).2.2.1
          have b3 := fun n os => (cv n os).2.2.2.1
          have b4 := fun n os => (cv n os).2.2.2.2.1
          have b5 := fun n os => (cv n os).2.2.2.2.2.1
          have b6 := fun n os => (cv n os).2.2.2.2.2.2
          have zi : ((y : Nat) : Int) < (d.size : Int) := by omega
          have zj : ((h : Nat) : Int) < (d.size : Int) := by omega
          clear cu cv hu hv hca hcb
          have HRR : Hid (KE.cmp d[y]! d[h]! = r) := hr
          clear hr
          by_cases hr0 : r < 0
          · have hr1 : decide (r < 0) = true := by simpa using hr0
            go_wp2_with fail
            go_quiet_grown (first | (go_at_call 71; refine Calls.grown_of (hcg _ _)))
            go_wp2
            go_roundg (h - i)
            case measure => omega
            case rel => exact ⟨i, h, rfl, rfl, by omega, by omega, by omega, Nat.le_refl _, (show Hid _ from HW.out.grown nq osq), ⟨HI.out.1, .inr (by rw [← HH.out.2, HRR.out]; exact hr0)⟩⟩
          · have hr1 : decide (r < 0) = false := by simpa using hr0
            go_wp2_with fail
            go_quiet_grown (first | (go_at_call 71; refine Calls.grown_of (hcg _ _)))
            go_wp2
            go_roundg (j - (h + 1))
            case measure => omega
            case rel => exact ⟨h + 1, j, by go_num, rfl, by omega, by omega, by omega, Nat.le_refl _, (show Hid _ from HW.out.grown nq osq), ⟨.inr (by have e := HH.out.2; rw [show mid + m - (h + 1) = y by omega, Nat.add_sub_cancel, HRR.out]; exact hr0), HI.out.2⟩⟩
        · have e : j = i := by omega
          subst e
          clear hlt
          obtain ⟨s, hs⟩ : ∃ s, s = j := ⟨_, rfl⟩
          subst hs
          obtain ⟨e, he⟩ : ∃ e, e = mid + m - s := ⟨_, rfl⟩
          have ee : (mid : Int) + (m : Int) - (s : Int) = (e : Int) := by omega
          have hs1 : a ≤ s := by omega
          have hs2 : s ≤ m := by omega
          have hs3 : s ≤ mid := by omega
          have he1 : m ≤ e := by omega
          have he2 : e ≤ b := by omega
          have he3 : mid + m = s + e := by omega
          have b1 : Hid (s = a ∨ e = b ∨ ¬ KE.cmp d[e]! d[s - 1]! < 0) := by
            rcases HI.out.1 with q | q
            · exact .inl q
            · refine .inr (.inr ?_)
              rw [he]
              omega
          have b2 : Hid (s = m ∨ e = m ∨ KE.cmp d[e - 1]! d[s]! < 0) := by
            rcases HI.out.2 with q | q
            · exact .inl q
            · refine .inr (.inr ?_)
              rw [show e - 1 = mid + m - 1 - s by omega]
              exact q
          have PT : Hid (∀ f, IsRot s m e d f → Parted KE.cmp KE.ix a s mid e b f) := fun f hf => by
            rw [show mid = s + (e - m) by omega]
            exact parted keycmp_ok hs1 hs2 he1 he2 hf HX.out.1 HX.out.2.1 HX.out.2.2 b1.out b2.out
          clear he b1 b2 HI
          by_cases hB : s < mid
          · by_cases hC : s < m
            · by_cases hA : a < s
              · by_cases hD : e < b
                · have zas : (a : Int) < (s : Int) := by omega
                  have zsmid : (s : Int) < (mid : Int) := by omega
                  have zsm : (s : Int) < (m : Int) := by omega
                  have zeb : (e : Int) < (b : Int) := by omega
                  have zme : (m : Int) < (e : Int) := by omega
                  have zmide : (mid : Int) < (e : Int) := by omega
                  have hcr := rotate_any HR.out hsz (.func (.func 71) #[] #[]) cap s m e d wr HW.out HD.out (by omega) (by omega) (by omega)
                  go_wp2_with fail
                  ((with_reducible refine hcr.mono ?_))
                  rintro e1 w1 ⟨rfl, f, hW1, hI1, hP1⟩
                  have HWf : Hid (SW7 w0 blk off f w1) := hW1
                  have fZ : Hid (f.size = d.size) := hP1.1
                  have HPf : Hid (PermIn a b d f) := permIn_mono _ _ _ _ _ _ hs1 he2 hb hP1
                  have PP : Hid (Parted KE.cmp KE.ix a s mid e b f) := PT.out f hI1
                  clear hW1 hI1 hP1 hcr
                  have hc2 := HIH.out a s mid f w1 (by omega) HWf.out (by rw [fZ.out]; exact HD.out) (by omega) (by omega) (by rw [fZ.out]; omega) PP.out.s1 PP.out.s2 PP.out.x1
                  rw [fZ.out] at hc2
                  go_wp2_with fail
                  ((with_reducible refine hc2.mono ?_))
                  rintro e2 w2 ⟨rfl, g, hW2, hP2, hS2⟩
                  have HWg : Hid (SW7 w0 blk off g w2) := hW2
                  have gZ : Hid (g.size = d.size) := hP2.1.trans fZ.out
                  have gK : Hid (∀ x, PermIn mid b g x → Srt KE.cmp KE.ix mid b x → PermIn a b d x ∧ Srt KE.cmp KE.ix a b x) := fun x h1 h2 =>
                    ⟨permIn_trans _ _ _ _ _ HPf.out (permIn_trans _ _ _ _ _ (permIn_mono _ _ _ _ _ _ (Nat.le_refl _) (by omega) (by rw [fZ.out]; exact hb) hP2) (permIn_mono _ _ _ _ _ _ (by omega) (Nat.le_refl _) (by rw [gZ.out]; exact hb) h1)),
                      joined2 (by omega) (by rw [fZ.out]; exact hb) (by omega) PP.out.cross hP2 hS2 h1 h2⟩
                  have gQ : Hid (Srt KE.cmp KE.ix mid e g ∧ Srt KE.cmp KE.ix e b g ∧ ∀ p q, mid ≤ p → p < e → e ≤ q → q < b → KE.ix g[p]! < KE.ix g[q]!) :=
                    ⟨PP.out.s3.congr fun p h1 h2 => hP2.2.1 _ (.inr h1), PP.out.s4.congr fun p h1 h2 => hP2.2.1 _ (.inr (by omega)), fun p q h1 h2 h3 h4 => by
                      rw [hP2.2.1 p (.inr h1), hP2.2.1 q (.inr (by omega))]
                      exact PP.out.x2 p q h1 h2 h3 h4⟩
                  clear hW2 hP2 hS2 hc2
                  have hc3 := HIH.out mid e b g w2 (by omega) HWg.out (by rw [gZ.out]; exact HD.out) (by omega) (by omega) (by rw [gZ.out]; exact hb) gQ.out.1 gQ.out.2.1 gQ.out.2.2
                  rw [gZ.out] at hc3
                  go_wp2_with fail
                  all_goals
                    ((with_reducible refine hc3.mono ?_))
                    rintro e3 w3 ⟨rfl, f3, hW3, hP3, hS3⟩
                    go_wp2
                    go_end0
                    exact ⟨rfl, f3, hW3, gK.out f3 hP3 hS3⟩
                · have zas : (a : Int) < (s : Int) := by omega
                  have zsmid : (s : Int) < (mid : Int) := by omega
                  have zsm : (s : Int) < (m : Int) := by omega
                  have zeb : ¬ (e : Int) < (b : Int) := by omega
                  have zme : (m : Int) < (e : Int) := by omega
                  have zmide : (mid : Int) < (e : Int) := by omega
                  have hcr := rotate_any HR.out hsz (.func (.func 71) #[] #[]) cap s m e d wr HW.out HD.out (by omega) (by omega) (by omega)
                  go_wp2_with fail
                  ((with_reducible refine hcr.mono ?_))
                  rintro e1 w1 ⟨rfl, f, hW1, hI1, hP1⟩
                  have HWf : Hid (SW7 w0 blk off f w1) := hW1
                  have fZ : Hid (f.size = d.size) := hP1.1
                  have HPf : Hid (PermIn a b d f) := permIn_mono _ _ _ _ _ _ hs1 he2 hb hP1
                  have PP : Hid (Parted KE.cmp KE.ix a s mid e b f) := PT.out f hI1
                  clear hW1 hI1 hP1 hcr
                  have hc2 := HIH.out a s mid f w1 (by omega) HWf.out (by rw [fZ.out]; exact HD.out) (by omega) (by omega) (by rw [fZ.out]; omega) PP.out.s1 PP.out.s2 PP.out.x1
                  rw [fZ.out] at hc2
                  go_wp2_with fail
                  ((with_reducible refine hc2.mono ?_))
                  rintro e2 w2 ⟨rfl, g, hW2, hP2, hS2⟩
                  have HWg : Hid (SW7 w0 blk off g w2) := hW2
                  have gZ : Hid (g.size = d.size) := hP2.1.trans fZ.out
                  have gK : Hid (∀ x, PermIn mid b g x → Srt KE.cmp KE.ix mid b x → PermIn a b d x ∧ Srt KE.cmp KE.ix a b x) := fun x h1 h2 =>
                    ⟨permIn_trans _ _ _ _ _ HPf.out (permIn_trans _ _ _ _ _ (permIn_mono _ _ _ _ _ _ (Nat.le_refl _) (by omega) (by rw [fZ.out]; exact hb) hP2) (permIn_mono _ _ _ _ _ _ (by omega) (Nat.le_refl _) (by rw [gZ.out]; exact hb) h1)),
                      joined2 (by omega) (by rw [fZ.out]; exact hb) (by omega) PP.out.cross hP2 hS2 h1 h2⟩
                  have S3 : Hid (Srt KE.cmp KE.ix mid b g) := Srt.congr (d := f) (by
                      rw [show b = e by omega]
                      exact PP.out.s3) fun p h1 h2 => hP2.2.1 _ (.inr h1)
                  clear hW2 hP2 hS2 hc2
                  go_wp2
                  all_goals
                    go_end0
                    exact ⟨rfl, g, HWg.out, gK.out g (permIn_refl _ _ _) S3.out⟩
              · by_cases hD : e < b
                · have zas : ¬ (a : Int) < (s : Int) := by omega
                  have zsmid : (s : Int) < (mid : Int) := by omega
                  have zsm : (s : Int) < (m : Int) := by omega
                  have zeb : (e : Int) < (b : Int) := by omega
                  have zme : (m : Int) < (e : Int) := by omega
                  have zmide : (mid : Int) < (e : Int) := by omega
                  have hcr := rotate_any HR.out hsz (.func (.func 71) #[] #[]) cap s m e d wr HW.out HD.out (by omega) (by omega) (by omega)
                  go_wp2_with fail
                  ((with_reducible refine hcr.mono ?_))
                  rintro e1 w1 ⟨rfl, f, hW1, hI1, hP1⟩
                  have HWf : Hid (SW7 w0 blk off f w1) := hW1
                  have fZ : Hid (f.size = d.size) := hP1.1
                  have HPf : Hid (PermIn a b d f) := permIn_mono _ _ _ _ _ _ hs1 he2 hb hP1
                  have PP : Hid (Parted KE.cmp KE.ix a s mid e b f) := PT.out f hI1
                  clear hW1 hI1 hP1 hcr
                  have SA : Hid (Srt KE.cmp KE.ix a mid f) := (by
                    show Srt KE.cmp KE.ix a mid f
                    rw [show a = s by omega]
                    exact PP.out.s2)
                  have fK : Hid (∀ x, PermIn mid b f x → Srt KE.cmp KE.ix mid b x → PermIn a b d x ∧ Srt KE.cmp KE.ix a b x) := fun x h1 h2 =>
                    ⟨permIn_trans _ _ _ _ _ HPf.out (permIn_mono _ _ _ _ _ _ (by omega) (Nat.le_refl _) (by rw [fZ.out]; exact hb) h1),
                      joined2 (by omega) (by rw [fZ.out]; exact hb) (by omega) PP.out.cross (permIn_refl _ _ _) SA.out h1 h2⟩
                  have fQ : Hid (Srt KE.cmp KE.ix mid e f ∧ Srt KE.cmp KE.ix e b f ∧ ∀ p q, mid ≤ p → p < e → e ≤ q → q < b → KE.ix f[p]! < KE.ix f[q]!) := ⟨PP.out.s3, PP.out.s4, PP.out.x2⟩
                  have hc3 := HIH.out mid e b f w1 (by omega) HWf.out (by rw [fZ.out]; exact HD.out) (by omega) (by omega) (by rw [fZ.out]; exact hb) fQ.out.1 fQ.out.2.1 fQ.out.2.2
                  rw [fZ.out] at hc3
                  go_wp2_with fail
                  all_goals
                    ((with_reducible refine hc3.mono ?_))
                    rintro e3 w3 ⟨rfl, f3, hW3, hP3, hS3⟩
                    go_wp2
                    go_end0
                    exact ⟨rfl, f3, hW3, fK.out f3 hP3 hS3⟩
                · have zas : ¬ (a : Int) < (s : Int) := by omega
                  have zsmid : (s : Int) < (mid : Int) := by omega
                  have zsm : (s : Int) < (m : Int) := by omega
                  have zeb : ¬ (e : Int) < (b : Int) := by omega
                  have zme : (m : Int) < (e : Int) := by omega
                  have zmide : (mid : Int) < (e : Int) := by omega
                  have hcr := rotate_any HR.out hsz (.func (.func 71) #[] #[]) cap s m e d wr HW.out HD.out (by omega) (by omega) (by omega)
                  go_wp2_with fail
                  ((with_reducible refine hcr.mono ?_))
                  rintro e1 w1 ⟨rfl, f, hW1, hI1, hP1⟩
                  have HWf : Hid (SW7 w0 blk off f w1) := hW1
                  have fZ : Hid (f.size = d.size) := hP1.1
                  have HPf : Hid (PermIn a b d f) := permIn_mono _ _ _ _ _ _ hs1 he2 hb hP1
                  have PP : Hid (Parted KE.cmp KE.ix a s mid e b f) := PT.out f hI1
                  clear hW1 hI1 hP1 hcr
                  have SA : Hid (Srt KE.cmp KE.ix a mid f) := (by
                    show Srt KE.cmp KE.ix a mid f
                    rw [show a = s by omega]
                    exact PP.out.s2)
                  have fK : Hid (∀ x, PermIn mid b f x → Srt KE.cmp KE.ix mid b x → PermIn a b d x ∧ Srt KE.cmp KE.ix a b x) := fun x h1 h2 =>
                    ⟨permIn_trans _ _ _ _ _ HPf.out (permIn_mono _ _ _ _ _ _ (by omega) (Nat.le_refl _) (by rw [fZ.out]; exact hb) h1),
                      joined2 (by omega) (by rw [fZ.out]; exact hb) (by omega) PP.out.cross (permIn_refl _ _ _) SA.out h1 h2⟩
                  have S3 : Hid (Srt KE.cmp KE.ix mid b f) := (by
                    show Srt KE.cmp KE.ix mid b f
                    rw [show b = e by omega]
                    exact PP.out.s3)
                  go_wp2
                  all_goals
                    go_end0
                    exact ⟨rfl, f, HWf.out, fK.out f (permIn_refl _ _ _) S3.out⟩
            · by_cases hA : a < s
              · have zas : (a : Int) < (s : Int) := by omega
                have zsmid : (s : Int) < (mid : Int) := by omega
                have zsm : ¬ (s : Int) < (m : Int) := by omega
                have zme : (m : Int) < (e : Int) := by omega
                have zmide : ¬ (mid : Int) < (e : Int) := by omega
                obtain ⟨f, hf⟩ : ∃ f, f = d := ⟨_, rfl⟩
                have HWf : Hid (SW7 w0 blk off f wr) := by rw [hf]; exact HW
                have fZ : Hid (f.size = d.size) := by rw [hf]; exact rfl
                have HPf : Hid (PermIn a b d f) := by rw [hf]; exact permIn_refl _ _ _
                have PP : Hid (Parted KE.cmp KE.ix a s mid e b f) := by
                  rw [hf]
                  exact PT.out d ⟨rfl, fun t q1 q2 => at_eq (by omega), fun t q1 q2 => at_eq (by omega), fun t _ => rfl⟩
                clear hf
                have hc2 := HIH.out a s mid f wr (by omega) HWf.out (by rw [fZ.out]; exact HD.out) (by omega) (by omega) (by rw [fZ.out]; omega) PP.out.s1 PP.out.s2 PP.out.x1
                rw [fZ.out] at hc2
                go_wp2_with fail
                ((with_reducible refine hc2.mono ?_))
                rintro e2 w2 ⟨rfl, g, hW2, hP2, hS2⟩
                have HWg : Hid (SW7 w0 blk off g w2) := hW2
                have gZ : Hid (g.size = d.size) := hP2.1.trans fZ.out
                have gK : Hid (∀ x, PermIn mid b g x → Srt KE.cmp KE.ix mid b x → PermIn a b d x ∧ Srt KE.cmp KE.ix a b x) := fun x h1 h2 =>
                  ⟨permIn_trans _ _ _ _ _ HPf.out (permIn_trans _ _ _ _ _ (permIn_mono _ _ _ _ _ _ (Nat.le_refl _) (by omega) (by rw [fZ.out]; exact hb) hP2) (permIn_mono _ _ _ _ _ _ (by omega) (Nat.le_refl _) (by rw [gZ.out]; exact hb) h1)),
                    joined2 (by omega) (by rw [fZ.out]; exact hb) (by omega) PP.out.cross hP2 hS2 h1 h2⟩
                have S3 : Hid (Srt KE.cmp KE.ix mid b g) := Srt.congr (d := f) (by
                    rw [show mid = e by omega]
                    exact PP.out.s4) fun p h1 h2 => hP2.2.1 _ (.inr h1)
                clear hW2 hP2 hS2 hc2
                go_wp2
                all_goals
                  go_end0
                  exact ⟨rfl, g, HWg.out, gK.out g (permIn_refl _ _ _) S3.out⟩
              · have zas : ¬ (a : Int) < (s : Int) := by omega
                have zsmid : (s : Int) < (mid : Int) := by omega
                have zsm : ¬ (s : Int) < (m : Int) := by omega
                have zme : (m : Int) < (e : Int) := by omega
                have zmide : ¬ (mid : Int) < (e : Int) := by omega
                obtain ⟨f, hf⟩ : ∃ f, f = d := ⟨_, rfl⟩
                have HWf : Hid (SW7 w0 blk off f wr) := by rw [hf]; exact HW
                have fZ : Hid (f.size = d.size) := by rw [hf]; exact rfl
                have HPf : Hid (PermIn a b d f) := by rw [hf]; exact permIn_refl _ _ _
                have PP : Hid (Parted KE.cmp KE.ix a s mid e b f) := by
                  rw [hf]
                  exact PT.out d ⟨rfl, fun t q1 q2 => at_eq (by omega), fun t q1 q2 => at_eq (by omega), fun t _ => rfl⟩
                clear hf
                have SA : Hid (Srt KE.cmp KE.ix a mid f) := (by
                  show Srt KE.cmp KE.ix a mid f
                  rw [show a = s by omega]
                  exact PP.out.s2)
                have fK : Hid (∀ x, PermIn mid b f x → Srt KE.cmp KE.ix mid b x → PermIn a b d x ∧ Srt KE.cmp KE.ix a b x) := fun x h1 h2 =>
                  ⟨permIn_trans _ _ _ _ _ HPf.out (permIn_mono _ _ _ _ _ _ (by omega) (Nat.le_refl _) (by rw [fZ.out]; exact hb) h1),
                    joined2 (by omega) (by rw [fZ.out]; exact hb) (by omega) PP.out.cross (permIn_refl _ _ _) SA.out h1 h2⟩
                have S3 : Hid (Srt KE.cmp KE.ix mid b f) := (by
                  show Srt KE.cmp KE.ix mid b f
                  rw [show mid = e by omega]
                  exact PP.out.s4)
                go_wp2
                all_goals
                  go_end0
                  exact ⟨rfl, f, HWf.out, fK.out f (permIn_refl _ _ _) S3.out⟩
          · by_cases hC : s < m
            · by_cases hD : e < b
              · have zsmid : ¬ (s : Int) < (mid : Int) := by omega
                have zsm : (s : Int) < (m : Int) := by omega
                have zeb : (e : Int) < (b : Int) := by omega
                have zme : ¬ (m : Int) < (e : Int) := by omega
                have zmide : (mid : Int) < (e : Int) := by omega
                obtain ⟨f, hf⟩ : ∃ f, f = d := ⟨_, rfl⟩
                have HWf : Hid (SW7 w0 blk off f wr) := by rw [hf]; exact HW
                have fZ : Hid (f.size = d.size) := by rw [hf]; exact rfl
                have HPf : Hid (PermIn a b d f) := by rw [hf]; exact permIn_refl _ _ _
                have PP : Hid (Parted KE.cmp KE.ix a s mid e b f) := by
                  rw [hf]
                  exact PT.out d ⟨rfl, fun t q1 q2 => at_eq (by omega), fun t q1 q2 => at_eq (by omega), fun t _ => rfl⟩
                clear hf
                have SA : Hid (Srt KE.cmp KE.ix a mid f) := (by
                  show Srt KE.cmp KE.ix a mid f
                  rw [show mid = s by omega]
                  exact PP.out.s1)
                have fK : Hid (∀ x, PermIn mid b f x → Srt KE.cmp KE.ix mid b x → PermIn a b d x ∧ Srt KE.cmp KE.ix a b x) := fun x h1 h2 =>
                  ⟨permIn_trans _ _ _ _ _ HPf.out (permIn_mono _ _ _ _ _ _ (by omega) (Nat.le_refl _) (by rw [fZ.out]; exact hb) h1),
                    joined2 (by omega) (by rw [fZ.out]; exact hb) (by omega) PP.out.cross (permIn_refl _ _ _) SA.out h1 h2⟩
                have fQ : Hid (Srt KE.cmp KE.ix mid e f ∧ Srt KE.cmp KE.ix e b f ∧ ∀ p q, mid ≤ p → p < e → e ≤ q → q < b → KE.ix f[p]! < KE.ix f[q]!) := ⟨PP.out.s3, PP.out.s4, PP.out.x2⟩
                have hc3 := HIH.out mid e b f wr (by omega) HWf.out (by rw [fZ.out]; exact HD.out) (by omega) (by omega) (by rw [fZ.out]; exact hb) fQ.out.1 fQ.out.2.1 fQ.out.2.2
                rw [fZ.out] at hc3
                go_wp2_with fail
                all_goals
                  ((with_reducible refine hc3.mono ?_))
                  rintro e3 w3 ⟨rfl, f3, hW3, hP3, hS3⟩
                  go_wp2
                  go_end0
                  exact ⟨rfl, f3, hW3, fK.out f3 hP3 hS3⟩
              · have zsmid : ¬ (s : Int) < (mid : Int) := by omega
                have zsm : (s : Int) < (m : Int) := by omega
                have zeb : ¬ (e : Int) < (b : Int) := by omega
                have zme : ¬ (m : Int) < (e : Int) := by omega
                have zmide : (mid : Int) < (e : Int) := by omega
                obtain ⟨f, hf⟩ : ∃ f, f = d := ⟨_, rfl⟩
                have HWf : Hid (SW7 w0 blk off f wr) := by rw [hf]; exact HW
                have fZ : Hid (f.size = d.size) := by rw [hf]; exact rfl
                have HPf : Hid (PermIn a b d f) := by rw [hf]; exact permIn_refl _ _ _
                have PP : Hid (Parted KE.cmp KE.ix a s mid e b f) := by
                  rw [hf]
                  exact PT.out d ⟨rfl, fun t q1 q2 => at_eq (by omega), fun t q1 q2 => at_eq (by omega), fun t _ => rfl⟩
                clear hf
                have SA : Hid (Srt KE.cmp KE.ix a mid f) := (by
                  show Srt KE.cmp KE.ix a mid f
                  rw [show mid = s by omega]
                  exact PP.out.s1)
                have fK : Hid (∀ x, PermIn mid b f x → Srt KE.cmp KE.ix mid b x → PermIn a b d x ∧ Srt KE.cmp KE.ix a b x) := fun x h1 h2 =>
                  ⟨permIn_trans _ _ _ _ _ HPf.out (permIn_mono _ _ _ _ _ _ (by omega) (Nat.le_refl _) (by rw [fZ.out]; exact hb) h1),
                    joined2 (by omega) (by rw [fZ.out]; exact hb) (by omega) PP.out.cross (permIn_refl _ _ _) SA.out h1 h2⟩
                have S3 : Hid (Srt KE.cmp KE.ix mid b f) := (by
                  show Srt KE.cmp KE.ix mid b f
                  rw [show b = e by omega]
                  exact PP.out.s3)
                go_wp2
                all_goals
                  go_end0
                  exact ⟨rfl, f, HWf.out, fK.out f (permIn_refl _ _ _) S3.out⟩
            · have zsmid : ¬ (s : Int) < (mid : Int) := by omega
              have zsm : ¬ (s : Int) < (m : Int) := by omega
              have zme : ¬ (m : Int) < (e : Int) := by omega
              have zmide : ¬ (mid : Int) < (e : Int) := by omega
              obtain ⟨f, hf⟩ : ∃ f, f = d := ⟨_, rfl⟩
              have HWf : Hid (SW7 w0 blk off f wr) := by rw [hf]; exact HW
              have fZ : Hid (f.size = d.size) := by rw [hf]; exact rfl
              have HPf : Hid (PermIn a b d f) := by rw [hf]; exact permIn_refl _ _ _
              have PP : Hid (Parted KE.cmp KE.ix a s mid e b f) := by
                rw [hf]
                exact PT.out d ⟨rfl, fun t q1 q2 => at_eq (by omega), fun t q1 q2 => at_eq (by omega), fun t _ => rfl⟩
              clear hf
              have SA : Hid (Srt KE.cmp KE.ix a mid f) := (by
                show Srt KE.cmp KE.ix a mid f
                rw [show mid = s by omega]
                exact PP.out.s1)
              have fK : Hid (∀ x, PermIn mid b f x → Srt KE.cmp KE.ix mid b x → PermIn a b d x ∧ Srt KE.cmp KE.ix a b x) := fun x h1 h2 =>
                ⟨permIn_trans _ _ _ _ _ HPf.out (permIn_mono _ _ _ _ _ _ (by omega) (Nat.le_refl _) (by rw [fZ.out]; exact hb) h1),
                  joined2 (by omega) (by rw [fZ.out]; exact hb) (by omega) PP.out.cross (permIn_refl _ _ _) SA.out h1 h2⟩
              have S3 : Hid (Srt KE.cmp KE.ix mid b f) := (by
                show Srt KE.cmp KE.ix mid b f
                rw [show mid = e by omega]
                exact PP.out.s4)
              go_wp2
              all_goals
                go_end0
                exact ⟨rfl, f, HWf.out, fK.out f (permIn_refl _ _ _) S3.out⟩

end Go.Proofs.YtclnadjgbpihcaaGreatDoor

