/- The stable sort. No condition. -/
import Derived.Test.YtclnadjgbpihcaaGreatDoorSymm
import Derived.Test.YtclnadjgbpihcaaGreatDoorInsert
namespace Go.Proofs.YtclnadjgbpihcaaGreatDoor
open Go.RowKit Go.Sort Go.Lib Go.Shelf
set_option linter.unusedVariables false
set_option linter.unusedSimpArgs false

/-- From here on: runs of so many, one behind the other. -/
inductive Cov (bs hi : Nat) (d : Array KE) : Nat → Prop
  | done {lo : Nat} : hi ≤ lo → Cov bs hi d lo
  | more {lo : Nat} : lo < hi → Run KE.cmp KE.ix lo (min (lo + bs) hi) d → Cov bs hi d (lo + bs) → Cov bs hi d lo
theorem Cov.congr {bs hi lo : Nat} {d d' : Array KE} (h : Cov bs hi d lo) : (∀ t, lo ≤ t → d'[t]! = d[t]!) → Cov bs hi d' lo := by
  induction h with
  | done h => exact fun _ => .done h
  | more h1 h2 _ ih => exact fun he => .more h1 (h2.congr fun p a b => he p a) (ih fun t ht => he t (by omega))
theorem Cov.get {bs hi lo : Nat} {d : Array KE} (h : Cov bs hi d lo) (hl : lo < hi) : Run KE.cmp KE.ix lo (min (lo + bs) hi) d ∧ Cov bs hi d (lo + bs) := by
  cases h with
  | done h => omega
  | more h1 h2 h3 => exact ⟨h2, h3⟩
/-- Up to here: whole runs of so many. -/
inductive CovL (bs : Nat) (d : Array KE) : Nat → Prop
  | start : CovL bs d 0
  | snoc {a : Nat} : CovL bs d a → Run KE.cmp KE.ix a (a + bs) d → CovL bs d (a + bs)
theorem CovL.congr {bs a : Nat} {d d' : Array KE} (h : CovL bs d a) : (∀ t, t < a → d'[t]! = d[t]!) → CovL bs d' a := by
  induction h with
  | start => exact fun _ => .start
  | snoc h1 h2 ih => exact fun he => .snoc (ih fun t ht => he t (by omega)) (h2.congr fun p a b => he p b)
theorem CovL.close {bs a hi : Nat} {d : Array KE} (hb : 0 < bs) (h : CovL bs d a) : a ≤ hi → Cov bs hi d a → Cov bs hi d 0 := by
  induction h with
  | start => exact fun _ h => h
  | @snoc a h1 h2 ih => exact fun ha h => ih (by omega) (.more (by omega) (by rw [Nat.min_eq_left ha]; exact h2) h)

set_option maxHeartbeats 4000000 in
set_option maxRecDepth 100000 in
theorem stable_any {w0 : World} {blk off : Nat} {d0 : Array KE} (R : RowK KE.enc 7 w0 blk off d0) (hsz0 : d0.size < 1152921504606846976) (cap : Nat) (d : Array KE) (w : World) (hS : SW7 w0 blk off d w) (hd : d.size = d0.size)
    (hx : ∀ t, t < d.size → KE.ix d[t]! = t) :
    Calls Tryz.prog 83 #[.slice (some ⟨blk, off, none⟩) d.size cap, .int .i64 d.size, .func (.func 71) #[] #[]] w fun e w' =>
      e = .returned (.tuple #[]) ∧ ∃ d', SW7 w0 blk off d' w' ∧ PermIn 0 d.size d d' ∧ Srt KE.cmp KE.ix 0 d.size d' := by
  have hsz : d0.size < 4611686018427387904 := by omega
  have HS : Hid (SW7 w0 blk off d w) := hS
  have HR : Hid (RowK KE.enc 7 w0 blk off d0) := R
  have HD : Hid (d.size = d0.size) := hd
  have hz : d.size < 4611686018427387904 := by omega
  have mixed : Tryz.prog.follows .mixedOrders = true := by kernel_rfl
  obtain ⟨n, hn⟩ : ∃ n, n = d.size := ⟨_, rfl⟩
  have hn1 : n < 1152921504606846976 := by omega
  have HN : Hid (n = d.size) := hn
  have HX : Hid (∀ t, t < n → KE.ix d[t]! = t) := by rw [hn]; exact hx
  rw [← hn]
  clear hS R hd hx hz hn hsz0
  go_enter Tryz.func83, Tryz.ntmps83
  go_wp2
  go_loopg [7, 8] n (fun g va vb wr => ∃ (a : Nat) (dk : Array KE), va = .int .i64 a ∧ vb = .int .i64 ((a + 20 : Nat) : Int) ∧ a ≤ n ∧ n - a ≤ g ∧ Hid (SW7 w0 blk off dk wr) ∧ Hid (PermIn 0 n d dk) ∧ Hid (CovL 20 dk a ∧ ∀ t, a ≤ t → dk[t]! = d[t]!))
  case atStart => exact ⟨0, d, rfl, rfl, by omega, by omega, HS, permIn_refl _ _ _, .start, fun t _ => rfl⟩
  case round =>
    obtain ⟨a, dk, rfl, rfl, ha, hg, HW, HP, HC⟩ := hrel
    have HZ : Hid (dk.size = n) := HP.out.1.trans HN.out.symm
    by_cases hlt : a + 20 ≤ n
    · have hltz : ((a + 20 : Nat) : Int) ≤ (n : Int) := by omega
      have hc := insert_any HR.out hsz cap a (a + 20) dk wr HW.out (by rw [HZ.out, HN.out]; exact HD.out) (by omega) (by rw [HZ.out]; omega) (fun t h1 h2 => by rw [HC.out.2 t h1]; exact HX.out t (by omega))
      rw [HZ.out, show ((a + 20 : Nat) : Int) = (a : Int) + 20 from by omega] at hc
      go_wp2_with fail
      ((with_reducible refine hc.mono ?_))
      rintro e1 w1 ⟨rfl, d1, hW1, hP1, hR1⟩
      have HW1 : Hid (SW7 w0 blk off d1 w1) := hW1
      have HPn : Hid (PermIn 0 n d d1) := permIn_trans _ _ _ _ _ HP.out (permIn_mono _ _ _ _ _ _ (by omega) (by omega) (by rw [HZ.out]; omega) hP1)
      have HC1 : Hid (CovL 20 d1 (a + 20) ∧ ∀ t, a + 20 ≤ t → d1[t]! = d[t]!) :=
        ⟨.snoc (HC.out.1.congr fun t ht => hP1.2.1 t (.inl ht)) hR1, fun t ht => (hP1.2.1 t (.inr ht)).trans (HC.out.2 t (by omega))⟩
      clear hW1 hP1 hR1 hc
      go_wp2
      go_roundg (n - (a + 20))
      case measure => omega
      case rel => exact ⟨a + 20, d1, rfl, by first | rfl | go_num, by omega, Nat.le_refl _, HW1, HPn, HC1⟩
    · have hltz : ¬ ((a + 20 : Nat) : Int) ≤ (n : Int) := by omega
      have hc := insert_any HR.out hsz cap a n dk wr HW.out (by rw [HZ.out, HN.out]; exact HD.out) ha (by rw [HZ.out]; omega) (fun t h1 h2 => by rw [HC.out.2 t h1]; exact HX.out t h2)
      rw [HZ.out] at hc
      go_wp2_with fail
      ((with_reducible refine hc.mono ?_))
      rintro e1 w1 ⟨rfl, d1, hW1, hP1, hR1⟩
      have HW1 : Hid (SW7 w0 blk off d1 w1) := hW1
      have HPn : Hid (PermIn 0 n d d1) := permIn_trans _ _ _ _ _ HP.out (permIn_mono _ _ _ _ _ _ (by omega) (by omega) (by rw [HZ.out]; omega) hP1)
      have HC1 : Hid (Cov 20 n d1 0) := CovL.close (by omega) (HC.out.1.congr fun t ht => hP1.2.1 t (.inl ht)) ha (by
        by_cases e : a = n
        · exact .done (by omega)
        · exact .more (by omega) (by rw [Nat.min_eq_right (by omega)]; exact hR1) (.done (by omega)))
      clear hW1 hP1 hR1 hc HW HP HC HZ hltz hlt
      obtain ⟨wo, hwo⟩ : ∃ x : World, x = wr := ⟨_, rfl⟩
      subst hwo
      go_wp2
      go_loopg [6, 7, 8] n (fun g vs va vb wr => ∃ (bs : Nat) (dk : Array KE), vs = .int .i64 bs ∧ 0 < bs ∧ bs ≤ 2 * n + 20 ∧ n - bs ≤ g ∧ Hid (SW7 w0 blk off dk wr) ∧ Hid (PermIn 0 n d dk) ∧ Hid (Cov bs n dk 0))
      case atStart => exact ⟨20, d1, rfl, by omega, by omega, by omega, HW1, HPn, HC1⟩
      case round =>
        obtain ⟨bs, dk, rfl, hb0, hb1, hg2, HW, HP, HC⟩ := hrel
        have HZ : Hid (dk.size = n) := HP.out.1.trans HN.out.symm
        by_cases hlt : bs < n
        · have hltz : (bs : Int) < (n : Int) := by omega
          obtain ⟨wi, hwi⟩ : ∃ x : World, x = wr := ⟨_, rfl⟩
          subst hwi
          go_wp2
          go_loopg [7, 8] n (fun g va vb wr => ∃ (a : Nat) (dj : Array KE), va = .int .i64 a ∧ vb = .int .i64 ((a + 2 * bs : Nat) : Int) ∧ a ≤ n ∧ n - a ≤ g ∧ Hid (SW7 w0 blk off dj wr) ∧ Hid (PermIn 0 n d dj) ∧ Hid (CovL (2 * bs) dj a ∧ Cov bs n dj a))
          case atStart => exact ⟨0, dk, by first | rfl | go_num, by first | rfl | go_num | (congr 1; omega), by omega, by omega, HW, HP, .start, HC.out⟩
          case round =>
            obtain ⟨a, dj, rfl, rfl, ha, hg3, HWj, HPj, HCj⟩ := hrel
            have HZj : Hid (dj.size = n) := HPj.out.1.trans HN.out.symm
            by_cases hlt2 : a + 2 * bs ≤ n
            · have hlz : ((a + 2 * bs : Nat) : Int) ≤ (n : Int) := by omega
              have r1 := HCj.out.2.get (by omega)
              have r2 := r1.2.get (by omega)
              rw [Nat.min_eq_left (by omega)] at r1 r2
              have hc := symmerge_any HR.out hsz cap (2 * bs) a (a + bs) (a + 2 * bs) dj wr (by omega) HWj.out (by rw [HZj.out, HN.out]; exact HD.out) (by omega) (by omega) (by rw [HZj.out]; exact hlt2) r1.1.1 (by rw [show a + 2 * bs = a + bs + bs by omega]; exact r2.1.1)
                (fun p q h1 h2 h3 h4 => by have := (r1.1.2 p h1 h2).2; have := (r2.1.2 q h3 (by omega)).1; omega)
              rw [HZj.out, show ((a + bs : Nat) : Int) = (a : Int) + (bs : Int) from by omega, show ((a + 2 * bs : Nat) : Int) = (a : Int) + 2 * (bs : Int) from by omega] at hc
              have RX : Hid (∀ t, a ≤ t → t < a + 2 * bs → a ≤ KE.ix dj[t]! ∧ KE.ix dj[t]! < a + 2 * bs) := fun t h1 h2 => by
                by_cases c : t < a + bs
                · have := r1.1.2 t h1 c; omega
                · have := r2.1.2 t (by omega) (by omega); omega
              have RC : Hid (Cov bs n dj (a + bs + bs)) := r2.2
              clear r1 r2
              go_wp2_with fail
              ((with_reducible refine hc.mono ?_))
              rintro e1 w1 ⟨rfl, d2, hW2, hP2, hR2⟩
              have HW2 : Hid (SW7 w0 blk off d2 w1) := hW2
              have HP2 : Hid (PermIn 0 n d d2) := permIn_trans _ _ _ _ _ HPj.out (permIn_mono _ _ _ _ _ _ (by omega) hlt2 (by rw [HZj.out]; omega) hP2)
              have HC2 : Hid (CovL (2 * bs) d2 (a + 2 * bs) ∧ Cov bs n d2 (a + 2 * bs)) :=
                ⟨.snoc (HCj.out.1.congr fun t ht => hP2.2.1 t (.inl ht)) ⟨hR2, Run.perm (by rw [HZj.out]; exact hlt2) RX.out hP2⟩, by
                  rw [show a + 2 * bs = a + bs + bs by omega]
                  exact RC.out.congr fun t ht => hP2.2.1 t (.inr (by omega))⟩
              clear hW2 hP2 hR2 hc
              go_wp2
              go_roundg (n - (a + 2 * bs))
              case measure => omega
              case rel => exact ⟨a + 2 * bs, d2, by first | rfl | go_num, by first | rfl | go_num | (congr 1; omega), hlt2, Nat.le_refl _, HW2, HP2, HC2⟩
            · have hlz : ¬ ((a + 2 * bs : Nat) : Int) ≤ (n : Int) := by omega
              by_cases hm : a + bs < n
              · have hmz : ((a : Int) + (bs : Int)) < (n : Int) := by omega
                have r1 := HCj.out.2.get (by omega)
                have r2 := r1.2.get (by omega)
                rw [Nat.min_eq_left (by omega)] at r1
                rw [Nat.min_eq_right (by omega)] at r2
                have hc := symmerge_any HR.out hsz cap (2 * bs) a (a + bs) n dj wr (by omega) HWj.out (by rw [HZj.out, HN.out]; exact HD.out) (by omega) hm (by rw [HZj.out]; exact Nat.le_refl _) r1.1.1 r2.1.1
                  (fun p q h1 h2 h3 h4 => by have := (r1.1.2 p h1 h2).2; have := (r2.1.2 q h3 (by omega)).1; omega)
                rw [HZj.out, show ((a + bs : Nat) : Int) = (a : Int) + (bs : Int) from by omega] at hc
                have RX : Hid (∀ t, a ≤ t → t < n → a ≤ KE.ix dj[t]! ∧ KE.ix dj[t]! < n) := fun t h1 h2 => by
                  by_cases c : t < a + bs
                  · have := r1.1.2 t h1 c; omega
                  · have := r2.1.2 t (by omega) (by omega); omega
                clear r1 r2
                go_wp2_with fail
                ((with_reducible refine hc.mono ?_))
                rintro e1 w1 ⟨rfl, d2, hW2, hP2, hR2⟩
                have HW2 : Hid (SW7 w0 blk off d2 w1) := hW2
                have HP2 : Hid (PermIn 0 n d d2) := permIn_trans _ _ _ _ _ HPj.out (permIn_mono _ _ _ _ _ _ (by omega) (Nat.le_refl _) (by rw [HZj.out]; omega) hP2)
                have HC2 : Hid (Cov (2 * bs) n d2 0) := CovL.close (by omega) (HCj.out.1.congr fun t ht => hP2.2.1 t (.inl ht)) ha
                  (.more (by omega) (by rw [Nat.min_eq_right (by omega)]; exact ⟨hR2, Run.perm (by rw [HZj.out]; exact Nat.le_refl _) RX.out hP2⟩) (.done (by omega)))
                clear hW2 hP2 hR2 hc
                go_wp2
                go_roundg (n - 2 * bs)
                case measure => omega
                case rel => exact ⟨2 * bs, d2, by first | rfl | go_num | (congr 1; omega), by omega, by omega, Nat.le_refl _, HW2, HP2, HC2⟩
              · have hmz : ¬ ((a : Int) + (bs : Int)) < (n : Int) := by omega
                have HC2 : Hid (Cov (2 * bs) n dj 0) := CovL.close (by omega) HCj.out.1 ha (by
                  by_cases e : a = n
                  · exact .done (by omega)
                  · have r1 := HCj.out.2.get (by omega)
                    rw [Nat.min_eq_right (by omega)] at r1
                    exact .more (by omega) (by rw [Nat.min_eq_right (by omega)]; exact r1.1) (.done (by omega)))
                go_wp2
                go_roundg (n - 2 * bs)
                case measure => omega
                case rel => exact ⟨2 * bs, dj, by first | rfl | go_num | (congr 1; omega), by omega, by omega, Nat.le_refl _, HWj, HPj, HC2⟩
        · have hltz : ¬ (bs : Int) < (n : Int) := by omega
          go_wp2
          go_end0
          refine ⟨rfl, dk, HW.out, HP.out, ?_⟩
          by_cases e : n = 0
          · intro i j h1 h2 h3
            omega
          · have r1 := HC.out.get (by omega)
            rw [Nat.zero_add, Nat.min_eq_right (by omega)] at r1
            exact r1.1.1

end Go.Proofs.YtclnadjgbpihcaaGreatDoor

