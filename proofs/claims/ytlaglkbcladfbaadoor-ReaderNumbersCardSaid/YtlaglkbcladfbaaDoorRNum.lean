/- Numbers, and how often an element stands, are read by the program as the words say; for every text of at most 50000 bytes. -/
import Derived.Test.YtlaglkbcladfbaaDoorRSpace
namespace Go.Proofs.YtlaglkbcladfbaaDoor
open Go.RowKit
set_option linter.unusedVariables false
set_option linter.unusedSimpArgs false

/-- The call answers what is read, or panics with the error. -/
def GivesGot {α : Type} (mk : α → Value) (R : Nat) (s : ByteArray) (d : Nat) (g : Got α) (w : World) (e : Ending) (w' : World) : Prop :=
  match g with
  | .ok x q => q ≤ s.size ∧ Gives R s d (mk x) q w e w'
  | .err c => Fails R c w e w'

theorem val_range {b : Int} (hb0 : 2 ≤ b) (f : Nat → Int) (p : Nat) : ∀ n, 0 ≤ val b f p n
  | 0 => Int.le_refl 0
  | n + 1 => by
    have h := val_range hb0 f p n
    have hd := (dig_range (f (p + n))).1
    have hm : 0 ≤ val b f p n * b := Int.mul_nonneg h (by omega)
    unfold val
    omega

/-- The program's number: cut above the limit. -/
def capped (lim v : Int) : Int := min v (lim + 1)
theorem capped_step {b lim v x : Int} (hb : b = 2 ∨ b = 10 ∨ b = 16) (hl : 0 ≤ lim) (hv : 0 ≤ v) (hx : 0 ≤ x) : min (capped lim v * b + x) (lim + 1) = capped lim (v * b + x) := by
  unfold capped
  rcases hb with rfl | rfl | rfl <;> omega
theorem capped_range {lim v : Int} (hl : 0 ≤ lim) (hv : 0 ≤ v) : 0 ≤ capped lim v ∧ capped lim v ≤ lim + 1 := by unfold capped; omega

theorem isDg_nx {b : Int} (hb : b ≤ 16) {s : ByteArray} {q : Nat} : isDg b (nx (rd s) q) = isDg b (rd s q) := by
  by_cases g : q < s.size
  · rw [nx_in g, ← rd_in g]
  · rw [nx_out g, rd_out g]
    unfold isDg dig
    simp
theorem dig_nx {s : ByteArray} {q : Nat} : dig (nx (rd s) q) = dig (rd s q) := by
  by_cases g : q < s.size
  · rw [nx_in g, ← rd_in g]
  · rw [nx_out g, rd_out g]
    unfold dig
    simp
theorem isDg_lt {b : Int} (hb : b ≤ 16) {s : ByteArray} {q : Nat} (h : isDg b (rd s q) = true) : q < s.size := by
  by_cases g : q < s.size
  · exact g
  · rw [rd_out g] at h
    unfold isDg dig at h
    simp at h
    omega

theorem numAt_none {b lim : Int} {f : Nat → Int} {p : Nat} (h : isDg b (f p) = false) : numAt b lim f p = .err 20 := by
  have hr : runEnd (isDg b) f p = p := IsRun.eq ⟨Nat.le_refl _, fun i h1 h2 => absurd h1 (by omega), h⟩
  unfold numAt
  rw [if_pos hr]
theorem numAt_run {b lim : Int} {f : Nat → Int} {p q : Nat} (h : IsRun (isDg b) f p q) (hlt : p < q) : numAt b lim f p = if lim < val b f p (q - p) then .err 2 else .ok (val b f p (q - p)) q := by
  unfold numAt
  rw [h.eq, if_neg (by omega)]

theorem int_eq {a b : Int} (h : a = b) : Value.int .i64 a = .int .i64 b := by rw [h]

/-- Within the loop. -/
def InNum (b lim : Int) (R : Nat) (s : ByteArray) (p d : Nat) (w wr : World) (v : Value) (q : Nat) : Prop :=
  At wr R s q d ∧ w.grownBy wr (some R) ∧ p ≤ q ∧ q ≤ s.size ∧ (∀ i, p ≤ i → i < q → isDg b (rd s i) = true) ∧ v = .int .i64 (capped lim (val b (rd s) p (q - p)))

set_option maxRecDepth 100000 in
set_option maxHeartbeats 4000000 in
theorem number_any {R p d : Nat} {s : ByteArray} {w : World} (b lim : Int) (hb : b = 2 ∨ b = 10 ∨ b = 16) (hl : 0 ≤ lim) (hl2 : lim ≤ 2000000) (h : At w R s p d) (hs : s.size ≤ 50000) (hp : p ≤ s.size) :
    Calls Tryd.prog 159 #[.pointer (some ⟨R, 0, none⟩), .int .i64 b, .int .i64 lim] w (GivesGot (fun v => .int .i64 v) R s d (numAt b lim (rd s) p) w) := by
  have hb16 : b ≤ 16 := by omega
  have hb2 : 2 ≤ b := by omega
  have H := Lib.hid h
  have HBB := Lib.hid hb
  have hr := nx_range s p
  clear h hb
  cases hd : isDg b (rd s p)
  · have HD := Lib.hid ((isDg_nx hb16).trans hd)
    rw [numAt_none hd]
    clear hd
    go_enter Tryd.func159, Tryd.ntmps159
    go_wp2_with fail
    refine (next_any H.out hs hp).mono ?_
    rintro e w' ⟨rfl, n, rfl⟩
    go_wp2_with fail
    refine (isDigit_any _ _ hr.1 hr.2 _).mono ?_
    rw [HD.out]
    rintro e w' ⟨rfl, rfl⟩
    go_wp2_with fail
    refine (fail_any _ _).mono ?_
    rintro e w2 ⟨rfl, rfl⟩
    go_wp2_with fail
    exact ⟨rfl, rfl, grown_drew (grown_refl _ _) n⟩
  · have HD := Lib.hid ((isDg_nx hb16).trans hd)
    have HD0 := Lib.hid hd
    clear hd
    go_enter Tryd.func159, Tryd.ntmps159
    go_wp2_with fail
    refine (next_any H.out hs hp).mono ?_
    rintro e w' ⟨rfl, n, rfl⟩
    go_wp2_with fail
    refine (isDigit_any _ _ hr.1 hr.2 _).mono ?_
    rw [HD.out]
    rintro e w' ⟨rfl, rfl⟩
    go_wp2_with fail
    go_loopw [7] (fun v wr => ∃ q : Nat, InNum b lim R s p d w wr v q) (fun _ wr => s.size - posOf R wr)
    case atStart => exact ⟨p, H.out.drew n, grown_drew (grown_refl _ _) n, Nat.le_refl _, hp, fun i h1 h2 => absurd h1 (by omega), by rw [Nat.sub_self]; unfold val capped; simp; omega⟩
    case round =>
      obtain ⟨q, ha, hg, hpq, hqs, hall, rfl⟩ := hrel
      have HA := Lib.hid ha
      have HG := Lib.hid hg
      have HL := Lib.hid hall
      have HM := Lib.hid ha.pos
      have hv := val_range hb2 (rd s) p (q - p)
      have hc := capped_range hl hv
      have hq := nx_range s q
      obtain ⟨c0, c1, c2, z0, z1, z2⟩ := ha.cells
      clear ha hg hall
      obtain ⟨V, hV⟩ : ∃ x, x = val b (rd s) p (q - p) := ⟨_, rfl⟩
      rw [← hV] at hv hc ⊢
      obtain ⟨C, hC⟩ : ∃ x, x = capped lim V := ⟨_, rfl⟩
      rw [← hC] at hc ⊢
      have HV := Lib.hid hV
      have HC := Lib.hid hC
      clear hV hC
      cases hd : isDg b (rd s q)
      · have HD2 := Lib.hid ((isDg_nx hb16).trans hd)
        have hrun : IsRun (isDg b) (rd s) p q := ⟨hpq, HL.out, hd⟩
        have hlt : p < q := by
          by_cases g : p < q
          · exact g
          · obtain rfl : p = q := by omega
            rw [HD0.out] at hd
            cases hd
        have HR := Lib.hid (numAt_run (lim := lim) hrun hlt)
        clear hd hrun
        rw [← HV.out] at HR
        by_cases hov : lim < V
        · have HE : Hid (numAt b lim (rd s) p = .err 2) := by rw [HR.out, if_pos hov]; exact rfl
          have hCv : lim < C := by rw [HC.out]; unfold capped; omega
          go_wp2_with fail
          refine (next_any HA.out hs hqs).mono ?_
          rintro e w' ⟨rfl, n, rfl⟩
          go_wp2_with fail
          refine (isDigit_any _ _ hq.1 hq.2 _).mono ?_
          rw [HD2.out]
          rintro e w' ⟨rfl, rfl⟩
          go_wp2_with fail
          refine (fail_any _ _).mono ?_
          rintro e w2 ⟨rfl, rfl⟩
          go_wp2_with fail
          rw [HE.out]
          exact ⟨rfl, rfl, grown_drew HG.out n⟩
        · have HE : Hid (numAt b lim (rd s) p = .ok V q) := by rw [HR.out, if_neg hov]; exact rfl
          have hCv : C ≤ lim := by rw [HC.out]; unfold capped; omega
          have HCV : Hid (C = V) := by rw [HC.out]; unfold capped; exact (by omega : min V (lim + 1) = V)
          go_wp2_with fail
          refine (next_any HA.out hs hqs).mono ?_
          rintro e w' ⟨rfl, n, rfl⟩
          go_wp2_with fail
          refine (isDigit_any _ _ hq.1 hq.2 _).mono ?_
          rw [HD2.out]
          rintro e w' ⟨rfl, rfl⟩
          go_wp2_with fail
          go_ret
          rw [HE.out]
          exact ⟨hqs, ret_num HCV.out, HA.out.drew n, grown_drew HG.out n⟩
      · have HD2 := Lib.hid ((isDg_nx hb16).trans hd)
        have hlt := isDg_lt hb16 hd
        have hx := dig_range (nx (rd s) q)
        have hm0 : 0 ≤ C * b := Int.mul_nonneg hc.1 (by omega)
        have hm1 : C * b ≤ 40000000 := by rcases HBB.out with g | g | g <;> rw [g] <;> omega
        have HDall := Lib.hid (run_next (P := isDg b) HL.out hd)
        have HST : Hid (min (C * b + dig (nx (rd s) q)) (lim + 1) = capped lim (val b (rd s) p (q + 1 - p))) := by
          have e1 : q + 1 - p = (q - p) + 1 := by omega
          have e2 : p + (q - p) = q := by omega
          have hs2 := capped_step (v := V) HBB.out hl hv hx.1
          rw [HC.out, hs2, e1]
          show capped lim (V * b + dig (nx (rd s) q)) = capped lim (val b (rd s) p (q - p) * b + dig (rd s (p + (q - p))))
          rw [e2, HV.out, dig_nx]
        clear hd
        go_wp2_with fail
        refine (next_any HA.out hs hqs).mono ?_
        rintro e w' ⟨rfl, n, rfl⟩
        go_wp2_with fail
        refine (isDigit_any _ _ hq.1 hq.2 _).mono ?_
        rw [HD2.out]
        rintro e w' ⟨rfl, rfl⟩
        go_wp2_with fail
        refine (next_any (HA.out.drew n) hs hqs).mono ?_
        rintro e w' ⟨rfl, n2, rfl⟩
        go_wp2_with fail
        refine (digit_any _ hq.1 hq.2 _).mono ?_
        rintro e w' ⟨rfl, rfl⟩
        go_wp2_with fail
        go_roundw
        case rel => exact ⟨q + 1, (HA.out.drew _).step, grown_set (grown_drew HG.out _) _ _, by omega, by omega, HDall.out, by rw [← HST.out]; exact int_eq (by rw [show min (C * b + dig (nx (rd s) q)) (lim + 1) = if C * b + dig (nx (rd s) q) ≤ lim + 1 then C * b + dig (nx (rd s) q) else lim + 1 from rfl]; split <;> split <;> omega)⟩
        case measure =>
          rw [HM.out, (HA.out.drew _).step.pos]
          omega

end Go.Proofs.YtlaglkbcladfbaaDoor
