/- What the laws of the grammar rest on, part 28: made by tools/merge5.py out of YBase YEnds YSkip. No condition but those that each says. -/
import Derived.Test.YtpopgjgngbiofaaGreatDoorM14
import Derived.WalkMore
set_option linter.unusedVariables false
set_option linter.unusedSimpArgs false
set_option maxRecDepth 100000
set_option maxHeartbeats 8000000
namespace Go.Proofs.YtpopgjgngbiofaaGreatDoor
open Go.RowKit
def AtY (w : World) (R : Nat) (s : ByteArray) (p : Nat) (c : Int) : Prop := w.heap[R]? = some (.cells #[.string s, .int .i64 p, .int .i64 c] 82 (0, 0))
theorem AtY.lt {w : World} {R : Nat} {s : ByteArray} {p : Nat} {c : Int} (h : AtY w R s p c) : R < w.heap.size := (Array.getElem?_eq_some_iff.1 h).1
theorem AtY.cells {w : World} {R : Nat} {s : ByteArray} {p : Nat} {c : Int} (h : AtY w R s p c) : w.cell? ⟨R, 0, none⟩ = some (.string s) /\ w.cell? ⟨R, 1, none⟩ = some (.int .i64 p) /\ w.cell? ⟨R, 2, none⟩ = some (.int .i64 c) /\
  w.frozen? ⟨R, 0, none⟩ = false /\ w.frozen? ⟨R, 1, none⟩ = false /\ w.frozen? ⟨R, 2, none⟩ = false := by
 unfold AtY at h
 simp [World.cell?, World.frozen?, h]
theorem AtY.drew {w : World} {R : Nat} {s : ByteArray} {p : Nat} {c : Int} (h : AtY w R s p c) (n : Nat) : AtY (w.drewN n) R s p c := h
theorem AtY.kept {w w' : World} {R : Nat} {row : Option Nat} {s : ByteArray} {p : Nat} {c : Int} (h : AtY w R s p c) (hg : w.grownBy w' row) (hr : some R ≠ row) : AtY w' R s p c := (hg.block R h.lt hr).trans h
theorem AtY.below {w w' : World} {R : Nat} {s : ByteArray} {p : Nat} {c : Int} (h : AtY w R s p c) (hb : Below w.heap.size w w') : AtY w' R s p c := (hb.block R h.lt).trans h
theorem AtY.alloc {w : World} {R : Nat} {s : ByteArray} {p : Nat} {c : Int} (h : AtY w R s p c) (o : Obj) : AtY (w.alloc o) R s p c := h.kept (World.grownBy_alloc w o none) (by simp)
theorem AtY.put {w : World} {R : Nat} {s : ByteArray} {p : Nat} {c : Int} (h : AtY w R s p c) {x : Int} {q : Nat} (hx : x = q) : AtY (w.setCell ⟨R, 1, none⟩ (.int .i64 x)) R s q c := by
 subst hx
 unfold AtY at h ⊢
 unfold World.setCell
 simp only [Array.getElem?_modify, h]
 simp
theorem AtY.step {w : World} {R : Nat} {s : ByteArray} {p : Nat} {c : Int} (h : AtY w R s p c) : AtY (w.setCell ⟨R, 1, none⟩ (.int .i64 ((p : Int) + 1))) R s (p + 1) c := h.put (by omega)
theorem AtY.sete {w : World} {R : Nat} {s : ByteArray} {p : Nat} {c : Int} (h : AtY w R s p c) (x : Int) : AtY (w.setCell ⟨R, 2, none⟩ (.int .i64 x)) R s p x := by
 unfold AtY at h ⊢
 unfold World.setCell
 simp only [Array.getElem?_modify, h]
 simp
theorem AtY.pos {w : World} {R : Nat} {s : ByteArray} {p : Nat} {c : Int} (h : AtY w R s p c) : posOf R w = p := by
 unfold posOf
 rw [h.cells.2.1]
 simp
def GivesY (R : Nat) (s : ByteArray) (v : Value) (q : Nat) (c : Int) (w : World) (e : Ending) (w' : World) : Prop := e = .returned v /\ AtY w' R s q c /\ w.grownBy w' (some R)
theorem yblank_any (c : Int) (w : World) : Calls Tryz.prog 45 #[.int .i64 c] w (SaysB (isBl c) w) := by
 by_cases h1 : c = 32
 ·subst h1
  go_enter Tryz.func45, Tryz.ntmps45
  go_wp2
  go_ret
  exact ⟨rfl, rfl⟩
 ·have e1 : (c == 32) = false := by simpa using h1
  by_cases h2 : c = 9
  ·subst h2
   go_enter Tryz.func45, Tryz.ntmps45
   go_wp2
   go_ret
   exact ⟨rfl, rfl⟩
  ·have e2 : (c == 9) = false := by simpa using h2
   have hb : isBl c = false := by unfold isBl; rw [e1, e2]; rfl
   rw [hb]
   clear hb
   go_enter Tryz.func45, Tryz.ntmps45
   go_wp2
   go_ret
   exact ⟨rfl, rfl⟩
theorem yalpha_any (c : Int) (w : World) : Calls Tryz.prog 86 #[.int .i64 c] w (SaysB (isAl c) w) := by
 have hu : isAl c = ((decide (97 <= c) && decide (c <= 122)) || (decide (65 <= c) && decide (c <= 90))) := rfl
 by_cases h1 : 97 <= c <;> by_cases h2 : c <= 122 <;> by_cases h3 : 65 <= c <;> by_cases h4 : c <= 90
 all_goals try (exfalso; omega)
 all_goals
  simp only [h1, h2, h3, h4, decide_true, decide_false, Bool.and_true, Bool.and_false, Bool.or_true, Bool.or_false, Bool.and_self, Bool.or_self] at hu
  rw [hu]
  clear hu
  go_enter Tryz.func86, Tryz.ntmps86
  go_wp2
  go_ret
  exact ⟨rfl, rfl⟩
theorem ydigit_any (c : Int) (w : World) : Calls Tryz.prog 87 #[.int .i64 c] w (SaysB (isDc c) w) := by
 have hu : isDc c = (decide (48 <= c) && decide (c <= 57)) := rfl
 by_cases h1 : 48 <= c <;> by_cases h2 : c <= 57
 all_goals try (exfalso; omega)
 all_goals
  simp only [h1, h2, decide_true, decide_false, Bool.and_true, Bool.and_false, Bool.and_self] at hu
  rw [hu]
  clear hu
  go_enter Tryz.func87, Tryz.ntmps87
  go_wp2
  go_ret
  exact ⟨rfl, rfl⟩
theorem ylower_any (c : Int) (h0 : 0 <= c) (h1 : c <= 255) (w : World) : Calls Tryz.prog 88 #[.int .u8 c] w fun e w' => e = .returned (.int .u8 (low c)) /\ w = w' := by
 by_cases a : 65 <= c <;> by_cases b : c <= 90
 ·rw [show low c = c + 32 by unfold low; rw [if_pos ⟨a, b⟩]]
  go_enter Tryz.func88, Tryz.ntmps88
  go_wp2
  go_ret
  exact ⟨rfl, rfl⟩
 all_goals
  rw [show low c = c by unfold low; rw [if_neg (by omega)]]
  go_enter Tryz.func88, Tryz.ntmps88
  go_wp2
  go_ret
  exact ⟨rfl, rfl⟩
theorem yat_any {R p : Nat} {c : Int} {s : ByteArray} {w : World} (h : AtY w R s p c) (hs : s.size <= 50000) (hp : p <= 60000) (k : Nat) (hk : k <= 60000) (x : Int) (hx : x = k) :
  Calls Tryz.prog 46 #[.pointer (some ⟨R, 0, none⟩), .int .i64 x] w (GivesNum (rd s (p + k)) w) := by
 subst hx
 obtain ⟨c0, c1, c2, z0, z1, z2⟩ := h.cells
 clear h
 obtain ⟨m, hm⟩ : ∃ m, p + k = m := ⟨_, rfl⟩
 have hmi : (p : Int) + (k : Int) = (m : Int) := by omega
 rw [hm]
 by_cases hlt : m < s.size
 ·rw [rd_in hlt]
  have q1 : decide (s.size <= m) = false := by simp; omega
  clear hm
  go_enter Tryz.func46, Tryz.ntmps46
  go_wp2_with fail
  go_quiet (fail)
  go_wp2_with fail
  go_quiet (fail)
  go_wp2_with fail
  go_ret
  exact ⟨ret_num (wrap_byte _), below_drawn (below_drawn (Below.refl _ _) _) _⟩
 ·rw [rd_out hlt]
  have q1 : decide (s.size <= m) = true := by simp; omega
  clear hm
  go_enter Tryz.func46, Tryz.ntmps46
  go_wp2_with fail
  go_quiet (fail)
  go_wp2_with fail
  go_ret
  exact ⟨rfl, below_drawn (Below.refl _ _) _⟩
theorem yfail_first {R p : Nat} {s : ByteArray} {w : World} (h : AtY w R s p 0) (c : Int) :
  Calls Tryz.prog 49 #[.pointer (some ⟨R, 0, none⟩), .int .i64 c] w (GivesY R s (.tuple #[]) p c w) := by
 obtain ⟨c0, c1, c2, z0, z1, z2⟩ := h.cells
 have H := hh9 h
 clear h
 go_enter Tryz.func49, Tryz.ntmps49
 go_wp2
 go_end0
 exact ⟨rfl, H.out.sete c, grown_set (grown_refl _ _) _ _⟩
theorem yfail_later {R p : Nat} {e : Int} {s : ByteArray} {w : World} (h : AtY w R s p e) (he : e ≠ 0) (c : Int) :
  Calls Tryz.prog 49 #[.pointer (some ⟨R, 0, none⟩), .int .i64 c] w (GivesY R s (.tuple #[]) p e w) := by
 obtain ⟨c0, c1, c2, z0, z1, z2⟩ := h.cells
 have H := hh9 h
 have q1 : (e == 0) = false := by simpa using he
 clear h
 go_enter Tryz.func49, Tryz.ntmps49
 go_wp2
 go_end0
 exact ⟨rfl, H.out, grown_refl _ _⟩
end Go.Proofs.YtpopgjgngbiofaaGreatDoor
namespace Go.Proofs.YtpopgjgngbiofaaGreatDoor
open Go.RowKit
theorem yat_eq {R p : Nat} {c : Int} {s : ByteArray} {w : World} (h : AtY w R s p c) (hs : s.size <= 50000) (hp : p <= 60000) (k : Nat) (hk : k <= 60000) (x : Int) (hx : x = k) (X : Int) (hX : rd s (p + k) = X) :
  Calls Tryz.prog 46 #[.pointer (some ⟨R, 0, none⟩), .int .i64 x] w (GivesNum X w) := by
 rw [<- hX]
 exact yat_any h hs hp k hk x hx
theorem yat0 {R p : Nat} {c : Int} {s : ByteArray} {w : World} (h : AtY w R s p c) (hs : s.size <= 50000) (hp : p <= 60000) (X : Int) (hX : rd s p = X) :
  Calls Tryz.prog 46 #[.pointer (some ⟨R, 0, none⟩), .int .i64 0] w (GivesNum X w) := yat_eq h hs hp 0 (by omega) 0 rfl X hX
noncomputable def lenNum (f : Nat -> Int) (p : Nat) : Int := match lineEnd f p with | some e => (e : Int) - p | none => -1
theorem lenNum_some {f : Nat -> Int} {p e : Nat} (h : lineEnd f p = some e) : lenNum f p = (e : Int) - p := by unfold lenNum; rw [h]
theorem lenNum_none {f : Nat -> Int} {p : Nat} (h : lineEnd f p = none) : lenNum f p = -1 := by unfold lenNum; rw [h]
theorem len_a {f : Nat -> Int} {p k : Nat} (h : comEnd f p = p + k) (h1 : f (p + k) < 0) : (k : Int) = lenNum f p := by unfold lenNum lineEnd; rw [h, if_pos h1]; simp; omega
theorem len_b {f : Nat -> Int} {p k : Nat} (h : comEnd f p = p + k) (h1 : f (p + k) = 10) : (k : Int) + 1 = lenNum f p := by unfold lenNum lineEnd; rw [h, if_neg (by omega), if_pos h1]; simp; omega
theorem len_c {f : Nat -> Int} {p k : Nat} (h : comEnd f p = p + k) (h1 : f (p + k) = 13) (h2 : f (p + (k + 1)) = 10) : (k : Int) + 2 = lenNum f p := by unfold lenNum lineEnd; rw [h, if_neg (by omega), if_neg (by omega), if_pos ⟨h1, h2⟩]; simp; omega
theorem len_d {f : Nat -> Int} {p k : Nat} (h : comEnd f p = p + k) (h0 : ¬ f (p + k) < 0) (h1 : f (p + k) ≠ 10) (h2 : ¬ (f (p + k) = 13 /\ f (p + (k + 1)) = 10)) : (-1 : Int) = lenNum f p := by
 unfold lenNum lineEnd; rw [h, if_neg h0, if_neg h1, if_neg (by exact h2)]
def InEnd (s : ByteArray) (p : Nat) (w wr : World) (k : Nat) : Prop := Below w.heap.size w wr /\ 1 <= k /\ (p + k <= s.size) /\ ∀ i, p + 1 <= i -> i < p + k -> isCm (rd s i) = true
theorem yends_any {R p : Nat} {c : Int} {s : ByteArray} {w : World} (h : AtY w R s p c) (hs : s.size <= 50000) (hp : p <= 60000) :
  Calls Tryz.prog 47 #[.pointer (some ⟨R, 0, none⟩)] w (GivesNum (lenNum (rd s) p) w) := by
 have H := hh9 h
 clear h
 by_cases h59 : rd s p = 59
 ·have H59 := hh9 h59
  have hlt : p < s.size := by
   by_cases k : p < s.size
   ·exact k
   ·rw [rd_out k] at h59; omega
  clear h59
  go_enter Tryz.func47, Tryz.ntmps47
  go_wp2_with fail
  refine (yat0 H.out hs hp _ H59.out).mono ?_
  rintro e w1 ⟨rfl, hb⟩
  have HB1 := hh9 hb
  clear hb
  go_wp2_with fail
  go_loopw [3] (fun v wr => ∃ k : Nat, v = .int .i64 k /\ InEnd s p w wr k) (fun v _ => s.size - (p + (intOf v).toNat))
  case atStart => exact ⟨1, rfl, HB1.out, Nat.le_refl _, by omega, fun i h1 h2 => absurd h1 (by omega)⟩
  case round =>
   obtain ⟨k, rfl, hb, hk1, hk2, hall⟩ := hrel
   have HB := hh9 hb
   have HA := hh9 (H.out.below hb)
   have HL := hh9 hall
   clear hb hall
   obtain ⟨Z, hZ⟩ : ∃ x, rd s (p + k) = x := ⟨_, rfl⟩
   have HZ := hh9 hZ
   cases hcm : isCm Z
   ·have HC : Hid (comEnd (rd s) p = p + k) := by
     unfold comEnd
     rw [if_pos H59.out]
     exact IsRun.eq ⟨by omega, HL.out, by rw [hZ]; exact hcm⟩
    obtain ⟨g1, g2⟩ : isBl Z = false /\ ¬ (32 < Z /\ Z < 127) := by
     unfold isCm at hcm
     simp at hcm
     exact ⟨hcm.1, by omega⟩
    have G1 := hh9 g1
    clear hZ hcm g1
    by_cases a : 32 < Z
    ·have b : ¬ Z < 127 := fun b => g2 ⟨a, b⟩
     clear g2
     go_wp2_with fail
     refine (yat_eq HA.out hs hp k (by omega) _ (by omega) _ HZ.out).mono ?_
     rintro e w2 ⟨rfl, hb⟩
     have HB2 := hh9 (below_then HB.out hb)
     have HA2 := hh9 (HA.out.below hb)
     clear hb HB HA
     go_wp2_with fail
     refine (yblank_any _ _).mono ?_
     rw [G1.out]
     rintro e w' ⟨rfl, rfl⟩
     go_wp2_with fail
     refine (yat_eq HA2.out hs hp k (by omega) _ (by omega) _ HZ.out).mono ?_
     rintro e w2b ⟨rfl, hb⟩
     have HB2b := hh9 (below_then HB2.out hb)
     have HA2b := hh9 (HA2.out.below hb)
     clear hb HB2 HA2
     go_wp2_with fail
     refine (yat_eq HA2b.out hs hp k (by omega) _ (by omega) _ HZ.out).mono ?_
     rintro e w2c ⟨rfl, hb⟩
     have HB := hh9 (below_then HB2b.out hb)
     have HA := hh9 (HA2b.out.below hb)
     clear hb HB2b HA2b
     obtain ⟨X, hX⟩ : ∃ x, rd s (p + k) = x := ⟨_, rfl⟩
     have HX := hh9 hX
     clear hX
     by_cases h10 : X = 10
     ·subst h10
      go_wp2_with fail
      refine (yat_eq HA.out hs hp k (by omega) _ (by omega) _ HX.out).mono ?_
      rintro e w3 ⟨rfl, hb⟩
      have HB3 := hh9 (below_then HB.out hb)
      clear hb
      go_wp2
      go_ret
      exact ⟨ret_num (by have hlen := len_b HC.out HX.out; omega), HB3.out⟩
     ·have q10 : (X == 10) = false := by simpa using h10
      go_wp2_with fail
      refine (yat_eq HA.out hs hp k (by omega) _ (by omega) _ HX.out).mono ?_
      rintro e w3 ⟨rfl, hb⟩
      have HB3 := hh9 (below_then HB.out hb)
      have HA3 := hh9 (HA.out.below hb)
      clear hb
      by_cases h13 : X = 13
      ·subst h13
       clear q10
       by_cases h11 : rd s (p + (k + 1)) = 10
       ·have H11 := hh9 h11
        clear h11
        go_wp2_with fail
        refine (yat_eq HA3.out hs hp k (by omega) _ (by omega) _ HX.out).mono ?_
        rintro e w4 ⟨rfl, hb⟩
        have HB4 := hh9 (below_then HB3.out hb)
        have HA4 := hh9 (HA3.out.below hb)
        clear hb
        go_wp2_with fail
        refine (yat_eq HA4.out hs hp (k + 1) (by omega) _ (by omega) _ H11.out).mono ?_
        rintro e w5 ⟨rfl, hb⟩
        have HB5 := hh9 (below_then HB4.out hb)
        clear hb
        go_wp2
        go_ret
        exact ⟨ret_num (by have hlen := len_c HC.out HX.out H11.out; omega), HB5.out⟩
       ·obtain ⟨Y, hY⟩ : ∃ y, rd s (p + (k + 1)) = y := ⟨_, rfl⟩
        have q11 : (Y == 10) = false := by rw [<- hY]; simpa using h11
        have H11 := hh9 h11
        have HY := hh9 hY
        clear h11 hY
        go_wp2_with fail
        refine (yat_eq HA3.out hs hp k (by omega) _ (by omega) _ HX.out).mono ?_
        rintro e w4 ⟨rfl, hb⟩
        have HB4 := hh9 (below_then HB3.out hb)
        have HA4 := hh9 (HA3.out.below hb)
        clear hb
        go_wp2_with fail
        refine (yat_eq HA4.out hs hp (k + 1) (by omega) _ (by omega) _ HY.out).mono ?_
        rintro e w5 ⟨rfl, hb⟩
        have HB5 := hh9 (below_then HB4.out hb)
        have HA5 := hh9 (HA4.out.below hb)
        clear hb
        go_wp2_with fail
        refine (yat_eq HA5.out hs hp k (by omega) _ (by omega) _ HX.out).mono ?_
        rintro e w6 ⟨rfl, hb⟩
        have HB6 := hh9 (below_then HB5.out hb)
        clear hb
        go_wp2
        go_ret
        exact ⟨ret_num (by have hlen := len_d HC.out (by rw [HX.out]; omega) (by rw [HX.out]; omega) (fun g => H11.out g.2); omega), HB6.out⟩
      ·have q13 : (X == 13) = false := by simpa using h13
       have H13 := hh9 h13
       have H10 := hh9 h10
       clear h13 h10
       go_wp2_with fail
       refine (yat_eq HA3.out hs hp k (by omega) _ (by omega) _ HX.out).mono ?_
       rintro e w4 ⟨rfl, hb⟩
       have HB4 := hh9 (below_then HB3.out hb)
       have HA4 := hh9 (HA3.out.below hb)
       clear hb
       by_cases hn : X < 0
       ·go_wp2_with fail
        refine (yat_eq HA4.out hs hp k (by omega) _ (by omega) _ HX.out).mono ?_
        rintro e w5 ⟨rfl, hb⟩
        have HB5 := hh9 (below_then HB4.out hb)
        clear hb
        go_wp2
        go_ret
        exact ⟨ret_num (by have hlen := len_a HC.out (by rw [HX.out]; omega); omega), HB5.out⟩
       ·go_wp2_with fail
        refine (yat_eq HA4.out hs hp k (by omega) _ (by omega) _ HX.out).mono ?_
        rintro e w5 ⟨rfl, hb⟩
        have HB5 := hh9 (below_then HB4.out hb)
        clear hb
        go_wp2
        go_ret
        exact ⟨ret_num (by have hlen := len_d HC.out (by rw [HX.out]; omega) (by rw [HX.out]; exact H10.out) (fun g => H13.out (by rw [<- HX.out]; exact g.1)); omega), HB5.out⟩
    ·clear g2
     go_wp2_with fail
     refine (yat_eq HA.out hs hp k (by omega) _ (by omega) _ HZ.out).mono ?_
     rintro e w2 ⟨rfl, hb⟩
     have HB2 := hh9 (below_then HB.out hb)
     have HA2 := hh9 (HA.out.below hb)
     clear hb HB HA
     go_wp2_with fail
     refine (yblank_any _ _).mono ?_
     rw [G1.out]
     rintro e w' ⟨rfl, rfl⟩
     go_wp2_with fail
     refine (yat_eq HA2.out hs hp k (by omega) _ (by omega) _ HZ.out).mono ?_
     rintro e w2b ⟨rfl, hb⟩
     have HB := hh9 (below_then HB2.out hb)
     have HA := hh9 (HA2.out.below hb)
     clear hb HB2 HA2
     obtain ⟨X, hX⟩ : ∃ x, rd s (p + k) = x := ⟨_, rfl⟩
     have HX := hh9 hX
     clear hX
     by_cases h10 : X = 10
     ·subst h10
      go_wp2_with fail
      refine (yat_eq HA.out hs hp k (by omega) _ (by omega) _ HX.out).mono ?_
      rintro e w3 ⟨rfl, hb⟩
      have HB3 := hh9 (below_then HB.out hb)
      clear hb
      go_wp2
      go_ret
      exact ⟨ret_num (by have hlen := len_b HC.out HX.out; omega), HB3.out⟩
     ·have q10 : (X == 10) = false := by simpa using h10
      go_wp2_with fail
      refine (yat_eq HA.out hs hp k (by omega) _ (by omega) _ HX.out).mono ?_
      rintro e w3 ⟨rfl, hb⟩
      have HB3 := hh9 (below_then HB.out hb)
      have HA3 := hh9 (HA.out.below hb)
      clear hb
      by_cases h13 : X = 13
      ·subst h13
       clear q10
       by_cases h11 : rd s (p + (k + 1)) = 10
       ·have H11 := hh9 h11
        clear h11
        go_wp2_with fail
        refine (yat_eq HA3.out hs hp k (by omega) _ (by omega) _ HX.out).mono ?_
        rintro e w4 ⟨rfl, hb⟩
        have HB4 := hh9 (below_then HB3.out hb)
        have HA4 := hh9 (HA3.out.below hb)
        clear hb
        go_wp2_with fail
        refine (yat_eq HA4.out hs hp (k + 1) (by omega) _ (by omega) _ H11.out).mono ?_
        rintro e w5 ⟨rfl, hb⟩
        have HB5 := hh9 (below_then HB4.out hb)
        clear hb
        go_wp2
        go_ret
        exact ⟨ret_num (by have hlen := len_c HC.out HX.out H11.out; omega), HB5.out⟩
       ·obtain ⟨Y, hY⟩ : ∃ y, rd s (p + (k + 1)) = y := ⟨_, rfl⟩
        have q11 : (Y == 10) = false := by rw [<- hY]; simpa using h11
        have H11 := hh9 h11
        have HY := hh9 hY
        clear h11 hY
        go_wp2_with fail
        refine (yat_eq HA3.out hs hp k (by omega) _ (by omega) _ HX.out).mono ?_
        rintro e w4 ⟨rfl, hb⟩
        have HB4 := hh9 (below_then HB3.out hb)
        have HA4 := hh9 (HA3.out.below hb)
        clear hb
        go_wp2_with fail
        refine (yat_eq HA4.out hs hp (k + 1) (by omega) _ (by omega) _ HY.out).mono ?_
        rintro e w5 ⟨rfl, hb⟩
        have HB5 := hh9 (below_then HB4.out hb)
        have HA5 := hh9 (HA4.out.below hb)
        clear hb
        go_wp2_with fail
        refine (yat_eq HA5.out hs hp k (by omega) _ (by omega) _ HX.out).mono ?_
        rintro e w6 ⟨rfl, hb⟩
        have HB6 := hh9 (below_then HB5.out hb)
        clear hb
        go_wp2
        go_ret
        exact ⟨ret_num (by have hlen := len_d HC.out (by rw [HX.out]; omega) (by rw [HX.out]; omega) (fun g => H11.out g.2); omega), HB6.out⟩
      ·have q13 : (X == 13) = false := by simpa using h13
       have H13 := hh9 h13
       have H10 := hh9 h10
       clear h13 h10
       go_wp2_with fail
       refine (yat_eq HA3.out hs hp k (by omega) _ (by omega) _ HX.out).mono ?_
       rintro e w4 ⟨rfl, hb⟩
       have HB4 := hh9 (below_then HB3.out hb)
       have HA4 := hh9 (HA3.out.below hb)
       clear hb
       by_cases hn : X < 0
       ·go_wp2_with fail
        refine (yat_eq HA4.out hs hp k (by omega) _ (by omega) _ HX.out).mono ?_
        rintro e w5 ⟨rfl, hb⟩
        have HB5 := hh9 (below_then HB4.out hb)
        clear hb
        go_wp2
        go_ret
        exact ⟨ret_num (by have hlen := len_a HC.out (by rw [HX.out]; omega); omega), HB5.out⟩
       ·go_wp2_with fail
        refine (yat_eq HA4.out hs hp k (by omega) _ (by omega) _ HX.out).mono ?_
        rintro e w5 ⟨rfl, hb⟩
        have HB5 := hh9 (below_then HB4.out hb)
        clear hb
        go_wp2
        go_ret
        exact ⟨ret_num (by have hlen := len_d HC.out (by rw [HX.out]; omega) (by rw [HX.out]; exact H10.out) (fun g => H13.out (by rw [<- HX.out]; exact g.1)); omega), HB5.out⟩
   ·have hlt2 : p + k < s.size := by
     by_cases g : p + k < s.size
     ·exact g
     ·rw [rd_out g] at hZ; subst hZ; simp [isCm, isBl] at hcm
    have HN : Hid (∀ i, p + 1 <= i -> i < p + (k + 1) -> isCm (rd s i) = true) := by
     intro i h1 h2
     by_cases g : i = p + k
     ·rw [g, hZ]; exact hcm
     ·exact HL.out i h1 (by omega)
    clear hZ
    cases g1 : isBl Z
    ·obtain ⟨a, b⟩ : 32 < Z /\ Z < 127 := by
      unfold isCm at hcm
      rw [g1] at hcm
      simp at hcm
      omega
     have G1 := hh9 g1
     clear g1 hcm
     go_wp2_with fail
     refine (yat_eq HA.out hs hp k (by omega) _ (by omega) _ HZ.out).mono ?_
     rintro e w2 ⟨rfl, hb⟩
     have HB2 := hh9 (below_then HB.out hb)
     have HA2 := hh9 (HA.out.below hb)
     clear hb
     go_wp2_with fail
     refine (yblank_any _ _).mono ?_
     rw [G1.out]
     rintro e w' ⟨rfl, rfl⟩
     go_wp2_with fail
     refine (yat_eq HA2.out hs hp k (by omega) _ (by omega) _ HZ.out).mono ?_
     rintro e w3 ⟨rfl, hb⟩
     have HB3 := hh9 (below_then HB2.out hb)
     have HA3 := hh9 (HA2.out.below hb)
     clear hb
     go_wp2_with fail
     refine (yat_eq HA3.out hs hp k (by omega) _ (by omega) _ HZ.out).mono ?_
     rintro e w4 ⟨rfl, hb⟩
     have HB4 := hh9 (below_then HB3.out hb)
     clear hb
     go_wp2_with fail
     go_roundw
     case rel => exact ⟨k + 1, int_eq (by omega), HB4.out, by omega, by omega, HN.out⟩
     case measure => simp [intOf]; omega
    ·have G1 := hh9 g1
     clear g1 hcm
     go_wp2_with fail
     refine (yat_eq HA.out hs hp k (by omega) _ (by omega) _ HZ.out).mono ?_
     rintro e w2 ⟨rfl, hb⟩
     have HB2 := hh9 (below_then HB.out hb)
     clear hb
     go_wp2_with fail
     refine (yblank_any _ _).mono ?_
     rw [G1.out]
     rintro e w' ⟨rfl, rfl⟩
     go_wp2_with fail
     go_roundw
     case rel => exact ⟨k + 1, int_eq (by omega), HB2.out, by omega, by omega, HN.out⟩
     case measure => simp [intOf]; omega
 ·obtain ⟨X0, hX0⟩ : ∃ x, rd s p = x := ⟨_, rfl⟩
  have q59 : (X0 == 59) = false := by rw [<- hX0]; simpa using h59
  have HX0 := hh9 hX0
  have HC : Hid (comEnd (rd s) p = p + 0) := by unfold comEnd; rw [if_neg h59]; rfl
  clear hX0 h59
  go_enter Tryz.func47, Tryz.ntmps47
  go_wp2_with fail
  refine (yat0 H.out hs hp _ HX0.out).mono ?_
  rintro e w1 ⟨rfl, hb⟩
  have HB := hh9 hb
  have HA := hh9 (H.out.below hb)
  clear hb
  obtain ⟨X, hX⟩ : ∃ x, rd s (p + 0) = x := ⟨_, rfl⟩
  have HX := hh9 hX
  clear hX
  by_cases h10 : X = 10
  ·subst h10
   go_wp2_with fail
   refine (yat_eq HA.out hs hp 0 (by omega) _ (by omega) _ HX.out).mono ?_
   rintro e w3 ⟨rfl, hb⟩
   have HB3 := hh9 (below_then HB.out hb)
   clear hb
   go_wp2
   go_ret
   exact ⟨ret_num (by have hlen := len_b HC.out HX.out; omega), HB3.out⟩
  ·have q10 : (X == 10) = false := by simpa using h10
   go_wp2_with fail
   refine (yat_eq HA.out hs hp 0 (by omega) _ (by omega) _ HX.out).mono ?_
   rintro e w3 ⟨rfl, hb⟩
   have HB3 := hh9 (below_then HB.out hb)
   have HA3 := hh9 (HA.out.below hb)
   clear hb
   by_cases h13 : X = 13
   ·subst h13
    clear q10
    by_cases h11 : rd s (p + (0 + 1)) = 10
    ·have H11 := hh9 h11
     clear h11
     go_wp2_with fail
     refine (yat_eq HA3.out hs hp 0 (by omega) _ (by omega) _ HX.out).mono ?_
     rintro e w4 ⟨rfl, hb⟩
     have HB4 := hh9 (below_then HB3.out hb)
     have HA4 := hh9 (HA3.out.below hb)
     clear hb
     go_wp2_with fail
     refine (yat_eq HA4.out hs hp (0 + 1) (by omega) _ (by omega) _ H11.out).mono ?_
     rintro e w5 ⟨rfl, hb⟩
     have HB5 := hh9 (below_then HB4.out hb)
     clear hb
     go_wp2
     go_ret
     exact ⟨ret_num (by have hlen := len_c HC.out HX.out H11.out; omega), HB5.out⟩
    ·obtain ⟨Y, hY⟩ : ∃ y, rd s (p + (0 + 1)) = y := ⟨_, rfl⟩
     have q11 : (Y == 10) = false := by rw [<- hY]; simpa using h11
     have H11 := hh9 h11
     have HY := hh9 hY
     clear h11 hY
     go_wp2_with fail
     refine (yat_eq HA3.out hs hp 0 (by omega) _ (by omega) _ HX.out).mono ?_
     rintro e w4 ⟨rfl, hb⟩
     have HB4 := hh9 (below_then HB3.out hb)
     have HA4 := hh9 (HA3.out.below hb)
     clear hb
     go_wp2_with fail
     refine (yat_eq HA4.out hs hp (0 + 1) (by omega) _ (by omega) _ HY.out).mono ?_
     rintro e w5 ⟨rfl, hb⟩
     have HB5 := hh9 (below_then HB4.out hb)
     have HA5 := hh9 (HA4.out.below hb)
     clear hb
     go_wp2_with fail
     refine (yat_eq HA5.out hs hp 0 (by omega) _ (by omega) _ HX.out).mono ?_
     rintro e w6 ⟨rfl, hb⟩
     have HB6 := hh9 (below_then HB5.out hb)
     clear hb
     go_wp2
     go_ret
     exact ⟨ret_num (by have hlen := len_d HC.out (by rw [HX.out]; omega) (by rw [HX.out]; omega) (fun g => H11.out g.2); omega), HB6.out⟩
   ·have q13 : (X == 13) = false := by simpa using h13
    have H13 := hh9 h13
    have H10 := hh9 h10
    clear h13 h10
    go_wp2_with fail
    refine (yat_eq HA3.out hs hp 0 (by omega) _ (by omega) _ HX.out).mono ?_
    rintro e w4 ⟨rfl, hb⟩
    have HB4 := hh9 (below_then HB3.out hb)
    have HA4 := hh9 (HA3.out.below hb)
    clear hb
    by_cases hn : X < 0
    ·go_wp2_with fail
     refine (yat_eq HA4.out hs hp 0 (by omega) _ (by omega) _ HX.out).mono ?_
     rintro e w5 ⟨rfl, hb⟩
     have HB5 := hh9 (below_then HB4.out hb)
     clear hb
     go_wp2
     go_ret
     exact ⟨ret_num (by have hlen := len_a HC.out (by rw [HX.out]; omega); omega), HB5.out⟩
    ·go_wp2_with fail
     refine (yat_eq HA4.out hs hp 0 (by omega) _ (by omega) _ HX.out).mono ?_
     rintro e w5 ⟨rfl, hb⟩
     have HB5 := hh9 (below_then HB4.out hb)
     clear hb
     go_wp2
     go_ret
     exact ⟨ret_num (by have hlen := len_d HC.out (by rw [HX.out]; omega) (by rw [HX.out]; exact H10.out) (fun g => H13.out (by rw [<- HX.out]; exact g.1)); omega), HB5.out⟩
end Go.Proofs.YtpopgjgngbiofaaGreatDoor
namespace Go.Proofs.YtpopgjgngbiofaaGreatDoor
open Go.RowKit
def SkipsY (R : Nat) (s : ByteArray) (p : Nat) (w : World) (e : Ending) (w' : World) : Prop :=
 ∃ q, Skip (rd s) p q /\ p <= q /\ q <= s.size /\ GivesY R s (.bool (decide (p < q))) q 0 w e w'
def InSkipY (R : Nat) (s : ByteArray) (p : Nat) (w wr : World) (q : Nat) : Prop :=
 AtY wr R s q 0 /\ w.grownBy wr (some R) /\ p <= q /\ q <= s.size /\ ∀ z, Skip (rd s) q z -> Skip (rd s) p z
theorem len_range {s : ByteArray} {q : Nat} : lenNum (rd s) q = -1 /\ lineEnd (rd s) q = none \/ ∃ e, lineEnd (rd s) q = some e /\ lenNum (rd s) q = (e : Int) - q := by
 cases h : lineEnd (rd s) q with
 | none => exact .inl ⟨lenNum_none h, rfl⟩
 | some e => exact .inr ⟨e, rfl, lenNum_some h⟩
theorem yskip_later {R p : Nat} {c : Int} {s : ByteArray} {w : World} (h : AtY w R s p c) (hc : c ≠ 0) (hs : s.size <= 50000) :
  Calls Tryz.prog 66 #[.pointer (some ⟨R, 0, none⟩)] w (GivesY R s (.bool false) p c w) := by
 obtain ⟨c0, c1, c2, z0, z1, z2⟩ := h.cells
 have H := hh9 h
 have q1 : (c == 0) = false := by simpa using hc
 clear h
 go_enter Tryz.func66, Tryz.ntmps66
 go_wp2_with fail
 go_loopw [] (fun wr => wr = w) (fun wr => 0)
 case atStart => rfl
 case round =>
  subst hrel
  go_wp2_with fail
  go_ret
  exact ⟨rfl, H.out, grown_refl _ _⟩
theorem yskip_any {R p : Nat} {s : ByteArray} {w : World} (h : AtY w R s p 0) (hs : s.size <= 50000) (hp : p <= s.size) :
  Calls Tryz.prog 66 #[.pointer (some ⟨R, 0, none⟩)] w (SkipsY R s p w) := by
 obtain ⟨c0, c1, c2, z0, z1, z2⟩ := h.cells
 have H := hh9 h
 clear h
 go_enter Tryz.func66, Tryz.ntmps66
 go_wp2_with fail
 clear c0 c1 c2 z0 z1 z2
 go_loopw [] (fun wr => ∃ q : Nat, InSkipY R s p w wr q) (fun wr => s.size - posOf R wr)
 case atStart => exact ⟨p, H.out, grown_refl _ _, Nat.le_refl _, hp, fun z hz => hz⟩
 case round =>
  obtain ⟨q, ha, hg, hpq, hqs, hall⟩ := hrel
  have HA := hh9 ha
  have HG := hh9 hg
  have HL := hh9 hall
  have HM := hh9 ha.pos
  obtain ⟨c0, c1, c2, z0, z1, z2⟩ := ha.cells
  obtain ⟨Z, hZ⟩ : ∃ x, rd s q = x := ⟨_, rfl⟩
  have HZ := hh9 hZ
  obtain ⟨L, hLn⟩ : ∃ x, lenNum (rd s) q = x := ⟨_, rfl⟩
  have HLN := hh9 hLn
  have hlen := len_range (s := s) (q := q)
  rw [hLn] at hlen
  clear ha hg hall
  cases hb : isBl Z
  ·have HB0 := hh9 hb
   by_cases hy : ∃ e, lineEnd (rd s) q = some e /\ isBl (rd s e) = true
   ·obtain ⟨e0, hl, hbe⟩ := hy
    have hes : e0 < s.size := by
     by_cases g : e0 < s.size
     ·exact g
     ·rw [rd_out g] at hbe; simp [isBl] at hbe
    obtain ⟨k, hk⟩ : ∃ k : Nat, L = (k : Int) /\ q + k = e0 /\ 0 < k := by
     rcases hlen with ⟨_, g⟩ | ⟨e1, g1, g2⟩
     ·rw [hl] at g; cases g
     ·obtain rfl : e0 = e1 := by rw [hl] at g1; cases g1; rfl
      have hqe : q < e0 := by
       have hqe' := (end_le hqs hl).1
       rcases Nat.lt_or_ge q e0 with g | g
       ·exact g
       ·obtain rfl : q = e0 := by omega
        rw [hZ, hb] at hbe; cases hbe
      exact ⟨e0 - q, by omega, by omega, by omega⟩
    obtain ⟨rfl, hke, hk0⟩ := hk
    have HE : Hid (isBl (rd s (q + k)) = true) := by rw [hke]; exact hbe
    have HNX : Hid (∀ z, Skip (rd s) (q + k) z -> Skip (rd s) p z) := by
     intro z hz
     cases hz with
     | blank _ hz => exact HL.out z (.line (by rw [hZ]; exact hb) hl hbe (by rw [<- hke]; exact hz))
     | line g => rw [HE.out] at g; cases g
     | here g => rw [HE.out] at g; cases g
    have hk3 : q + k <= s.size := by omega
    clear hZ hLn hlen hl hbe hb hke hes
    go_wp2_with fail
    refine (yends_any HA.out hs (by omega)).mono ?_
    rw [HLN.out]
    rintro e w1 ⟨rfl, hb⟩
    have HA1 := hh9 (HA.out.below hb)
    have HG1 := hh9 (grown_below HG.out hb)
    clear hb
    go_wp2_with fail
    refine (yat0 HA1.out hs (by omega) _ HZ.out).mono ?_
    rintro e w2 ⟨rfl, hb⟩
    have HA2 := hh9 (HA1.out.below hb)
    have HG2 := hh9 (grown_below HG1.out hb)
    clear hb
    go_wp2_with fail
    refine (yblank_any _ _).mono ?_
    rw [HB0.out]
    rintro e w' ⟨rfl, rfl⟩
    go_wp2_with fail
    refine (yat_eq HA2.out hs (by omega) k (by omega) _ (by omega) _ rfl).mono ?_
    rintro e w3 ⟨rfl, hb⟩
    have HA3 := hh9 (HA2.out.below hb)
    have HG3 := hh9 (grown_below HG2.out hb)
    obtain ⟨d0, d1, d2, y0, y1, y2⟩ := HA3.out.cells
    clear hb c0 c1 c2 z0 z1 z2
    go_wp2_with fail
    refine (yblank_any _ _).mono ?_
    rw [HE.out]
    rintro e w' ⟨rfl, rfl⟩
    go_wp2_with fail
    go_roundw
    case rel => exact ⟨q + k, HA3.out.put (by omega), grown_set HG3.out _ _, by omega, by omega, HNX.out⟩
    case measure =>
     rw [HM.out, (HA3.out.put (x := (q : Int) + (k : Int)) (q := q + k) (by omega)).pos]
     omega
   ·have HF : Hid (Skip (rd s) p q) := HL.out q (.here (by rw [hZ]; exact hb) (fun e g => by cases hx : isBl (rd s e) with | true => exact absurd ⟨e, g, hx⟩ hy | false => rfl))
    by_cases hL : 0 < L
    ·obtain ⟨k, hk, hne⟩ : ∃ k : Nat, L = (k : Int) /\ isBl (rd s (q + k)) = false := by
      rcases hlen with ⟨g, _⟩ | ⟨e1, g1, g2⟩
      ·omega
      ·refine ⟨e1 - q, by omega, ?_⟩
       rw [show q + (e1 - q) = e1 by omega]
       cases hx : isBl (rd s e1) with
       | true => exact absurd ⟨e1, g1, hx⟩ hy
       | false => rfl
     subst hk
     have HE := hh9 hne
     have hk2 : k <= 60000 := by
      rcases hlen with ⟨g, _⟩ | ⟨e1, g1, g2⟩
      ·omega
      ·have := (end_le hqs g1).2
       omega
     clear hZ hLn hlen hy hb hne
     go_wp2_with fail
     refine (yends_any HA.out hs (by omega)).mono ?_
     rw [HLN.out]
     rintro e w1 ⟨rfl, hb⟩
     have HA1 := hh9 (HA.out.below hb)
     have HG1 := hh9 (grown_below HG.out hb)
     clear hb
     go_wp2_with fail
     refine (yat0 HA1.out hs (by omega) _ HZ.out).mono ?_
     rintro e w2 ⟨rfl, hb⟩
     have HA2 := hh9 (HA1.out.below hb)
     have HG2 := hh9 (grown_below HG1.out hb)
     clear hb
     go_wp2_with fail
     refine (yblank_any _ _).mono ?_
     rw [HB0.out]
     rintro e w' ⟨rfl, rfl⟩
     go_wp2_with fail
     refine (yat_eq HA2.out hs (by omega) k (by omega) _ (by omega) _ rfl).mono ?_
     rintro e w3 ⟨rfl, hb⟩
     have HA3 := hh9 (HA2.out.below hb)
     have HG3 := hh9 (grown_below HG2.out hb)
     obtain ⟨d0, d1, d2, y0, y1, y2⟩ := HA3.out.cells
     clear hb c0 c1 c2 z0 z1 z2
     go_wp2_with fail
     refine (yblank_any _ _).mono ?_
     rw [HE.out]
     rintro e w' ⟨rfl, rfl⟩
     go_wp2_with fail
     go_ret
     exact ⟨q, HF.out, hpq, hqs, by simp, HA3.out, HG3.out⟩
    ·clear hZ hLn hlen hy hb
     go_wp2_with fail
     refine (yends_any HA.out hs (by omega)).mono ?_
     rw [HLN.out]
     rintro e w1 ⟨rfl, hb⟩
     have HA1 := hh9 (HA.out.below hb)
     have HG1 := hh9 (grown_below HG.out hb)
     clear hb
     go_wp2_with fail
     refine (yat0 HA1.out hs (by omega) _ HZ.out).mono ?_
     rintro e w2 ⟨rfl, hb⟩
     have HA2 := hh9 (HA1.out.below hb)
     have HG2 := hh9 (grown_below HG1.out hb)
     obtain ⟨d0, d1, d2, y0, y1, y2⟩ := HA2.out.cells
     clear hb c0 c1 c2 z0 z1 z2
     go_wp2_with fail
     refine (yblank_any _ _).mono ?_
     rw [HB0.out]
     rintro e w' ⟨rfl, rfl⟩
     go_wp2_with fail
     go_ret
     exact ⟨q, HF.out, hpq, hqs, by simp, HA2.out, HG2.out⟩
  ·have HB0 := hh9 hb
   have hlt : q < s.size := by
    by_cases g : q < s.size
    ·exact g
    ·rw [rd_out g] at hZ; subst hZ; simp [isBl] at hb
   have HNX : Hid (∀ z, Skip (rd s) (q + 1) z -> Skip (rd s) p z) := fun z hz => HL.out z (.blank (by rw [hZ]; exact hb) hz)
   clear hZ hLn hlen hb
   go_wp2_with fail
   refine (yends_any HA.out hs (by omega)).mono ?_
   rw [HLN.out]
   rintro e w1 ⟨rfl, hb⟩
   have HA1 := hh9 (HA.out.below hb)
   have HG1 := hh9 (grown_below HG.out hb)
   clear hb
   go_wp2_with fail
   refine (yat0 HA1.out hs (by omega) _ HZ.out).mono ?_
   rintro e w2 ⟨rfl, hb⟩
   have HA2 := hh9 (HA1.out.below hb)
   have HG2 := hh9 (grown_below HG1.out hb)
   obtain ⟨d0, d1, d2, y0, y1, y2⟩ := HA2.out.cells
   clear hb c0 c1 c2 z0 z1 z2
   go_wp2_with fail
   refine (yblank_any _ _).mono ?_
   rw [HB0.out]
   rintro e w' ⟨rfl, rfl⟩
   go_wp2_with fail
   go_roundw
   case rel => exact ⟨q + 1, HA2.out.step, grown_set HG2.out _ _, by omega, by omega, HNX.out⟩
   case measure =>
    rw [HM.out, HA2.out.step.pos]
    omega
end Go.Proofs.YtpopgjgngbiofaaGreatDoor
