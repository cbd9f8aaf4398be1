/- The program's hasForm: has one its form, apart from its kids and their order? No condition but size. -/
import Derived.Test.YtchicecmoknkjabDoorForm
namespace Go.Proofs.YtchicecmoknkjabDoor
open Go.RowKit Go.Lib
set_option linter.unusedVariables false
set_option linter.unusedSimpArgs false

/-- What hasForm asks. -/
def fB (x : ReV) (vs : List ReV) : Bool :=
  (decide (x.w4 = W4.zero) == !(x.kind == 2)) &&
  (if x.kind = 0 ∨ x.kind = 1 ∨ x.kind = 2 then x.n == 0
   else if x.kind = 5 then (x.n == 1) && !(vs.any fun y => [0, 1, 5].contains y.kind)
   else if x.kind = 3 then decide (2 ≤ x.n) && !(vs.any fun y => [0, 1, 3].contains y.kind)
   else if x.kind = 4 then (decide (2 ≤ x.n) && !(vs.any fun y => [0, 4].contains y.kind)) && !(sevB vs)
   else false)

theorem fB_no {x : ReV} {vs : List ReV} (h : (decide (x.w4 = W4.zero) == !(x.kind == 2)) = false) : fB x vs = false := by unfold fB; rw [h, Bool.false_and]
theorem fB_leaf {x : ReV} {vs : List ReV} (h : (decide (x.w4 = W4.zero) == !(x.kind == 2)) = true) (k : x.kind = 0 ∨ x.kind = 1 ∨ x.kind = 2) : fB x vs = (x.n == 0) := by unfold fB; rw [h, Bool.true_and, if_pos k]
theorem fB_5 {x : ReV} {vs : List ReV} (h : (decide (x.w4 = W4.zero) == !(x.kind == 2)) = true) (k : x.kind = 5) : fB x vs = ((x.n == 1) && !(vs.any fun y => [0, 1, 5].contains y.kind)) := by
  unfold fB; rw [h, Bool.true_and, if_neg (by omega), if_pos k]
theorem fB_3 {x : ReV} {vs : List ReV} (h : (decide (x.w4 = W4.zero) == !(x.kind == 2)) = true) (k : x.kind = 3) : fB x vs = (decide (2 ≤ x.n) && !(vs.any fun y => [0, 1, 3].contains y.kind)) := by
  unfold fB; rw [h, Bool.true_and, if_neg (by omega), if_neg (by omega), if_pos k]
theorem fB_4 {x : ReV} {vs : List ReV} (h : (decide (x.w4 = W4.zero) == !(x.kind == 2)) = true) (k : x.kind = 4) : fB x vs = ((decide (2 ≤ x.n) && !(vs.any fun y => [0, 4].contains y.kind)) && !(sevB vs)) := by
  unfold fB; rw [h, Bool.true_and, if_neg (by omega), if_neg (by omega), if_neg (by omega), if_pos k]
theorem fB_none {x : ReV} {vs : List ReV} (h : ¬ (x.kind = 0 ∨ x.kind = 1 ∨ x.kind = 2)) (h5 : x.kind ≠ 5) (h3 : x.kind ≠ 3) (h4 : x.kind ≠ 4) : fB x vs = false := by
  unfold fB; rw [if_neg h, if_neg h5, if_neg h3, if_neg h4, Bool.and_false]

def Held6 (w : World) (bo oo : Nat) (k a b c d : Int) (p : Option Addr) (n cap : Nat) (W : World) : Prop :=
  (W.cell? ⟨bo, oo, none⟩ = some (.int .i64 k) ∧ W.cell? ⟨bo, oo + 1, none⟩ = some (.int .u64 a) ∧ W.cell? ⟨bo, oo + 2, none⟩ = some (.int .u64 b) ∧ W.cell? ⟨bo, oo + 3, none⟩ = some (.int .u64 c) ∧ W.cell? ⟨bo, oo + 4, none⟩ = some (.int .u64 d) ∧ W.cell? ⟨bo, oo + 5, none⟩ = some (.slice p n cap)) ∧ PlaceR W bo oo ⟨k, a, b, c, d, p, n, cap⟩ ∧ Below w.heap.size w W
theorem Held6.of {w W : World} {bo oo : Nat} {k a b c d : Int} {p : Option Addr} {n cap : Nat} (hp : PlaceR W bo oo ⟨k, a, b, c, d, p, n, cap⟩) (hb : Below w.heap.size w W) : Held6 w bo oo k a b c d p n cap W := ⟨hp.six, hp, hb⟩
theorem Held6.step {w W W' : World} {bo oo : Nat} {k a b c d : Int} {p : Option Addr} {n cap : Nat} (hb : Below W.heap.size W W') (h : Held6 w bo oo k a b c d p n cap W) : Held6 w bo oo k a b c d p n cap W' :=
  .of (h.2.1.under hb) (h.2.2.trans (hb.mono h.2.2.size))
theorem Held6.drew {w W : World} {bo oo : Nat} {k a b c d : Int} {p : Option Addr} {n cap : Nat} (h : Held6 w bo oo k a b c d p n cap W) : Held6 w bo oo k a b c d p n cap W.drew :=
  .of ⟨h.2.1.blk, h.2.1.cell⟩ (below_drawn h.2.2 1)

set_option maxRecDepth 100000 in
set_option maxHeartbeats 4000000 in
theorem hasform_any {P : Nat → Prop} (w : World) (bo oo : Nat) (x : ReV) (vs : List ReV) (hp : PlaceR w bo oo x) (hr : RowV w P x.p x.n x.cap vs) :
    Calls Tryd.prog 29 #[.pointer (some ⟨bo, oo, none⟩)] w (GivesBool (fB x vs) w) := by
  obtain ⟨p0, p1, p2, p3, p4, p5⟩ := hp.six
  obtain ⟨k, a, b, c, d, p, n, cap⟩ := x
  simp only at p0 p1 p2 p3 p4 p5 hr
  have hcap : n = 0 ∨ (n ≤ cap ∧ cap ≤ maxLen) := by
    rcases hr.row with ⟨h, _⟩ | ⟨_, _, _, h2, h3, _⟩
    · exact .inl h
    · exact .inr ⟨h2, h3⟩
  have hn : n ≤ 9223372036854775807 := by
    rcases hcap with h | ⟨h2, h3⟩
    · omega
    · unfold maxLen at h3; omega
  have H0 : Held6 w bo oo k a b c d p n cap w := .of hp (Below.refl _ _)
  obtain ⟨R, hR⟩ : ∃ R, R = fB ⟨k, a, b, c, d, p, n, cap⟩ vs := ⟨_, rfl⟩
  obtain ⟨E, hE⟩ : ∃ E, E = decide ((⟨a, b, c, d⟩ : W4) = W4.zero) := ⟨_, rfl⟩
  have c1 : ∀ W, Calls Tryd.prog 31 #[.agg #[.int .u64 a, .int .u64 b, .int .u64 c, .int .u64 d]] W (GivesBool E W) := fun W => by rw [hE]; exact isempty_any W a b c d
  rw [← hR]
  have HRR := Lib.hid hR
  have HE := Lib.hid hE
  have HR := Lib.hid hr
  have HC := Lib.hid hcap
  clear hp hr hR hE p0 p1 p2 p3 p4 p5 hcap
  have hmix : Tryd.prog.follows .mixedOrders = true := by kernel_rfl
  go_enter Tryd.func29, Tryd.ntmps29
  go_wp2_with fail
  go_region_held3 (fun W => (W.cell? ⟨bo, oo, none⟩ = some (.int .i64 k) ∧ W.cell? ⟨bo, oo + 1, none⟩ = some (.int .u64 a) ∧ W.cell? ⟨bo, oo + 2, none⟩ = some (.int .u64 b) ∧ W.cell? ⟨bo, oo + 3, none⟩ = some (.int .u64 c) ∧ W.cell? ⟨bo, oo + 4, none⟩ = some (.int .u64 d) ∧ W.cell? ⟨bo, oo + 5, none⟩ = some (.slice p n cap)) ∧ PlaceR W bo oo ⟨k, a, b, c, d, p, n, cap⟩ ∧ Below w.heap.size w W)
    (first | exact Held6.step (by assumption) (by assumption) | exact Held6.drew (by assumption))
    (first | (go_at_call 31; refine (c1 _).mono ?_; rintro e w' ⟨rfl, hb⟩))
  rename_i hS
  obtain ⟨⟨p0, p1, p2, p3, p4, p5⟩, hp2, hb2⟩ := hS
  rename World => w2
  have HP2 := Lib.hid hp2
  have HB := Lib.hid hb2
  clear hp2 hb2
  obtain ⟨V, hV⟩ : ∃ V, V = (E == (k != 2)) := ⟨_, rfl⟩
  rw [← hV]
  have HV := Lib.hid hV
  clear hV
  cases V with
  | false =>
    go_wp2
    go_ret
    refine ⟨?_, HB.out⟩
    rw [HRR.out, fB_no (x := ⟨k, a, b, c, d, p, n, cap⟩) (show (decide ((⟨a, b, c, d⟩ : W4) = W4.zero) == !(k == 2)) = false by rw [← HE.out]; exact HV.out.symm)]
    exact rfl
  | true =>
    by_cases k0 : k = 0
    · subst k0
      have hv2 : (decide ((⟨a, b, c, d⟩ : W4) = W4.zero) == !((0 : Int) == 2)) = true := by rw [← HE.out]; exact HV.out.symm
      obtain ⟨Z, hZ⟩ : ∃ Z, Z = (n == 0) := ⟨_, rfl⟩
      have hz : ((n : Int) == 0) = Z := by rw [hZ]; cases n <;> rfl
      have HZ := Lib.hid hZ
      clear hZ
      go_wp2
      go_ret
      refine ⟨?_, HB.out⟩
      rw [HRR.out, fB_leaf (x := ⟨0, a, b, c, d, p, n, cap⟩) hv2 (by first | exact .inl rfl | exact .inr (.inl rfl) | exact .inr (.inr rfl))]
      show _ = Ending.returned (.bool (n == 0))
      rw [← HZ.out]
      exact rfl
    by_cases k1 : k = 1
    · subst k1
      have hv2 : (decide ((⟨a, b, c, d⟩ : W4) = W4.zero) == !((1 : Int) == 2)) = true := by rw [← HE.out]; exact HV.out.symm
      obtain ⟨Z, hZ⟩ : ∃ Z, Z = (n == 0) := ⟨_, rfl⟩
      have hz : ((n : Int) == 0) = Z := by rw [hZ]; cases n <;> rfl
      have HZ := Lib.hid hZ
      clear hZ
      go_wp2
      go_ret
      refine ⟨?_, HB.out⟩
      rw [HRR.out, fB_leaf (x := ⟨1, a, b, c, d, p, n, cap⟩) hv2 (by first | exact .inl rfl | exact .inr (.inl rfl) | exact .inr (.inr rfl))]
      show _ = Ending.returned (.bool (n == 0))
      rw [← HZ.out]
      exact rfl
    by_cases k2 : k = 2
    · subst k2
      have hv2 : (decide ((⟨a, b, c, d⟩ : W4) = W4.zero) == !((2 : Int) == 2)) = true := by rw [← HE.out]; exact HV.out.symm
      obtain ⟨Z, hZ⟩ : ∃ Z, Z = (n == 0) := ⟨_, rfl⟩
      have hz : ((n : Int) == 0) = Z := by rw [hZ]; cases n <;> rfl
      have HZ := Lib.hid hZ
      clear hZ
      go_wp2
      go_ret
      refine ⟨?_, HB.out⟩
      rw [HRR.out, fB_leaf (x := ⟨2, a, b, c, d, p, n, cap⟩) hv2 (by first | exact .inl rfl | exact .inr (.inl rfl) | exact .inr (.inr rfl))]
      show _ = Ending.returned (.bool (n == 0))
      rw [← HZ.out]
      exact rfl
    have r0 : (k == 0) = false := by simpa using k0
    have r1 : (k == 1) = false := by simpa using k1
    have r2 : (k == 2) = false := by simpa using k2
    by_cases k5 : k = 5
    · subst k5
      have hv2 : (decide ((⟨a, b, c, d⟩ : W4) = W4.zero) == !((5 : Int) == 2)) = true := by rw [← HE.out]; exact HV.out.symm
      by_cases hl : n = 1
      · subst hl
        have hz : (((1 : Nat) : Int) == 1) = true := rfl
        have c2 := hasany_any (w2.alloc (.cells #[.int .i64 0, .int .i64 1, .int .i64 5] 3)) w2.heap.size 3 [0, 1, 5] ⟨heap_alloc_new _ _⟩ rfl (by decide) ((HR.out.under HB.out).under ((Below.refl _ _).alloc (Nat.le_refl _) _)) hn
        obtain ⟨A, hA⟩ : ∃ A, A = vs.any fun y => [0, 1, 5].contains y.kind := ⟨_, rfl⟩
        rw [← hA] at c2
        have HA := Lib.hid hA
        clear hA
        go_wp2_with fail
        ((with_reducible refine c2.mono ?_))
        rintro _ w3 ⟨rfl, hb3⟩
        have HB3 : Hid (Below w.heap.size w w3) := HB.out.trans (((Below.refl w2.heap.size w2).alloc (Nat.le_refl _) _).trans (hb3.mono (by simp)) |>.mono HB.out.size)
        clear hb3 c2
        go_wp2
        go_ret
        refine ⟨?_, HB3.out⟩
        rw [HRR.out, fB_5 (x := ⟨5, a, b, c, d, p, 1, cap⟩) hv2 rfl, ← HA.out]
        exact rfl
      · have hz : ((n : Int) == 1) = false := by simp; omega
        go_wp2
        go_ret
        refine ⟨?_, HB.out⟩
        rw [HRR.out, fB_5 (x := ⟨5, a, b, c, d, p, n, cap⟩) hv2 rfl]
        have hl2 : (n == 1) = false := by simpa using hl
        show _ = Ending.returned (.bool ((n == 1) && !(vs.any fun y => [0, 1, 5].contains y.kind)))
        rw [hl2]
        simp only [Bool.false_and]
        exact rfl
    have r5 : (k == 5) = false := by simpa using k5
    by_cases k3 : k = 3
    · subst k3
      have hv2 : (decide ((⟨a, b, c, d⟩ : W4) = W4.zero) == !((3 : Int) == 2)) = true := by rw [← HE.out]; exact HV.out.symm
      by_cases hl : 2 ≤ n
      · have hz : decide ((n : Int) ≥ 2) = true := by simp; omega
        have c2 := hasany_any (w2.alloc (.cells #[.int .i64 0, .int .i64 1, .int .i64 3] 3)) w2.heap.size 3 [0, 1, 3] ⟨heap_alloc_new _ _⟩ rfl (by decide) ((HR.out.under HB.out).under ((Below.refl _ _).alloc (Nat.le_refl _) _)) hn
        obtain ⟨A, hA⟩ : ∃ A, A = vs.any fun y => [0, 1, 3].contains y.kind := ⟨_, rfl⟩
        rw [← hA] at c2
        have HA := Lib.hid hA
        clear hA
        go_wp2_with fail
        ((with_reducible refine c2.mono ?_))
        rintro _ w3 ⟨rfl, hb3⟩
        have HB3 : Hid (Below w.heap.size w w3) := HB.out.trans (((Below.refl w2.heap.size w2).alloc (Nat.le_refl _) _).trans (hb3.mono (by simp)) |>.mono HB.out.size)
        clear hb3 c2
        go_wp2
        go_ret
        refine ⟨?_, HB3.out⟩
        rw [HRR.out, fB_3 (x := ⟨3, a, b, c, d, p, n, cap⟩) hv2 rfl, ← HA.out]
        simp only [hl]
        exact rfl
      · have hz : decide ((n : Int) ≥ 2) = false := by simp; omega
        go_wp2
        go_ret
        refine ⟨?_, HB.out⟩
        rw [HRR.out, fB_3 (x := ⟨3, a, b, c, d, p, n, cap⟩) hv2 rfl]
        have hl2 : decide (2 ≤ n) = false := by simpa using hl
        show _ = Ending.returned (.bool (decide (2 ≤ n) && !(vs.any fun y => [0, 1, 3].contains y.kind)))
        rw [hl2]
        simp only [Bool.false_and]
        exact rfl
    have r3 : (k == 3) = false := by simpa using k3
    by_cases k4 : k = 4
    · subst k4
      have hv2 : (decide ((⟨a, b, c, d⟩ : W4) = W4.zero) == !((4 : Int) == 2)) = true := by rw [← HE.out]; exact HV.out.symm
      by_cases hl : 2 ≤ n
      · have hz : decide ((n : Int) ≥ 2) = true := by simp; omega
        have c2 := hasany_any (w2.alloc (.cells #[.int .i64 0, .int .i64 4] 3)) w2.heap.size 2 [0, 4] ⟨heap_alloc_new _ _⟩ rfl (by decide) ((HR.out.under HB.out).under ((Below.refl _ _).alloc (Nat.le_refl _) _)) hn
        obtain ⟨A, hA⟩ : ∃ A, A = vs.any fun y => [0, 4].contains y.kind := ⟨_, rfl⟩
        rw [← hA] at c2
        have HA := Lib.hid hA
        clear hA
        go_wp2_with fail
        ((with_reducible refine c2.mono ?_))
        rintro _ w3 ⟨rfl, hb3⟩
        have HB3 : Hid (Below w.heap.size w w3) := HB.out.trans (((Below.refl w2.heap.size w2).alloc (Nat.le_refl _) _).trans (hb3.mono (by simp)) |>.mono HB.out.size)
        have HBB3 : Hid (Below w2.heap.size w2 w3) := ((Below.refl w2.heap.size w2).alloc (Nat.le_refl _) _).trans (hb3.mono (by simp))
        clear hb3 c2
        cases A with
        | true =>
          go_wp2
          go_ret
          refine ⟨?_, HB3.out⟩
          rw [HRR.out, fB_4 (x := ⟨4, a, b, c, d, p, n, cap⟩) hv2 rfl, ← HA.out]
          simp only [Bool.not_true, Bool.and_false, Bool.false_and]
          exact rfl
        | false =>
          obtain ⟨q0, q1, q2, q3, q4, q5⟩ := (HP2.out.under HBB3.out).six
          have c4 := several_any w3 (HR.out.under HB3.out) hn (HC.out.resolve_left (by omega))
          obtain ⟨S, hS⟩ : ∃ S, S = sevB vs := ⟨_, rfl⟩
          rw [← hS] at c4
          have HS := Lib.hid hS
          clear hS
          go_wp2_with fail
          ((with_reducible refine c4.mono ?_))
          rintro _ w4 ⟨rfl, hb4⟩
          have HB4 : Hid (Below w.heap.size w w4) := HB3.out.trans (hb4.mono HB3.out.size)
          clear hb4 c4
          go_wp2
          go_ret
          refine ⟨?_, HB4.out⟩
          rw [HRR.out, fB_4 (x := ⟨4, a, b, c, d, p, n, cap⟩) hv2 rfl, ← HA.out, ← HS.out]
          simp only [hl, decide_true, Bool.not_false, Bool.true_and]
          exact rfl
      · have hz : decide ((n : Int) ≥ 2) = false := by simp; omega
        go_wp2
        go_ret
        refine ⟨?_, HB.out⟩
        rw [HRR.out, fB_4 (x := ⟨4, a, b, c, d, p, n, cap⟩) hv2 rfl]
        have hl2 : decide (2 ≤ n) = false := by simpa using hl
        show _ = Ending.returned (.bool ((decide (2 ≤ n) && !(vs.any fun y => [0, 4].contains y.kind)) && !(sevB vs)))
        rw [hl2]
        simp only [Bool.false_and]
        exact rfl
    have r4 : (k == 4) = false := by simpa using k4
    go_wp2
    go_ret
    refine ⟨?_, HB.out⟩
    rw [HRR.out, fB_none (x := ⟨k, a, b, c, d, p, n, cap⟩) (show ¬ (k = 0 ∨ k = 1 ∨ k = 2) by omega) k5 k3 k4]
    exact rfl

end Go.Proofs.YtchicecmoknkjabDoor
