/- Expressions that the document's own reader returns, and what they are by the words; what may begin an element. No condition. -/
import Derived.Test.YtddbaacibdmnaaaGreatDoorYQuote
namespace Go.Proofs.YtddbaacibdmnaaaGreatDoor
open Go.RowKit
set_option linter.unusedVariables false
set_option linter.unusedSimpArgs false

/-- What is read is what the words say: a tree, up to its end (or the white space behind it); or an error. -/
def OutY (sk : Bool) (s : ByteArray) (d : Nat) (a : Ask) (p : Nat) (t : Tree) (q : Nat) (c : Int) : Prop :=
  (c = 0 ∧ p ≤ q ∧ q ≤ s.size ∧ Ans (rd s) a d p (.ok t (if sk then skipEnd (rd s) q else q))) ∨ (c ≠ 0 ∧ q ≤ s.size + 2 + (52 - d) ∧ Ans (rd s) a d p (.err c))

/-- The call returns an expression of its own, by the words. -/
def ReadsY (sk : Bool) (R : Nat) (s : ByteArray) (d : Nat) (a : Ask) (p : Nat) (w : World) (e : Ending) (w' : World) : Prop :=
  ∃ (x : XV) (t : Tree) (q : Nat) (c : Int), TreeAt w' (fun b => w.heap.size ≤ b) x t ∧ GivesY R s x.val q c w e w' ∧ OutY sk s d a p t q c

/-- Behind an error the call returns some expression of its own. -/
def LaterY (R : Nat) (s : ByteArray) (p : Nat) (c : Int) (w : World) (e : Ending) (w' : World) : Prop :=
  ∃ (x : XV) (t : Tree) (q : Nat), TreeAt w' (fun b => w.heap.size ≤ b) x t ∧ q ≤ p + 1 ∧ GivesY R s x.val q c w e w'

def AskToY (f : Nat) (sk : Bool) (a : Ask) (k : Nat) : Prop := ∀ {R p d : Nat} {s : ByteArray} {w : World}, AtY w R s p 0 → s.size ≤ 50000 → p ≤ s.size → d ≤ 50 → s.size - p ≤ k →
  Calls Tryz.prog f #[.pointer (some ⟨R, 0, none⟩), .int .i64 d] w (ReadsY sk R s d a p w)
def LaterToY (f : Nat) : Prop := ∀ {R p d : Nat} {c : Int} {s : ByteArray} {w : World}, AtY w R s p c → c ≠ 0 → s.size ≤ 50000 → p ≤ 55000 → d ≤ 60 →
  Calls Tryz.prog f #[.pointer (some ⟨R, 0, none⟩), .int .i64 d] w (LaterY R s p c w)

theorem AtY.set_row {w : World} {R : Nat} {s : ByteArray} {p : Nat} {c : Int} (h : AtY w R s p c) {g : Nat} (hg : R ≠ g) (cs : Array Value) : AtY (w.setRow g cs) R s p c := (setRow_other _ _ _ _ hg).trans h
theorem kids_aty {w w' : World} {base R : Nat} {s : ByteArray} {p : Nat} {c : Int} {v : Value} {l : List Tree} (hk : KidsAt w base v l) (h : AtY w R s p c) (hg : w.grownBy w' v.ownBlock) (hR : R < base) : AtY w' R s p c := by
  obtain ⟨vs, _, h2, _⟩ := hk
  refine h.kept hg (fun e => ?_)
  rcases row_forms h2 with ⟨rfl, _⟩ | ⟨g, cap, rfl⟩
  · simp [Value.ownBlock] at e
  · have hb := (row_base h2).1
    have := Option.some.inj e
    simp at this
    omega

theorem isRp_yes {c : Int} (h : c = 34 ∨ c = 37 ∨ c = 40 ∨ c = 42 ∨ c = 91) : isRp c = true := by rcases h with rfl | rfl | rfl | rfl | rfl <;> decide

set_option maxRecDepth 100000 in
theorem ybegins_any {R p : Nat} {c : Int} {s : ByteArray} {w : World} (h : AtY w R s p c) (hs : s.size ≤ 50000) (hp : p ≤ 60000) :
    Calls Tryz.prog 68 #[.pointer (some ⟨R, 0, none⟩)] w (GivesBool (isRp (rd s p)) w) := by
  have H := Lib.hid h
  clear h
  obtain ⟨Z, hZ⟩ : ∃ z, rd s p = z := ⟨_, rfl⟩
  have HZ := Lib.hid hZ
  rw [hZ]
  clear hZ
  cases ha : isAl Z
  · cases hd : isDc Z
    · by_cases hc : Z = 34 ∨ Z = 37 ∨ Z = 40 ∨ Z = 42 ∨ Z = 91
      · rw [isRp_yes hc]
        have HA := Lib.hid ha
        have HD := Lib.hid hd
        clear ha hd
        rcases hc with rfl | rfl | rfl | rfl | rfl
        all_goals
          go_enter Tryz.func68, Tryz.ntmps68
          go_wp2_with fail
          refine (yat0 H.out hs hp _ HZ.out).mono ?_
          rintro e w1 ⟨rfl, hb⟩
          have HB := Lib.hid hb
          clear hb
          go_wp2_with fail
          refine (yalpha_any _ _).mono ?_
          rw [HA.out]
          rintro e w' ⟨rfl, rfl⟩
          go_wp2_with fail
          refine (ydigit_any _ _).mono ?_
          rw [HD.out]
          rintro e w' ⟨rfl, rfl⟩
          go_wp2
          go_ret
          exact ⟨rfl, HB.out⟩
      · have e1 : (Z == 34) = false := by simp; omega
        have e2 : (Z == 37) = false := by simp; omega
        have e3 : (Z == 40) = false := by simp; omega
        have e4 : (Z == 42) = false := by simp; omega
        have e5 : (Z == 91) = false := by simp; omega
        rw [isRp_no ha hd (by omega) (by omega) (by omega) (by omega) (by omega)]
        have HA := Lib.hid ha
        have HD := Lib.hid hd
        clear ha hd hc
        go_enter Tryz.func68, Tryz.ntmps68
        go_wp2_with fail
        refine (yat0 H.out hs hp _ HZ.out).mono ?_
        rintro e w1 ⟨rfl, hb⟩
        have HB := Lib.hid hb
        clear hb
        go_wp2_with fail
        refine (yalpha_any _ _).mono ?_
        rw [HA.out]
        rintro e w' ⟨rfl, rfl⟩
        go_wp2_with fail
        refine (ydigit_any _ _).mono ?_
        rw [HD.out]
        rintro e w' ⟨rfl, rfl⟩
        go_wp2
        go_ret
        exact ⟨rfl, HB.out⟩
    · rw [show isRp Z = true by unfold isRp; simp [hd]]
      have HA := Lib.hid ha
      have HD := Lib.hid hd
      clear ha hd
      go_enter Tryz.func68, Tryz.ntmps68
      go_wp2_with fail
      refine (yat0 H.out hs hp _ HZ.out).mono ?_
      rintro e w1 ⟨rfl, hb⟩
      have HB := Lib.hid hb
      clear hb
      go_wp2_with fail
      refine (yalpha_any _ _).mono ?_
      rw [HA.out]
      rintro e w' ⟨rfl, rfl⟩
      go_wp2_with fail
      refine (ydigit_any _ _).mono ?_
      rw [HD.out]
      rintro e w' ⟨rfl, rfl⟩
      go_wp2
      go_ret
      exact ⟨rfl, HB.out⟩
  · rw [show isRp Z = true by unfold isRp; simp [ha]]
    have HA := Lib.hid ha
    clear ha
    go_enter Tryz.func68, Tryz.ntmps68
    go_wp2_with fail
    refine (yat0 H.out hs hp _ HZ.out).mono ?_
    rintro e w1 ⟨rfl, hb⟩
    have HB := Lib.hid hb
    clear hb
    go_wp2_with fail
    refine (yalpha_any _ _).mono ?_
    rw [HA.out]
    rintro e w' ⟨rfl, rfl⟩
    go_wp2
    go_ret
    exact ⟨rfl, HB.out⟩

end Go.Proofs.YtddbaacibdmnaaaGreatDoor
