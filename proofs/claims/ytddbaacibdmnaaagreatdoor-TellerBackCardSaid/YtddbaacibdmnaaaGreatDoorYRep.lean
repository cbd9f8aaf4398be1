/- Repetitions, as the document's own reader reads them, if elements are read so; for every text of at most 50000 bytes. -/
import Derived.Test.YtddbaacibdmnaaaGreatDoorYAlt
namespace Go.Proofs.YtddbaacibdmnaaaGreatDoor
open Go.RowKit
set_option linter.unusedVariables false
set_option linter.unusedSimpArgs false

noncomputable def cntAt (f : Nat → Int) (p : Nat) : Got Int := if isDc (f p) then numAt 10 200 f p else .ok (-1) p

/-- The number ahead of an element, from a reader with the error c0 on. -/
def CntY (c0 : Int) (R : Nat) (s : ByteArray) (p : Nat) (w : World) (e : Ending) (w' : World) : Prop :=
  ∃ (n : Int) (q : Nat) (c : Int), GivesY R s (.int .i64 n) q c w e w' ∧ -1 ≤ n ∧ n ≤ 200 ∧ ((c0 = 0 ∧ c = 0 ∧ p ≤ q ∧ q ≤ s.size ∧ cntAt (rd s) p = .ok n q) ∨ (c0 = 0 ∧ c = 2 ∧ q ≤ s.size ∧ cntAt (rd s) p = .err 2 ∧ n = -1) ∨ (c0 ≠ 0 ∧ c = c0 ∧ q = p ∧ n = -1))

theorem ycnt_any {R p : Nat} {c : Int} {s : ByteArray} {w : World} (h : AtY w R s p c) (hs : s.size ≤ 50000) (hp : c = 0 → p ≤ s.size) :
    Calls Tryz.prog 80 #[.pointer (some ⟨R, 0, none⟩), .int .i64 10, .int .i64 200] w (CntY c R s p w) := by
  by_cases hc : c = 0
  · subst hc
    refine (ynumber_any 10 200 (by omega) (by omega) (by omega) h hs (hp rfl)).mono ?_
    rintro e w' (⟨hd, hgv⟩ | ⟨v, q, hn, hgv⟩ | ⟨hd, hn, q, hq, hgv⟩)
    · rw [isDg_ten] at hd
      exact ⟨-1, p, 0, hgv, by omega, by omega, .inl ⟨rfl, rfl, Nat.le_refl _, hp rfl, by unfold cntAt; rw [hd]; rfl⟩⟩
    · obtain ⟨h1, h2⟩ := numAt_in (by omega) (hp rfl) hn
      have hv := numAt_pos (by omega) hn
      have hd : isDc (rd s p) = true := by
        cases hd : isDc (rd s p)
        · rw [← isDg_ten] at hd
          rw [numAt_none hd] at hn
          cases hn
        · rfl
      have hv2 : v ≤ 200 := by
        unfold numAt at hn
        split at hn
        · cases hn
        · split at hn
          · cases hn
          · cases hn; omega
      exact ⟨v, q, 0, hgv, by omega, hv2, .inl ⟨rfl, rfl, by omega, h2, by unfold cntAt; rw [hd]; exact hn⟩⟩
    · rw [isDg_ten] at hd
      exact ⟨-1, q, 2, hgv, by omega, by omega, .inr (.inl ⟨rfl, rfl, hq, by unfold cntAt; rw [hd]; exact hn, rfl⟩)⟩
  · refine (ynumber_later 10 200 h hc).mono ?_
    intro e w' hgv
    exact ⟨-1, p, c, hgv, by omega, by omega, .inr (.inr ⟨hc, rfl, rfl, rfl⟩)⟩

/-- An element, from a reader with any error on. -/
def ElemY (c0 : Int) (R : Nat) (s : ByteArray) (d p : Nat) (w : World) (e : Ending) (w' : World) : Prop :=
  ∃ (x : XV) (t : Tree) (q : Nat) (c : Int), TreeAt w' (fun b => w.heap.size ≤ b) x t ∧ GivesY R s x.val q c w e w' ∧ ((c0 = 0 ∧ OutY false s d .elem p t q c) ∨ (c0 ≠ 0 ∧ c = c0 ∧ q = p))
def ElemToY (f k : Nat) : Prop := ∀ {R p d : Nat} {c : Int} {s : ByteArray} {w : World}, AtY w R s p c → s.size ≤ 50000 → (c = 0 → p ≤ s.size ∧ d ≤ 50 ∧ s.size - p ≤ k) → p ≤ 55000 → d ≤ 60 →
  Calls Tryz.prog f #[.pointer (some ⟨R, 0, none⟩), .int .i64 d] w (ElemY c R s d p w)
/-- A repetition, from a reader with any error on. -/
def RepY (c0 : Int) (R : Nat) (s : ByteArray) (d p : Nat) (w : World) (e : Ending) (w' : World) : Prop :=
  ∃ (x : XV) (t : Tree) (q : Nat) (c : Int), TreeAt w' (fun b => w.heap.size ≤ b) x t ∧ GivesY R s x.val q c w e w' ∧ ((c0 = 0 ∧ OutY false s d .rep p t q c) ∨ (c0 ≠ 0 ∧ c = c0 ∧ q ≤ p + 1))
def RepToY (f k : Nat) : Prop := ∀ {R p d : Nat} {c : Int} {s : ByteArray} {w : World}, AtY w R s p c → s.size ≤ 50000 → (c = 0 → p ≤ s.size ∧ d ≤ 50 ∧ s.size - p ≤ k) → p ≤ 54000 → d ≤ 60 →
  Calls Tryz.prog f #[.pointer (some ⟨R, 0, none⟩), .int .i64 d] w (RepY c R s d p w)

theorem yrep_fin {R : Nat} {s : ByteArray} {q : Nat} {c : Int} {w W : World} {x : XV} {t : Tree} (lo hi : Int) (hR : R < w.heap.size) (hz : w.heap.size + 1 ≤ W.heap.size) (HT : TreeAt W (fun b => w.heap.size + 1 ≤ b) x t) (HA : AtY W R s q c) (HG : w.grownBy W (some R)) (HR : Res0 W w.heap.size) :
    Res0 (W.alloc (.cells x.arr 36)) w.heap.size ∧
      TreeAt ((W.alloc (.cells x.arr 36)).setRow w.heap.size (XV.arr ⟨3, ⟨#[]⟩, .slice none 0 0, lo, hi, .slice (some ⟨W.heap.size, 0, none⟩) 1 1⟩)) (fun b => w.heap.size ≤ b) ⟨3, ⟨#[]⟩, .slice none 0 0, lo, hi, .slice (some ⟨W.heap.size, 0, none⟩) 1 1⟩ (repT lo hi t) ∧
      GivesY R s (XV.val ⟨3, ⟨#[]⟩, .slice none 0 0, lo, hi, .slice (some ⟨W.heap.size, 0, none⟩) 1 1⟩) q c w (.returned (XV.val ⟨3, ⟨#[]⟩, .slice none 0 0, lo, hi, .slice (some ⟨W.heap.size, 0, none⟩) 1 1⟩)) ((W.alloc (.cells x.arr 36)).setRow w.heap.size (XV.arr ⟨3, ⟨#[]⟩, .slice none 0 0, lo, hi, .slice (some ⟨W.heap.size, 0, none⟩) 1 1⟩)) := by
  have hk := KidsAt.one (W := W) (W' := W.alloc (.cells x.arr 36)) (base := w.heap.size + 1) (g := W.heap.size) HT (Nat.le_refl _) hz (heap_alloc_new W _) (fun b _ hl => heap_alloc_old _ _ hl) (by simp)
  exact ⟨res_alloc HR _, ((hk.tree 3 lo hi).set_row (fun b hb => by omega) _).weak (fun b hb _ => by omega), rfl, (HA.alloc _).set_row (by omega) _, grown_row (grown_alloc HG _) (Nat.le_refl _) _⟩

/-- What the words say of a repetition, without a star. -/
theorem rep_bare {s : ByteArray} {d p q1 q2 : Nat} {n : Int} {t : Tree} (hp : p ≤ q1) (hc : cntAt (rd s) p = .ok n q1) (h42 : rd s q1 ≠ 42) (hn : n < 0) {c : Int} (ho : OutY false s d .elem q1 t q2 c) : OutY false s d .rep p t q2 c := by
  have hcount := count_no hc h42
  rw [show decide (0 ≤ n) = false from decide_eq_false (by omega)] at hcount
  rcases ho with ⟨rfl, h1, h2, hans⟩ | ⟨hcc, h1, hans⟩
  · exact .inl ⟨rfl, by omega, h2, .repBare hcount hans⟩
  · exact .inr ⟨hcc, h1, .repErr hcount hans⟩

/-- Likewise, with a number or a star. -/
theorem rep_full {s : ByteArray} {d p q1 q2 : Nat} {lo hi : Int} {t : Tree} (hp : p ≤ q1) (hcount : countAt (rd s) p = .ok (lo, hi, true) q1) {c : Int} (ho : OutY false s d .elem q1 t q2 c) :
    (¬ (0 ≤ hi ∧ hi < lo) → OutY false s d .rep p (repT lo hi t) q2 c) ∧ (0 ≤ hi ∧ hi < lo → OutY false s d .rep p (repT lo hi t) q2 (if c = 0 then 20 else c)) := by
  rcases ho with ⟨rfl, h1, h2, hans⟩ | ⟨hcc, h1, hans⟩
  · exact ⟨fun h => .inl ⟨rfl, by omega, h2, .repOk hcount hans h⟩, fun h => .inr ⟨by simp, by omega, .repLess hcount hans h⟩⟩
  · refine ⟨fun h => .inr ⟨hcc, h1, .repErr hcount hans⟩, fun h => ?_⟩
    rw [if_neg hcc]
    exact .inr ⟨hcc, h1, .repErr hcount hans⟩

end Go.Proofs.YtddbaacibdmnaaaGreatDoor
