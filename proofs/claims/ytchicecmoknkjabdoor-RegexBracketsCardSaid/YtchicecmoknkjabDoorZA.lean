/- The law's numbers that are taken one by one. No condition. What the laws' expressions by numbers are; how big they are; that what is made of right ones is right. No condition. The laws' letter, and expressions by numbers. No condition but how many numbers are taken. The laws' Few, and what any right program answers. No condition but the library's tables. What any right program answers. No condition but the library's tables. -/
import Derived.Test.YtchicecmoknkjabDoorBase
import Derived.Test.YtchicecmoknkjabDoorProg
import Derived.BigQuiet
import Derived.Deep.QuietTactic
import Derived.Maps.AppendAt
import Derived.Lib.Hide
import Derived.Test.YtchicecmoknkjabDoorReMath
import Derived.Test.YtchicecmoknkjabDoorSortM
import Derived.Test.YtchicecmoknkjabDoorRefE
/-! The law's numbers that are taken one by one. No condition. -/
namespace Go.Proofs.YtchicecmoknkjabDoor
open Go.RowKit Go.Lib
set_option linter.unusedVariables false
set_option linter.unusedSimpArgs false

theorem grown_refl (w : World) (row : Option Nat) : w.grownBy w row := ⟨rfl, rfl, rfl, Nat.le_refl _, fun _ _ _ => rfl⟩

theorem grown_drew {w w' : World} {row : Option Nat} (h : w.grownBy w' row) (n : Nat) : w.grownBy (w'.drewN n) row := ⟨h.os, h.tape, h.output, h.size, h.block⟩

theorem grown_alloc {w w' : World} {row : Option Nat} (h : w.grownBy w' row) (o : Obj) : w.grownBy (w'.alloc o) row := h.trans (World.grownBy_alloc w' o row)

theorem grown_set {w w' : World} {R : Nat} (h : w.grownBy w' (some R)) (k : Nat) (v : Value) : w.grownBy (w'.setCell ⟨R, k, none⟩ v) (some R) :=
  h.trans ⟨rfl, rfl, rfl, by simp [World.setCell], fun i _ hi => Below.heap_setCell _ _ _ _ (fun e => hi (by rw [e]))⟩

theorem grown_below {w w1 w' : World} {row : Option Nat} (h : w.grownBy w1 row) (hb : Below w1.heap.size w1 w') : w.grownBy w' row :=
  h.trans ⟨hb.os, hb.tape, hb.output, hb.size, fun k hk _ => hb.block k hk⟩

/-- A slice of bytes that reads so, in a block below R. -/
def BytesLow (W : World) (R : Nat) (v : Value) (zs : List Int) : Prop :=
  ∃ a cap, v = .slice a zs.length cap ∧ zs.length ≤ cap ∧ zs.length ≤ maxLen ∧ (∀ z ∈ zs, 0 ≤ z ∧ z ≤ 255) ∧
    (0 < zs.length → ∃ b off, a = some ⟨b, off, none⟩ ∧ b < R ∧ ∀ (i : Nat) (z : Int), zs[i]? = some z → W.cell? ⟨b, off + i, none⟩ = some (.int .u8 z))

theorem BytesLow.kept {W W' : World} {R : Nat} {v : Value} {zs : List Int} (h : BytesLow W R v zs) (hk : ∀ b, b < R → W'.heap[b]? = W.heap[b]?) : BytesLow W' R v zs := by
  obtain ⟨a, cap, h1, h2, h3, h4, h5⟩ := h
  refine ⟨a, cap, h1, h2, h3, h4, fun hn => ?_⟩
  obtain ⟨b, off, ha, hlt, hc⟩ := h5 hn
  refine ⟨b, off, ha, hlt, fun i z hz => ?_⟩
  rw [World.cell?_of_block (w := W) (hk b hlt)]
  exact hc i z hz

/-- The picker in block R: the slice of numbers, and how many are taken. -/
def PickAt (W : World) (R : Nat) (v : Value) (zs : List Int) (a : Nat) : Prop :=
  W.heap[R]? = some (.cells #[v, .int .i64 a] 42 (0, 0)) ∧ BytesLow W R v zs

theorem PickAt.lt {W : World} {R a : Nat} {v : Value} {zs : List Int} (h : PickAt W R v zs a) : R < W.heap.size := (Array.getElem?_eq_some_iff.1 h.1).1
theorem PickAt.kept {W W' : World} {R a : Nat} {v : Value} {zs : List Int} (h : PickAt W R v zs a) (hk : ∀ b, b ≤ R → W'.heap[b]? = W.heap[b]?) : PickAt W' R v zs a :=
  ⟨(hk R (Nat.le_refl _)).trans h.1, h.2.kept (fun b hb => hk b (Nat.le_of_lt hb))⟩
theorem PickAt.grown {W W' : World} {R a : Nat} {row : Option Nat} {v : Value} {zs : List Int} (h : PickAt W R v zs a) (hg : W.grownBy W' row) (hr : ∀ k, row = some k → R < k) : PickAt W' R v zs a :=
  h.kept (fun b hb => hg.block b (by have := h.lt; omega) (fun e => by have := hr b e.symm; omega))
theorem PickAt.below {W W' : World} {R a : Nat} {v : Value} {zs : List Int} (h : PickAt W R v zs a) (hb : Below W.heap.size W W') : PickAt W' R v zs a :=
  h.kept (fun b hl => hb.block b (by have := h.lt; omega))
theorem PickAt.alloc {W : World} {R a : Nat} {v : Value} {zs : List Int} (h : PickAt W R v zs a) (o : Obj) : PickAt (W.alloc o) R v zs a := h.below ((Below.refl _ _).alloc (Nat.le_refl _) o)
theorem PickAt.cells {W : World} {R a : Nat} {v : Value} {zs : List Int} (h : PickAt W R v zs a) : W.cell? ⟨R, 0, none⟩ = some v ∧ W.cell? ⟨R, 1, none⟩ = some (.int .i64 a) ∧ W.frozen? ⟨R, 0, none⟩ = false ∧ W.frozen? ⟨R, 1, none⟩ = false := by
  obtain ⟨h, _⟩ := h
  simp [World.cell?, World.frozen?, h]
theorem PickAt.set {W : World} {R a : Nat} {v : Value} {zs : List Int} (h : PickAt W R v zs a) (n : Nat) : PickAt (W.setCell ⟨R, 1, none⟩ (.int .i64 n)) R v zs n := by
  refine ⟨?_, h.2.kept (fun b hb => Below.heap_setCell _ _ _ _ (by show b ≠ R; omega))⟩
  have h0 := h.1
  unfold World.setCell
  simp only [Array.getElem?_modify, h0]
  simp

/-- Which number it is. -/
def pickF (zs : List Int) (a : Nat) (n : Int) : Nat := if zs.length < a + 1 ∨ 150 < a + 1 then 0 else (zs.getD a 0 % n).toNat
theorem pickF_lt (zs : List Int) (a : Nat) {n : Int} (hn : 1 ≤ n) : (pickF zs a n : Int) < n := by
  unfold pickF
  split
  · simp; omega
  · have h1 := Int.emod_nonneg (zs.getD a 0) (b := n) (by omega)
    have h2 := Int.emod_lt_of_pos (zs.getD a 0) (b := n) (by omega)
    omega

/-- The call answers that number, and has taken one more. -/
def Picks (R : Nat) (v : Value) (zs : List Int) (a : Nat) (n : Int) (w : World) (e : Ending) (w' : World) : Prop :=
  e = .returned (.int .i64 (pickF zs a n : Int)) ∧ PickAt w' R v zs (a + 1) ∧ w.grownBy w' (some R)

set_option maxRecDepth 100000 in
set_option maxHeartbeats 1000000 in
theorem picknum_any {R a : Nat} {n : Int} {v : Value} {zs : List Int} {W : World} (h : PickAt W R v zs a) (ha : a ≤ 1000000) (hn : 1 ≤ n ∧ n ≤ 255) :
    Calls Tryd.prog 16 #[.pointer (some ⟨R, 0, none⟩), .int .i64 n] W (Picks R v zs a n W) := by
  obtain ⟨c0, c1, f0, f1⟩ := h.cells
  have hs := h.set (a + 1)
  have hg : W.grownBy (W.setCell ⟨R, 1, none⟩ (.int .i64 ((a + 1 : Nat) : Int))) (some R) := grown_set (grown_refl W _) _ _
  have hcast : ((a + 1 : Nat) : Int) = (a : Int) + 1 := by omega
  obtain ⟨d0, d1, g0, g1⟩ := hs.cells
  obtain ⟨p, cap, rfl, hcap, hmax, hrange, hcells⟩ := h.2
  unfold maxLen at hmax
  rw [hcast] at hs hg d0 d1 g0 g1
  have HS := Lib.hid hs
  have HG := Lib.hid hg
  clear hs hg h
  by_cases hlt : zs.length < a + 1
  · have q1 : decide ((zs.length : Int) < (a : Int) + 1) = true := decide_eq_true (by omega)
    have HF : Hid ((pickF zs a n : Int) = 0) := by unfold Hid; unfold pickF; rw [if_pos (.inl hlt)]; rfl
    go_enter Tryd.func16, Tryd.ntmps16
    go_wp2_with fail
    go_quiet (fail)
    go_wp2_with fail
    go_ret
    exact ⟨by rw [HF.out]; rfl, HS.out, grown_drew HG.out _⟩
  · have q1 : decide ((zs.length : Int) < (a : Int) + 1) = false := decide_eq_false (by omega)
    by_cases h150 : 150 < a + 1
    · have q2 : decide ((150 : Int) < (a : Int) + 1) = true := decide_eq_true (by omega)
      have HF : Hid ((pickF zs a n : Int) = 0) := by unfold Hid; unfold pickF; rw [if_pos (.inr h150)]; rfl
      go_enter Tryd.func16, Tryd.ntmps16
      go_wp2_with fail
      go_quiet (fail)
      go_wp2_with fail
      go_ret
      exact ⟨by rw [HF.out]; rfl, HS.out, grown_drew HG.out _⟩
    · have q2 : decide ((150 : Int) < (a : Int) + 1) = false := decide_eq_false (by omega)
      obtain ⟨b, off, rfl, hbR, hc⟩ := hcells (by omega)
      obtain ⟨z, hz⟩ : ∃ z, zs[a]? = some z := ⟨_, List.getElem?_eq_getElem (by omega)⟩
      have hz0 := hrange z (List.mem_of_getElem? hz)
      have e0 := hc a z hz
      have HF : Hid ((pickF zs a n : Int) = z % n) := by
        unfold Hid
        unfold pickF
        rw [if_neg (fun h => h.elim hlt h150), List.getD_eq_getElem?_getD, hz]
        exact Int.toNat_of_nonneg (Int.emod_nonneg _ (by omega))
      go_enter Tryd.func16, Tryd.ntmps16
      go_wp2_with fail
      go_quiet (fail)
      go_wp2_with fail
      go_quiet (fail)
      go_wp2_with fail
      go_ret
      exact ⟨by rw [HF.out]; rfl, HS.out, grown_drew (grown_drew HG.out _) _⟩

end Go.Proofs.YtchicecmoknkjabDoor

/-! What the laws' expressions by numbers are; how big they are; that what is made of right ones is right. No condition. -/
namespace Go.Proofs.YtchicecmoknkjabDoor
open Go.Lib
set_option linter.unusedVariables false
set_option linter.unusedSimpArgs false

/-! ### sizes and depths -/
theorem sum_append (l m : List RT) : ((l ++ m).map RT.sz).sum = (l.map RT.sz).sum + (m.map RT.sz).sum := by rw [List.map_append, List.sum_append]
theorem sum_filter (p : RT → Bool) (l : List RT) : ((l.filter p).map RT.sz).sum ≤ (l.map RT.sz).sum := by
  induction l with
  | nil => simp
  | cons a l ih =>
    rw [List.filter_cons]
    split
    · simp only [List.map_cons, List.sum_cons]; omega
    · simp only [List.map_cons, List.sum_cons]; omega
theorem sum_flat (k : Int) (l : List RT) : ((flatM k l).map RT.sz).sum ≤ (l.map RT.sz).sum := by
  induction l with
  | nil => simp [flatM]
  | cons a l ih =>
    have e : flatM k (a :: l) = (if a.kind = k then a.kids else [a]) ++ flatM k l := by simp [flatM]
    rw [e, sum_append]
    simp only [List.map_cons, List.sum_cons]
    split
    · obtain ⟨k', s, kids⟩ := a
      rw [sz_mk]
      show (kids.map RT.sz).sum + _ ≤ _
      omega
    · simp only [List.map_cons, List.map_nil, List.sum_cons, List.sum_nil]; omega
theorem sum_putL (r : RT) : ∀ (p : Bool) (l : List RT), ((putL txt r p l).map RT.sz).sum ≤ (l.map RT.sz).sum + r.sz
  | true, [] => by simp [putL]
  | false, [] => by simp [putL]
  | p, a :: l => by
    have i1 := sum_putL r true l
    have i2 := sum_putL r p l
    have e : putL txt r true l = l := putL_true r l
    rw [putL]
    split
    · simp only [List.map_cons, List.sum_cons]; omega
    · split
      · rw [e]; simp only [List.map_cons, List.sum_cons]; omega
      · simp only [List.map_cons, List.sum_cons]; omega
theorem sum_puts (L : List RT) : ((putsM L).map RT.sz).sum ≤ (L.map RT.sz).sum := by
  have h : ∀ (L o : List RT), ((L.foldl (fun o r => putL txt r false o) o).map RT.sz).sum ≤ (o.map RT.sz).sum + (L.map RT.sz).sum := by
    intro L
    induction L with
    | nil => intro o; simp
    | cons a L ih =>
      intro o
      have h1 := ih (putL txt a false o)
      have h2 := sum_putL a false o
      simp only [List.foldl_cons, List.map_cons, List.sum_cons]
      omega
  have := h L []
  simpa [putsM] using this
theorem sz_some (k e : Int) (l : List RT) : (someM k e l).sz ≤ 1 + (l.map RT.sz).sum := by
  match l with
  | [] => rw [someM, sz_mk]; simp
  | [x] => simp only [someM, List.map_cons, List.map_nil, List.sum_cons, List.sum_nil]; omega
  | x :: y :: l => rw [someM, sz_mk]; exact Nat.le_refl _
theorem sz_cat (l : List RT) : (catM l).sz ≤ 1 + (l.map RT.sz).sum := by
  unfold catM
  split
  · unfold noneM; rw [sz_mk]; simp
  · have h1 := sz_some 3 1 ((flatM 3 l).filter fun r => !(r.kind == 1))
    have h2 := sum_filter (fun r => !(r.kind == 1)) (flatM 3 l)
    have h3 := sum_flat 3 l
    omega
theorem sz_either (l : List RT) : (eitherM l).sz ≤ 2 + (l.map RT.sz).sum := by
  unfold eitherM
  have h1 := sz_some 4 0 (putsM (byteM (flatM 4 l) ++ othersM (flatM 4 l)))
  have h2 := sum_puts (byteM (flatM 4 l) ++ othersM (flatM 4 l))
  rw [sum_append] at h2
  have h3 : ((othersM (flatM 4 l)).map RT.sz).sum ≤ ((flatM 4 l).map RT.sz).sum := sum_filter _ _
  have h4 := sum_flat 4 l
  have h5 : ((byteM (flatM 4 l)).map RT.sz).sum ≤ 1 := by
    unfold byteM
    split
    · simp
    · simp [sz_mk]
  omega
theorem sz_star (t : RT) : (starM t).sz ≤ 1 + t.sz := by
  unfold starM
  split
  · unfold emptyM; rw [sz_mk]; simp
  · split
    · omega
    · rw [sz_mk]; simp
theorem kid_dep {y x : RT} (h : x ∈ y.kids) : x.dep < y.dep := by
  obtain ⟨k, s, kids⟩ := y
  have h1 : (RT.mk k s kids).dep = ((RT.mk k s kids).dep - 1) + 1 := by have := dep_pos (RT.mk k s kids); omega
  have := dep_mk.1 (Nat.le_of_eq h1) x h
  have := dep_pos (RT.mk k s kids)
  omega
theorem dep_leaf (k : Int) (s : W4) : (RT.mk k s []).dep = 1 := by rw [RT.dep]; rfl
theorem dep_some {k e : Int} {l : List RT} {n : Nat} (h : ∀ t ∈ l, t.dep ≤ n) : (someM k e l).dep ≤ n + 1 := by
  match l with
  | [] => rw [someM, dep_leaf]; omega
  | [x] => have := h x (by simp); show x.dep ≤ _; omega
  | x :: y :: l => exact dep_mk.2 h
theorem dep_flat {k : Int} {l : List RT} {n : Nat} (h : ∀ t ∈ l, t.dep ≤ n) : ∀ t ∈ flatM k l, t.dep ≤ n := by
  intro t ht
  rcases flat_mem ht with ⟨h1, _⟩ | ⟨y, hy, _, hx⟩
  · exact h t h1
  · have := kid_dep hx
    have := h y hy
    omega
theorem dep_cat {l : List RT} {n : Nat} (h : ∀ t ∈ l, t.dep ≤ n) : (catM l).dep ≤ n + 1 := by
  unfold catM
  split
  · unfold noneM; rw [dep_leaf]; omega
  · exact dep_some fun t ht => dep_flat h t (List.mem_filter.1 ht).1
theorem dep_either {l : List RT} {n : Nat} (hn : 1 ≤ n) (h : ∀ t ∈ l, t.dep ≤ n) : (eitherM l).dep ≤ n + 1 := by
  unfold eitherM
  refine dep_some fun t ht => ?_
  rcases List.mem_append.1 ((puts_asc _).2 t ht) with h1 | h1
  · unfold byteM at h1
    split at h1
    · simp at h1
    · simp at h1; subst h1; rw [dep_leaf]; exact hn
  · exact dep_flat h t (List.mem_filter.1 h1).1
theorem dep_star {t : RT} {n : Nat} (h : t.dep ≤ n) : (starM t).dep ≤ n + 1 := by
  unfold starM
  split
  · unfold emptyM; rw [dep_leaf]; omega
  · split
    · omega
    · exact dep_mk.2 (by simpa using h)

/-! ### right ones -/
def good (t : RT) : Prop := formA t ∧ ascM t
theorem good_mk {k : Int} {s : W4} {kids : List RT} : good (.mk k s kids) ↔ formP (.mk k s kids) ∧ (k = 4 → Asc txt kids) ∧ ∀ t ∈ kids, good t := by
  unfold good
  rw [form_mk, asc_mk]
  constructor
  · rintro ⟨⟨h1, h2⟩, h3, h4⟩
    exact ⟨h1, h3, fun t ht => ⟨h2 t ht, h4 t ht⟩⟩
  · rintro ⟨h1, h2, h3⟩
    exact ⟨⟨h1, fun t ht => (h3 t ht).1⟩, h2, fun t ht => (h3 t ht).2⟩
theorem good_kid {y x : RT} (h : good y) (hx : x ∈ y.kids) : good x := by
  obtain ⟨k, s, kids⟩ := y
  exact (good_mk.1 h).2.2 x hx
theorem good_none : good noneM := good_mk.2 ⟨⟨⟨fun _ => by decide, fun _ => rfl⟩, .inl ⟨.inl rfl, rfl⟩⟩, fun h => absurd h (by decide), fun t ht => by simp at ht⟩
theorem good_empty : good emptyM := good_mk.2 ⟨⟨⟨fun _ => by decide, fun _ => rfl⟩, .inl ⟨.inr (.inl rfl), rfl⟩⟩, fun h => absurd h (by decide), fun t ht => by simp at ht⟩
theorem good_byte {s : W4} (h : s ≠ W4.zero) : good (.mk 2 s []) := good_mk.2 ⟨⟨⟨fun e => absurd e h, fun e => absurd rfl e⟩, .inl ⟨.inr (.inr rfl), rfl⟩⟩, fun h => absurd h (by decide), fun t ht => by simp at ht⟩
theorem good_flat {k : Int} {l : List RT} (h : ∀ t ∈ l, good t) : ∀ t ∈ flatM k l, good t := by
  intro t ht
  rcases flat_mem ht with ⟨h1, _⟩ | ⟨y, hy, _, hx⟩
  · exact h t h1
  · exact good_kid (h y hy) hx
/-- Of what is of the kind the kids are of another one. -/
theorem flat_kinds {k : Int} {l : List RT} (hk : k = 3 ∨ k = 4) (h : ∀ t ∈ l, good t) : ∀ t ∈ flatM k l, t.kind ≠ k := by
  intro t ht
  rcases flat_mem ht with ⟨_, h1⟩ | ⟨y, hy, hky, hx⟩
  · exact h1
  · have hg := h y hy
    obtain ⟨k', s, kids⟩ := y
    simp only [RT.kind] at hky
    subst hky
    obtain ⟨⟨_, hf⟩, _⟩ := good_mk.1 hg
    rcases hf with ⟨e, _⟩ | ⟨e, _⟩ | ⟨e, _, h3⟩ | ⟨e, _, h3, _⟩
    · omega
    · omega
    · rw [e]; exact (h3 t hx).2.2
    · rw [e]; exact (h3 t hx).2
theorem good_cat {l : List RT} (h : ∀ t ∈ l, good t) : good (catM l) := by
  unfold catM
  split
  · exact good_none
  · rename_i hn
    have hg : ∀ t ∈ (flatM 3 l).filter (fun r => !(r.kind == 1)), good t := fun t ht => good_flat h t (List.mem_filter.1 ht).1
    have h3 : ∀ t ∈ (flatM 3 l).filter (fun r => !(r.kind == 1)), t.kind ≠ 3 := fun t ht => flat_kinds (.inl rfl) h t (List.mem_filter.1 ht).1
    have h1 : ∀ t ∈ (flatM 3 l).filter (fun r => !(r.kind == 1)), t.kind ≠ 1 := fun t ht => by simpa using (List.mem_filter.1 ht).2
    have h0 : ∀ t ∈ (flatM 3 l).filter (fun r => !(r.kind == 1)), t.kind ≠ 0 := fun t ht e => hn (List.any_eq_true.2 ⟨t, (List.mem_filter.1 ht).1, by simp [e]⟩)
    generalize (flatM 3 l).filter (fun r => !(r.kind == 1)) = L at hg h3 h1 h0
    match L with
    | [] => exact good_empty
    | [x] => exact hg x (by simp)
    | x :: y :: L => exact good_mk.2 ⟨⟨⟨fun _ => by decide, fun _ => rfl⟩, .inr (.inr (.inl ⟨rfl, by simp, fun t ht => ⟨h0 t ht, h1 t ht, h3 t ht⟩⟩))⟩, fun e => absurd e (by decide), hg⟩
theorem good_either {l : List RT} (h : ∀ t ∈ l, good t) : good (eitherM l) := by
  unfold eitherM
  obtain ⟨p1, p2⟩ := puts_asc (byteM (flatM 4 l) ++ othersM (flatM 4 l))
  have hb : ∀ t ∈ byteM (flatM 4 l), t = .mk 2 (unionM (flatM 4 l)) [] ∧ unionM (flatM 4 l) ≠ W4.zero := fun t ht => by
    unfold byteM at ht
    split at ht
    · simp at ht
    · simp at ht; exact ⟨ht, by assumption⟩
  have hg : ∀ t ∈ putsM (byteM (flatM 4 l) ++ othersM (flatM 4 l)), good t ∧ t.kind ≠ 0 ∧ t.kind ≠ 4 ∧ (t.kind = 2 → t = .mk 2 (unionM (flatM 4 l)) []) := fun t ht => by
    rcases List.mem_append.1 (p2 t ht) with h1 | h1
    · obtain ⟨e, hz⟩ := hb t h1
      subst e
      exact ⟨good_byte hz, by show (2 : Int) ≠ 0; decide, by show (2 : Int) ≠ 4; decide, fun _ => rfl⟩
    · obtain ⟨h2, h3⟩ := List.mem_filter.1 h1
      simp at h3
      exact ⟨good_flat h t h2, h3.1, flat_kinds (.inr rfl) h t h2, fun e => absurd e h3.2⟩
  generalize putsM (byteM (flatM 4 l) ++ othersM (flatM 4 l)) = L at p1 hg
  match L with
  | [] => exact good_none
  | [x] => exact (hg x (by simp)).1
  | x :: y :: L =>
    refine good_mk.2 ⟨⟨⟨fun _ => by decide, fun _ => rfl⟩, .inr (.inr (.inr ⟨rfl, by simp, fun t ht => ⟨(hg t ht).2.1, (hg t ht).2.2.1⟩, ?_⟩))⟩, fun _ => p1, fun t ht => (hg t ht).1⟩
    refine p1.imp_of_mem fun {a b} ha hb hab => fun ⟨k1, k2⟩ => ?_
    rw [(hg a ha).2.2.2 k1, (hg b hb).2.2.2 k2] at hab
    exact tlt_irrefl _ hab
theorem good_star {t : RT} (h : good t) : good (starM t) := by
  unfold starM
  split
  · exact good_empty
  · rename_i h1
    split
    · exact h
    · rename_i h2
      exact good_mk.2 ⟨⟨⟨fun _ => by decide, fun _ => rfl⟩, .inr (.inl ⟨rfl, rfl, fun u hu => by
        simp at hu; subst hu
        exact ⟨fun e => h1 (.inl e), fun e => h1 (.inr e), h2⟩⟩)⟩, fun e => absurd e (by decide), fun u hu => by simp at hu; subst hu; exact h⟩
theorem good_of (s : W4) : good (ofM s) := by
  unfold ofM
  split
  · exact good_none
  · exact good_byte (by assumption)
theorem good_right {t : RT} (h : good t) (ho : t.ok) : rightM t := form_right t ho h.1 h.2

/-! ### expressions by numbers -/
def letF (lo hi : Int) (b : Nat) : Bool := decide (lo ≤ (b : Int) ∧ (b : Int) ≤ hi)
def letM (lo hi : Int) : RT := .mk 2 (W4.of (letF lo hi)) []
theorem good_let {lo hi : Int} (h0 : 0 ≤ lo) (h1 : lo ≤ hi) (h2 : lo < 256) : good (letM lo hi) := by
  refine good_byte fun e => ?_
  have := (of_zero _).1 e lo.toNat (by omega)
  unfold letF at this
  have h3 : ((lo.toNat : Nat) : Int) = lo := by omega
  rw [h3] at this
  simp at this
  omega
def leafM (zs : List Int) (k a : Nat) : RT × Nat :=
  if k < 4 then (letM (97 + (pickF zs a 3 : Int)) (97 + (pickF zs a 3 : Int) + (pickF zs (a + 1) 4 : Int) / 3), a + 2) else (.mk ((pickF zs a 4 : Int) / 3) W4.zero [], a + 1)
def listR (f : Nat → RT × Nat) : Nat → Nat → List RT × Nat
  | 0, a => ([], a)
  | n + 1, a => ((listR f n a).1 ++ [(f (listR f n a).2).1], (f (listR f n a).2).2)
noncomputable def reM (zs : List Int) : Nat → Nat → RT × Nat
  | 0, a => leafM zs (pickF zs a 11 % 5) (a + 1)
  | d + 1, a =>
    if pickF zs a 11 < 5 then leafM zs (pickF zs a 11) (a + 1)
    else if pickF zs a 11 < 7 then (starM (reM zs d (a + 1)).1, (reM zs d (a + 1)).2)
    else if pickF zs a 11 < 9 then (catM (listR (reM zs d) (1 + pickF zs (a + 1) 3) (a + 2)).1, (listR (reM zs d) (1 + pickF zs (a + 1) 3) (a + 2)).2)
    else (eitherM (listR (reM zs d) (1 + pickF zs (a + 1) 3) (a + 2)).1, (listR (reM zs d) (1 + pickF zs (a + 1) 3) (a + 2)).2)
noncomputable def fewM (zs : List Int) : List RT := (listR (reM zs 3) (pickF zs 0 5) 1).1
/-- What holds of each that is made so. -/
theorem listR_all {Q : RT → Prop} {f : Nat → RT × Nat} (h : ∀ a, Q (f a).1) : ∀ n a, ∀ t ∈ (listR f n a).1, Q t
  | 0, a, t, ht => by simp [listR] at ht
  | n + 1, a, t, ht => by
    rw [listR] at ht
    rcases List.mem_append.1 ht with h1 | h1
    · exact listR_all h n a t h1
    · simp at h1; subst h1; exact h _
theorem listR_len (f : Nat → RT × Nat) : ∀ n a, (listR f n a).1.length = n
  | 0, a => rfl
  | n + 1, a => by rw [listR, List.length_append, listR_len f n a]; rfl
theorem listR_sum {f : Nat → RT × Nat} {B : Nat} (h : ∀ a, (f a).1.sz ≤ B) : ∀ n a, ((listR f n a).1.map RT.sz).sum ≤ n * B
  | 0, a => by simp [listR]
  | n + 1, a => by
    have h1 := listR_sum h n a
    have h2 := h (listR f n a).2
    rw [listR, sum_append, Nat.add_mul]
    simp only [List.map_cons, List.map_nil, List.sum_cons, List.sum_nil]
    omega
theorem listR_num {f : Nat → RT × Nat} {B : Nat} (h : ∀ a, a ≤ (f a).2 ∧ (f a).2 ≤ a + B) : ∀ n a, a ≤ (listR f n a).2 ∧ (listR f n a).2 ≤ a + n * B
  | 0, a => by simp [listR]
  | n + 1, a => by
    have h1 := listR_num h n a
    have h2 := h (listR f n a).2
    rw [listR, Nat.add_mul]
    constructor
    · show a ≤ (f (listR f n a).2).2
      omega
    · show (f (listR f n a).2).2 ≤ _
      omega
theorem pick3 (zs : List Int) (a : Nat) : pickF zs a 3 ≤ 2 := by have := pickF_lt zs a (n := 3) (by decide); omega
theorem pick4 (zs : List Int) (a : Nat) : pickF zs a 4 ≤ 3 := by have := pickF_lt zs a (n := 4) (by decide); omega
theorem leaf_facts (zs : List Int) (k a : Nat) : good (leafM zs k a).1 ∧ (leafM zs k a).1.sz = 1 ∧ (leafM zs k a).1.dep = 1 ∧ a ≤ (leafM zs k a).2 ∧ (leafM zs k a).2 ≤ a + 2 := by
  have h3 := pick3 zs a
  have h4 := pick4 zs a
  have h5 := pick4 zs (a + 1)
  unfold leafM
  split
  · refine ⟨good_let (by omega) (by omega) (by omega), ?_, dep_leaf _ _, by simp, by simp⟩
    unfold letM
    rw [sz_mk]
    rfl
  · refine ⟨?_, by rw [sz_mk]; rfl, dep_leaf _ _, by simp, by simp⟩
    have : (pickF zs a 4 : Int) / 3 = 0 ∨ (pickF zs a 4 : Int) / 3 = 1 := by omega
    rcases this with e | e
    · rw [e]; exact good_none
    · rw [e]; exact good_empty
theorem re_facts (zs : List Int) : ∀ d a, good (reM zs d a).1 ∧ (reM zs d a).1.sz ≤ 8 ^ d ∧ (reM zs d a).1.dep ≤ d + 1 ∧ a ≤ (reM zs d a).2 ∧ (reM zs d a).2 ≤ a + 8 ^ (d + 1)
  | 0, a => by
    obtain ⟨h1, h2, h3, h4, h5⟩ := leaf_facts zs (pickF zs a 11 % 5) (a + 1)
    rw [reM]
    exact ⟨h1, by omega, by omega, by omega, by omega⟩
  | d + 1, a => by
    have ih := re_facts zs d
    have hp : 1 ≤ 8 ^ d := Nat.pow_pos (by decide)
    have e1 : 8 ^ (d + 1) = 8 * 8 ^ d := by rw [Nat.pow_succ, Nat.mul_comm]
    have e2 : 8 ^ (d + 1 + 1) = 64 * 8 ^ d := by rw [Nat.pow_succ, e1]; omega
    rw [reM]
    split
    · obtain ⟨h1, h2, h3, h4, h5⟩ := leaf_facts zs (pickF zs a 11) (a + 1)
      exact ⟨h1, by omega, by omega, by omega, by omega⟩
    · split
      · obtain ⟨h1, h2, h3, h4, h5⟩ := ih (a + 1)
        have := sz_star (reM zs d (a + 1)).1
        refine ⟨good_star h1, ?_, dep_star h3, ?_, ?_⟩
        · show (starM _).sz ≤ _; omega
        · show a ≤ (reM zs d (a + 1)).2; omega
        · show (reM zs d (a + 1)).2 ≤ _; omega
      · have h3 := pick3 zs (a + 1)
        have hn := listR_num (f := reM zs d) (B := 8 ^ (d + 1)) (fun a => ⟨(ih a).2.2.2.1, (ih a).2.2.2.2⟩) (1 + pickF zs (a + 1) 3) (a + 2)
        have hs := listR_sum (f := reM zs d) (B := 8 ^ d) (fun a => (ih a).2.1) (1 + pickF zs (a + 1) 3) (a + 2)
        have hg := listR_all (Q := good) (f := reM zs d) (fun a => (ih a).1) (1 + pickF zs (a + 1) 3) (a + 2)
        have hd := listR_all (Q := fun t => t.dep ≤ d + 1) (f := reM zs d) (fun a => (ih a).2.2.1) (1 + pickF zs (a + 1) 3) (a + 2)
        have hs' : ((listR (reM zs d) (1 + pickF zs (a + 1) 3) (a + 2)).1.map RT.sz).sum ≤ 3 * 8 ^ d := Nat.le_trans hs (Nat.mul_le_mul_right _ (by omega))
        have hn' : (listR (reM zs d) (1 + pickF zs (a + 1) 3) (a + 2)).2 ≤ a + 2 + 3 * 8 ^ (d + 1) := Nat.le_trans hn.2 (Nat.add_le_add_left (Nat.mul_le_mul_right _ (by omega)) _)
        have hn1 := hn.1
        have c1 := sz_cat (listR (reM zs d) (1 + pickF zs (a + 1) 3) (a + 2)).1
        have c2 := sz_either (listR (reM zs d) (1 + pickF zs (a + 1) 3) (a + 2)).1
        split
        · refine ⟨good_cat hg, ?_, dep_cat hd, ?_, ?_⟩
          · show (catM _).sz ≤ _; omega
          · show a ≤ (listR _ _ _).2; omega
          · show (listR _ _ _).2 ≤ _; omega
        · refine ⟨good_either hg, ?_, dep_either (by omega) hd, ?_, ?_⟩
          · show (eitherM _).sz ≤ _; omega
          · show a ≤ (listR _ _ _).2; omega
          · show (listR _ _ _).2 ≤ _; omega
theorem few_facts (zs : List Int) : (fewM zs).length ≤ 4 ∧ (∀ t ∈ fewM zs, good t ∧ t.sz ≤ 512 ∧ t.dep ≤ 4) ∧ ((fewM zs).map RT.sz).sum ≤ 2048 := by
  have h5 : pickF zs 0 5 ≤ 4 := by have := pickF_lt zs 0 (n := 5) (by decide); omega
  have ih := re_facts zs 3
  refine ⟨by unfold fewM; rw [listR_len]; exact h5, fun t ht => ?_, ?_⟩
  · unfold fewM at ht
    exact listR_all (Q := fun t => good t ∧ t.sz ≤ 512 ∧ t.dep ≤ 4) (fun a => ⟨(ih a).1, (ih a).2.1, (ih a).2.2.1⟩) _ _ t ht
  · have hs := listR_sum (f := reM zs 3) (B := 512) (fun a => (ih a).2.1) (pickF zs 0 5) 1
    unfold fewM
    exact Nat.le_trans hs (Nat.le_trans (Nat.mul_le_mul_right _ h5) (by decide))

end Go.Proofs.YtchicecmoknkjabDoor

/-! The laws' letter, and expressions by numbers. No condition but how many numbers are taken. -/
namespace Go.Proofs.YtchicecmoknkjabDoor
open Go.RowKit Go.Lib
set_option linter.unusedVariables false
set_option linter.unusedSimpArgs false

theorem let_set {r0 r1 r2 r3 lo hi : Int} (h : IsSet r0 r1 r2 r3 (rng lo hi)) : (⟨r0, r1, r2, r3⟩ : W4) = W4.of (letF lo hi) := by
  rw [isSet_of h]
  refine of_congr fun b _ => ?_
  unfold rng letF
  rw [Bool.decide_and]
set_option maxRecDepth 100000 in
set_option maxHeartbeats 4000000 in
theorem letter_any {P : Nat → Prop} (w : World) (lo hi : Int) : Calls Tryd.prog 12 #[.int .i64 lo, .int .i64 hi] w (GivesRe P (letM lo hi) w) := by
  obtain ⟨D, hD⟩ : ∃ D, D = w.heap.size := ⟨_, rfl⟩
  obtain ⟨w1, hw1⟩ : ∃ w1 : World, w1 = w.alloc (.cells #[.int .i64 0, .int .u64 0, .int .u64 0, .int .u64 0, .int .u64 0, .slice none 0 0] 30) := ⟨_, rfl⟩
  have hb1 : Below w.heap.size w w1 := by rw [hw1]; exact (Below.refl _ _).alloc (Nat.le_refl _) _
  have hnD : w1.heap[D]? = some (.cells #[.int .i64 0, .int .u64 0, .int .u64 0, .int .u64 0, .int .u64 0, .slice none 0 0] 30 (0, 0)) := by rw [hw1, hD]; exact heap_alloc_new _ _
  have hDl : D < w1.heap.size := (Array.getElem?_eq_some_iff.1 hnD).1
  have c1 := refof_any lo hi w1
  have HB1 := Lib.hid hb1
  have HND := Lib.hid hnD
  have HW1 := Lib.hid hw1
  have HDD := Lib.hid hD
  have HDL := Lib.hid hDl
  clear hb1 hw1 hD hDl hnD
  go_enter Tryd.func12, Tryd.ntmps12
  go_wp2_with fail
  rw [← HW1.out, ← HDD.out]
  ((with_reducible refine c1.mono ?_))
  rintro _ w2 ⟨r0, r1, r2, r3, hs, rfl, hb2⟩
  have h2D := (hb2.block D HDL.out).trans HND.out
  have H2D := Lib.hid h2D
  have d0 : w2.cell? ⟨D, 0, none⟩ = some (.int .i64 0) := by simp [World.cell?, h2D]
  have d1 : w2.cell? ⟨D, 1, none⟩ = some (.int .u64 0) := by simp [World.cell?, h2D]
  have d2 : w2.cell? ⟨D, 2, none⟩ = some (.int .u64 0) := by simp [World.cell?, h2D]
  have d3 : w2.cell? ⟨D, 3, none⟩ = some (.int .u64 0) := by simp [World.cell?, h2D]
  have d4 : w2.cell? ⟨D, 4, none⟩ = some (.int .u64 0) := by simp [World.cell?, h2D]
  have d5 : w2.cell? ⟨D, 5, none⟩ = some (.slice none 0 0) := by simp [World.cell?, h2D]
  have f0 := frozen_no h2D 0
  have f1 := frozen_no h2D 1
  have f2 := frozen_no h2D 2
  have f3 := frozen_no h2D 3
  have f4 := frozen_no h2D 4
  have f5 := frozen_no h2D 5
  have HS := Lib.hid hs
  have HB2 := Lib.hid hb2
  clear hs hb2 h2D c1
  go_wp2
  refine bodyPost_ret_by (results_cell_row rfl _ _ D 30 #[.int .i64 2, .int .u64 r0, .int .u64 r1, .int .u64 r2, .int .u64 r3, .slice none 0 0] (0, 0) _ rfl (set6_heap H2D.out _ _ _ _ _ _) Tryd.underlying30 rfl (by kernel_rfl)) rfl ?_
  refine ⟨⟨2, r0, r1, r2, r3, none, 0, 0⟩, rfl, ?_, six_set (HB1.out.trans (HB2.out.mono HB1.out.size)) (by have := HDD.out; omega) _ _ _ _ _ _⟩
  have e : letM lo hi = .mk 2 ⟨r0, r1, r2, r3⟩ [] := by unfold letM; rw [let_set HS.out]
  rw [e]
  exact kids_empty.tree 2 ⟨r0, r1, r2, r3⟩ (by rw [let_set HS.out]; exact of_ok _)

/-- The call answers this expression, in blocks of its own, and has taken so many numbers. -/
def GivesP (R : Nat) (v : Value) (zs : List Int) (t : RT) (a : Nat) (w : World) (e : Ending) (w' : World) : Prop :=
  ∃ x : ReV, e = .returned x.val ∧ RAt w' (fun b => w.heap.size ≤ b) x t ∧ PickAt w' R v zs a ∧ w.grownBy w' (some R)
/-- Likewise of a row of them, which lies apart. -/
def GivesL (R : Nat) (v : Value) (zs : List Int) (l : List RT) (a : Nat) (w : World) (e : Ending) (w' : World) : Prop :=
  ∃ (q : Option Addr) (n cp : Nat) (us : List ReV), e = .returned (.slice q n cp) ∧ n = l.length ∧ w'.ownsRow w.heap.size 30 6 (.slice q n cp) n (us.flatMap ReV.cells) ∧ us.length = n ∧
    (∀ (i : Nat) (y : ReV) (t : RT), us[i]? = some y → l[i]? = some t → RAt w' (fun b => w.heap.size ≤ b ∧ (Value.slice q n cp).ownBlock ≠ some b) y t) ∧ PickAt w' R v zs a ∧ w.grownBy w' (some R)
theorem keeps_grown {W W' : World} {R : Nat} {P : Nat → Prop} (hg : W.grownBy W' (some R)) (hP : ∀ b, P b → b ≠ R) : Keeps W W' P P :=
  Keeps.of hg.size fun b hb hl => ⟨hg.block b hl (fun e => hP b hb (by cases e; rfl)), hb⟩
theorem grown_one {w W : World} {r : Option Nat} {D : Nat} (h : w.grownBy W r) (hD : w.heap.size ≤ D) (o : Nat) (v : Value) : w.grownBy (W.setCell ⟨D, o, none⟩ v) r :=
  ⟨h.os, h.tape, h.output, by simpa [World.setCell] using h.size, fun b hl hne => (Below.heap_setCell _ _ _ _ (by show b ≠ D; omega)).trans (h.block b hl hne)⟩
theorem grown_six {w W : World} {r : Option Nat} {D : Nat} (h : w.grownBy W r) (hD : w.heap.size ≤ D) (a b c d e f : Value) :
    w.grownBy ((((((W.setCell ⟨D, 0, none⟩ a).setCell ⟨D, 1, none⟩ b).setCell ⟨D, 2, none⟩ c).setCell ⟨D, 3, none⟩ d).setCell ⟨D, 4, none⟩ e).setCell ⟨D, 5, none⟩ f) r :=
  grown_one (grown_one (grown_one (grown_one (grown_one (grown_one h hD _ _) hD _ _) hD _ _) hD _ _) hD _ _) hD _ _
theorem own_grownR {W W' : World} {base n R : Nat} {v : Value} {xs : List Value} (h : W.ownsRow base 30 6 v n xs) (hg : W.grownBy W' (some R)) (hR : R < base) : W'.ownsRow base 30 6 v n xs := by
  rcases row_forms h with ⟨rfl, h0⟩ | ⟨g, cp, rfl⟩
  · exact ⟨h.1, .inl ⟨rfl, h0⟩⟩
  · have h1 := row_base h
    exact own_at h (hg.block g h1.2.2.2 (fun e => by cases e; omega))

set_option maxRecDepth 100000 in
set_option maxHeartbeats 8000000 in
theorem some_any {R : Nat} {v : Value} {zs : List Int} {f : Nat → RT × Nat} {dz : Int} {M B : Nat} (hf : ∀ a, a ≤ (f a).2 ∧ (f a).2 ≤ a + B)
    (hc : ∀ (w : World) (a : Nat), PickAt w R v zs a → a ≤ M → Calls Tryd.prog 32 #[.pointer (some ⟨R, 0, none⟩), .int .i64 dz] w (GivesP R v zs (f a).1 (f a).2 w)) (w : World) (n a : Nat) (hp : PickAt w R v zs a) (hn : n ≤ 10) (ha : a + n * B ≤ M) :
    Calls Tryd.prog 15 #[.pointer (some ⟨R, 0, none⟩), .int .i64 (n : Int), .int .i64 dz] w (GivesL R v zs (listR f n a).1 (listR f n a).2 w) := by
  obtain ⟨i0, hi0, hz0, hz1, hz2⟩ := re_parts
  have hRw : R < w.heap.size := hp.lt
  have HC := Lib.hid hc
  have HP0 := Lib.hid hp
  have HA : Hid (∀ i, i ≤ n → (listR f i a).2 ≤ M) := fun i hi => by
    have := (listR_num hf i a).2
    have : i * B ≤ n * B := Nat.mul_le_mul_right _ hi
    omega
  clear hc hp ha hf
  go_enter Tryd.func15, Tryd.ntmps15
  go_wp2_with fail
  go_loopg [7, 8] n (fun gk vv vi wr => ∃ (i : Nat) (q : Option Addr) (N cp : Nat) (us : List ReV), vv = .slice q N cp ∧ vi = .int .i64 (i : Int) ∧ i ≤ n ∧ n - i ≤ gk ∧ N = i ∧ Hid (wr.ownsRow w.heap.size 30 6 (.slice q N cp) N (us.flatMap ReV.cells)) ∧ Hid (us.length = N) ∧
    Hid (∀ (j : Nat) (y : ReV) (t : RT), us[j]? = some y → (listR f i a).1[j]? = some t → RAt wr (fun b => w.heap.size ≤ b ∧ (Value.slice q N cp).ownBlock ≠ some b) y t) ∧ Hid (PickAt wr R v zs (listR f i a).2) ∧ Hid (w.grownBy wr (some R)))
  case atStart => exact ⟨0, none, 0, 0, [], rfl, rfl, by omega, by omega, rfl, World.ownsRow_nil _ _ _ _, rfl, fun j y t hy => by simp at hy, HP0.out, grown_refl _ _⟩
  case round =>
    obtain ⟨i, q0, N, cp0, us, rfl, rfl, hi, hgk, hN, HO, HL, HE, HP, HG⟩ := hrel
    subst hN
    by_cases hlt : N < n
    · have hltz : (N : Int) < (n : Int) := by omega
      have c1 := HC.out wr _ HP.out (HA.out N hi)
      go_wp2_with fail
      ((with_reducible refine c1.mono ?_))
      rintro _ w1 ⟨x, rfl, hx, hp1, hg1⟩
      obtain ⟨k, a0, b, c, dw, q, m, cp⟩ := x
      have hwr : w.heap.size ≤ wr.heap.size := HG.out.size
      have hw1 : w.heap.size ≤ w1.heap.size := Nat.le_trans hwr hg1.size
      have HO1 : Hid (w1.ownsRow w.heap.size 30 6 (.slice q0 N cp0) N (us.flatMap ReV.cells)) := own_grownR HO.out hg1 hRw
      have HOB : Hid ((w1.alloc (.cells #[.int .i64 k, .int .u64 a0, .int .u64 b, .int .u64 c, .int .u64 dw, .slice q m cp] 30)).ownsRow w.heap.size 30 6 (.slice q0 N cp0) N (us.flatMap ReV.cells)) := HO1.out.alloc _
      have HE1 : Hid (∀ (j : Nat) (y : ReV) (t : RT), us[j]? = some y → (listR f N a).1[j]? = some t → RAt w1 (fun b => w.heap.size ≤ b ∧ (Value.slice q0 N cp0).ownBlock ≠ some b) y t) := fun j y t hy ht => (HE.out j y t hy ht).kept (keeps_grown hg1 fun b hb => by omega)
      have HX : Hid (RAt w1 (fun b => w.heap.size ≤ b ∧ (Value.slice q0 N cp0).ownBlock ≠ some b) ⟨k, a0, b, c, dw, q, m, cp⟩ (f (listR f N a).2).1) := hx.weak fun b hb _ => by
        refine ⟨by omega, fun e => ?_⟩
        rcases row_forms HO.out with ⟨e2, _⟩ | ⟨g, cp', e2⟩
        · rw [e2] at e; cases e
        · have h1 := HO.out
          rw [e2] at h1 e
          have := (row_base h1).2.2.2
          have : g = b := by simpa [Value.ownBlock] using e
          omega
      have HP1 := Lib.hid hp1
      have HG1 : Hid (w.grownBy w1 (some R)) := HG.out.trans hg1
      clear hx hp1 hg1 c1
      unfold ReV.val
      go_wp2_with (at_builtin; go_loud (refine wpList_append_own_at _ rfl _ _ 24 rfl w.heap.size 30 i0 _ 6 64 Tryd.underlying24 hi0 hz0 hz1 hz2 rfl (by decide) _ _ _ rfl HOB.out ⟨w1.heap.size, 0, none⟩ 1 1 [.int .i64 k, .int .u64 a0, .int .u64 b, .int .u64 c, .int .u64 dw, .slice q m cp] rfl rfl (new3 w1 #[.int .i64 k, .int .u64 a0, .int .u64 b, .int .u64 c, .int .u64 dw, .slice q m cp] 30 [.int .i64 k, .int .u64 a0, .int .u64 b, .int .u64 c, .int .u64 dw, .slice q m cp] rfl) ?c2 ?c3 ?c4 ?c5 ?_))
      case c2 => first | exact ⟨rfl, rfl, rfl, rfl, rfl, rfl⟩ | (intro x hx; simp at hx; rcases hx with rfl | rfl | rfl | rfl | rfl | rfl <;> rfl)
      case c3 => unfold maxLen; omega
      case c4 => omega
      case c5 => first | omega | (simp; omega)
      intro v' w4 hown hgrow _ hat
      have HOWN := Lib.hid hown
      have HGR := Lib.hid hgrow
      have HAT := Lib.hid hat
      obtain ⟨g4, cap4, rfl⟩ := (row_forms hown).resolve_left (fun h => by cases h.2)
      clear hown hgrow hat
      go_wp2
      go_roundg (n - (N + 1))
      case measure => omega
      case rel =>
        have keep : ∀ (y : ReV) (t : RT), RAt w1 (fun b => w.heap.size ≤ b ∧ (Value.slice q0 N cp0).ownBlock ≠ some b) y t → RAt w4 (fun b => w.heap.size ≤ b ∧ (Value.slice (some ⟨g4, 0, none⟩) (N + 1) cap4).ownBlock ≠ some b) y t := by
          intro y t hr
          refine hr.kept (Keeps.of (Nat.le_trans (by simp) HGR.out.size) fun b hb hl => ?_)
          refine ⟨(HGR.out.block b (by simp; omega) (fun e => hb.2 e.symm)).trans (heap_alloc_old _ _ hl), hb.1, fun e => ?_⟩
          rcases HAT.out with h | h
          · exact hb.2 (h.symm.trans e)
          · rw [h] at e
            have : w1.heap.size + 1 = b := by simpa using e
            omega
        refine ⟨N + 1, some ⟨g4, 0, none⟩, N + 1, cap4, us ++ [(⟨k, a0, b, c, dw, q, m, cp⟩ : ReV)], rfl, by go_num, by omega, Nat.le_refl _, rfl, ?_, ?_, ?_, ?_, ?_⟩
        · unfold Hid
          rw [List.flatMap_append]
          exact HOWN.out
        · unfold Hid
          rw [List.length_append, HL.out]
          rfl
        · intro j y t hy ht
          rw [listR] at ht
          by_cases hj : j < us.length
          · rw [List.getElem?_append_left hj] at hy
            rw [List.getElem?_append_left (by rw [listR_len, ← HL.out]; exact hj)] at ht
            exact keep y t (HE1.out j y t hy ht)
          · rw [List.getElem?_append_right (by omega)] at hy
            rw [List.getElem?_append_right (by rw [listR_len, ← HL.out]; omega), listR_len] at ht
            have eL := HL.out
            cases e : j - us.length with
            | zero =>
              have e2 : j - N = 0 := by omega
              rw [e] at hy
              rw [e2] at ht
              simp at hy ht
              subst hy ht
              exact keep _ _ HX.out
            | succ j2 => rw [e] at hy; simp at hy
        · rw [listR]
          refine HP1.out.kept fun b hb => ?_
          refine (HGR.out.block b (by have := HP1.out.lt; simp; omega) (fun e => ?_)).trans (heap_alloc_old _ _ (by have := HP1.out.lt; omega))
          have := own_above HO1.out b e.symm
          omega
        · refine ⟨HGR.out.os.trans HG1.out.os, HGR.out.tape.trans HG1.out.tape, HGR.out.output.trans HG1.out.output, Nat.le_trans HG1.out.size (Nat.le_trans (by simp) HGR.out.size), fun b hl hne => ?_⟩
          refine (HGR.out.block b (by simp; omega) (fun e => ?_)).trans ((heap_alloc_old _ _ (by omega)).trans (HG1.out.block b hl hne))
          have := own_above HO1.out b e.symm
          omega
    · have hltz : ¬ (N : Int) < (n : Int) := by omega
      obtain rfl : N = n := by omega
      go_wp2
      go_ret
      exact ⟨q0, N, cp0, us, rfl, (listR_len f N a).symm, HO.out, HL.out, HE.out, HP.out, HG.out⟩

def leafOk (k : Nat) : Prop := k < 5
set_option maxRecDepth 100000 in
set_option maxHeartbeats 16000000 in
theorem re_any {R : Nat} {v : Value} {zs : List Int} : ∀ (d : Nat), d ≤ 4 → ∀ (w : World) (a : Nat), PickAt w R v zs a → a ≤ 900000 - 8 ^ (d + 1) → Calls Tryd.prog 32 #[.pointer (some ⟨R, 0, none⟩), .int .i64 (d : Int)] w (GivesP R v zs (reM zs d a).1 (reM zs d a).2 w) := by
  intro d
  induction d with
  | zero =>
    intro _ w a hp ha
    have ha : a ≤ 899992 := by omega
    have hRw := hp.lt
    obtain ⟨T, hT⟩ : ∃ T, T = reM zs 0 a := ⟨_, rfl⟩
    rw [← hT]
    have HT : Hid (T = leafM zs (pickF zs a 11 % 5) (a + 1)) := by unfold Hid; rw [hT, reM]
    clear hT
    obtain ⟨D, hD⟩ : ∃ D, D = w.heap.size := ⟨_, rfl⟩
    obtain ⟨w1, hw1⟩ : ∃ w1 : World, w1 = w.alloc (.cells #[.int .i64 0, .int .u64 0, .int .u64 0, .int .u64 0, .int .u64 0, .slice none 0 0] 30) := ⟨_, rfl⟩
    have HW1 := Lib.hid hw1
    have HDD := Lib.hid hD
    have hp1 : PickAt w1 R v zs a := by rw [hw1]; exact hp.alloc _
    have HG1 : Hid (w.grownBy w1 (some R)) := by unfold Hid; rw [hw1]; exact World.grownBy_alloc w _ _
    have hnD : w1.heap[D]? = some (.cells #[.int .i64 0, .int .u64 0, .int .u64 0, .int .u64 0, .int .u64 0, .slice none 0 0] 30 (0, 0)) := by rw [hw1, hD]; exact heap_alloc_new _ _
    have hDl : D < w1.heap.size := (Array.getElem?_eq_some_iff.1 hnD).1
    have HND := Lib.hid hnD
    have c1 := picknum_any (n := 11) hp1 (by omega) (by decide)
    unfold Picks at c1
    clear hp hp1 hw1 hD hnD
    go_enter Tryd.func32, Tryd.ntmps32
    go_wp2_with fail
    rw [← HW1.out, ← HDD.out]
    ((with_reducible refine c1.mono ?_))
    rintro _ w3 ⟨rfl, hp3, hg3⟩
    have hDR : R ≠ D := by have := HDD.out; omega
    have H3D : Hid (w3.heap[D]? = some (.cells #[.int .i64 0, .int .u64 0, .int .u64 0, .int .u64 0, .int .u64 0, .slice none 0 0] 30 (0, 0))) := (hg3.block D hDl (fun e => by cases e; exact hDR rfl)).trans HND.out
    have HDL3 : Hid (D < w3.heap.size) := Nat.lt_of_lt_of_le hDl hg3.size
    have HP3 := Lib.hid hp3
    have HG3 : Hid (w.grownBy w3 (some R)) := HG1.out.trans hg3
    clear hp3 hg3 c1 hDl hDR
    have hK5 : pickF zs a 11 % 5 < 5 := Nat.mod_lt _ (by decide)
    obtain ⟨K, hK⟩ : ∃ K, K = pickF zs a 11 % 5 := ⟨_, rfl⟩
    have hmod : (pickF zs a 11 : Int) % 5 = (K : Int) := by omega
    rw [← hK] at hK5 HT
    clear hK
    by_cases h4 : K < 4
    · have h4z : (K : Int) < 4 := by omega
      have c2 := picknum_any (n := 3) HP3.out (by omega) (by decide)
      unfold Picks at c2
      have hm3 := pick3 zs (a + 1)
      obtain ⟨M, hM⟩ : ∃ M, M = pickF zs (a + 1) 3 := ⟨_, rfl⟩
      obtain ⟨M2, hM2⟩ : ∃ M2, M2 = pickF zs (a + 2) 4 := ⟨_, rfl⟩
      have hm4 := pick4 zs (a + 2)
      have HTT : Hid (T = (letM (97 + (M : Int)) (97 + (M : Int) + (M2 : Int) / 3), a + 1 + 2)) := by unfold Hid; rw [HT.out, leafM, if_pos h4, hM, hM2]
      rw [← hM] at c2 hm3
      rw [← hM2] at hm4
      have HM2 := Lib.hid hM2
      clear hM hM2 h4 hK5 HT
      have HT := HTT
      clear HTT
      go_wp2_with fail
      ((with_reducible refine c2.mono ?_))
      rintro _ w4 ⟨rfl, hp4, hg4⟩
      have c3 := picknum_any (n := 4) hp4 (by omega) (by decide)
      unfold Picks at c3
      rw [show a + 1 + 1 = a + 2 from rfl, ← HM2.out] at c3
      have hDR : R ≠ D := by have := HDD.out; omega
      have H4D : Hid (w4.heap[D]? = some (.cells #[.int .i64 0, .int .u64 0, .int .u64 0, .int .u64 0, .int .u64 0, .slice none 0 0] 30 (0, 0))) := (hg4.block D HDL3.out (fun e => by cases e; exact hDR rfl)).trans H3D.out
      have HG4 : Hid (w.grownBy w4 (some R)) := HG3.out.trans hg4
      have hw34 : w3.heap.size ≤ w4.heap.size := hg4.size
      clear hp4 hg4 c2
      go_wp2_with fail
      ((with_reducible refine c3.mono ?_))
      rintro _ w6 ⟨rfl, hp6, hg6⟩
      have c9 := letter_any (P := fun b => w6.heap.size ≤ b ∨ w6.heap.size ≤ b) w6 (97 + (M : Int)) (97 + (M : Int) + (M2 : Int) / 3)
      have H6D : Hid (w6.heap[D]? = some (.cells #[.int .i64 0, .int .u64 0, .int .u64 0, .int .u64 0, .int .u64 0, .slice none 0 0] 30 (0, 0))) := (hg6.block D (Nat.lt_of_lt_of_le HDL3.out hw34) (fun e => by cases e; exact hDR rfl)).trans H4D.out
      have HP6 := Lib.hid hp6
      have HG6 : Hid (w.grownBy w6 (some R)) := HG4.out.trans hg6
      have hw4 : w3.heap.size ≤ w6.heap.size := Nat.le_trans hw34 hg6.size
      clear hp6 hg6 c3 H4D HG4
      go_wp2_with fail
      ((with_reducible refine c9.mono ?_))
      rintro _ w5 ⟨x5, rfl, hx5, hb5⟩
      clear c9
      obtain ⟨k, a0, b, c, dw, q, m, cp⟩ := x5
      have h5D := (hb5.block D (Nat.lt_of_lt_of_le HDL3.out hw4)).trans H6D.out
      have H5D := Lib.hid h5D
      have d0 : w5.cell? ⟨D, 0, none⟩ = some (.int .i64 0) := by simp [World.cell?, h5D]
      have d1 : w5.cell? ⟨D, 1, none⟩ = some (.int .u64 0) := by simp [World.cell?, h5D]
      have d2 : w5.cell? ⟨D, 2, none⟩ = some (.int .u64 0) := by simp [World.cell?, h5D]
      have d3 : w5.cell? ⟨D, 3, none⟩ = some (.int .u64 0) := by simp [World.cell?, h5D]
      have d4 : w5.cell? ⟨D, 4, none⟩ = some (.int .u64 0) := by simp [World.cell?, h5D]
      have d5 : w5.cell? ⟨D, 5, none⟩ = some (.slice none 0 0) := by simp [World.cell?, h5D]
      have f0 := frozen_no h5D 0
      have f1 := frozen_no h5D 1
      have f2 := frozen_no h5D 2
      have f3 := frozen_no h5D 3
      have f4 := frozen_no h5D 4
      have f5 := frozen_no h5D 5
      have HX5 := Lib.hid hx5
      have HB5 := Lib.hid hb5
      clear hx5 hb5 h5D
      unfold ReV.val
      go_wp2
      refine bodyPost_ret_by (results_cell_row rfl _ _ D 30 #[.int .i64 k, .int .u64 a0, .int .u64 b, .int .u64 c, .int .u64 dw, .slice q m cp] (0, 0) _ rfl (set6_heap H5D.out _ _ _ _ _ _) Tryd.underlying30 rfl (by kernel_rfl)) rfl ?_
      rw [HT.out]
      refine ⟨⟨k, a0, b, c, dw, q, m, cp⟩, rfl, ?_, ?_, ?_⟩
      · refine HX5.out.kept (Keeps.of (by simp [World.setCell]) fun b hp hl => ?_)
        have h1 := HDL3.out
        have h2 := HDD.out
        have hbD : b ≠ D := by
          rcases hp with hp | hp
          · omega
          · omega
        exact ⟨six_ne hbD _ _ _ _ _ _, by rcases hp with hp | hp <;> omega⟩
      · refine HP6.out.kept fun b hb => ?_
        have h1 := HDD.out
        rw [six_ne (by omega)]
        exact HB5.out.block b (by have := HP6.out.lt; omega)
      · have hg5 := HG6.out.trans (grown_of (r := some R) HB5.out)
        exact grown_six hg5 (by have := HDD.out; omega) _ _ _ _ _ _
    · have h4z : ¬ (K : Int) < 4 := by omega
      have hK4 : (K : Int) = 4 := by omega
      have c2 := picknum_any (n := 4) HP3.out (by omega) (by decide)
      unfold Picks at c2
      have hm4 := pick4 zs (a + 1)
      obtain ⟨M, hM⟩ : ∃ M, M = pickF zs (a + 1) 4 := ⟨_, rfl⟩
      have HTT : Hid (T = (.mk ((M : Int) / 3) W4.zero [], a + 1 + 1)) := by unfold Hid; rw [HT.out, leafM, if_neg h4, hM]
      rw [← hM] at c2 hm4
      clear hM h4 hK5 HT
      have HT := HTT
      clear HTT
      go_wp2_with fail
      ((with_reducible refine c2.mono ?_))
      rintro _ w4 ⟨rfl, hp4, hg4⟩
      have hDR : R ≠ D := by have := HDD.out; omega
      have h4D : w4.heap[D]? = some (.cells #[.int .i64 0, .int .u64 0, .int .u64 0, .int .u64 0, .int .u64 0, .slice none 0 0] 30 (0, 0)) := (hg4.block D HDL3.out (fun e => by cases e; exact hDR rfl)).trans H3D.out
      have H4D := Lib.hid h4D
      have HP4 := Lib.hid hp4
      have HG4 : Hid (w.grownBy w4 (some R)) := HG3.out.trans hg4
      have d0 : w4.cell? ⟨D, 0, none⟩ = some (.int .i64 0) := by simp [World.cell?, h4D]
      have d1 : w4.cell? ⟨D, 1, none⟩ = some (.int .u64 0) := by simp [World.cell?, h4D]
      have d2 : w4.cell? ⟨D, 2, none⟩ = some (.int .u64 0) := by simp [World.cell?, h4D]
      have d3 : w4.cell? ⟨D, 3, none⟩ = some (.int .u64 0) := by simp [World.cell?, h4D]
      have d4 : w4.cell? ⟨D, 4, none⟩ = some (.int .u64 0) := by simp [World.cell?, h4D]
      have d5 : w4.cell? ⟨D, 5, none⟩ = some (.slice none 0 0) := by simp [World.cell?, h4D]
      have f0 := frozen_no h4D 0
      have f1 := frozen_no h4D 1
      have f2 := frozen_no h4D 2
      have f3 := frozen_no h4D 3
      have f4 := frozen_no h4D 4
      have f5 := frozen_no h4D 5
      clear hp4 hg4 c2 h4D
      go_wp2
      refine bodyPost_ret_by (results_cell_row rfl _ _ D 30 #[.int .i64 ((M : Int) / 3), .int .u64 0, .int .u64 0, .int .u64 0, .int .u64 0, .slice none 0 0] (0, 0) _ rfl (set6_heap H4D.out _ _ _ _ _ _) Tryd.underlying30 rfl (by kernel_rfl)) rfl ?_
      rw [HT.out]
      refine ⟨⟨(M : Int) / 3, 0, 0, 0, 0, none, 0, 0⟩, rfl, ?_, ?_, ?_⟩
      · exact kids_empty.tree ((M : Int) / 3) W4.zero zero_ok
      · refine HP4.out.kept fun b hb => ?_
        have h1 := HDD.out
        rw [six_ne (by omega)]
      · exact grown_six HG4.out (by have := HDD.out; omega) _ _ _ _ _ _
  | succ d ih =>
    intro hd w a hp ha
    have e8 : 8 ^ (d + 1 + 1) = 8 * 8 ^ (d + 1) := by rw [Nat.pow_succ 8 (d + 1), Nat.mul_comm]
    have hp8 : 1 ≤ 8 ^ (d + 1) := Nat.pow_pos (by decide)
    have hp9 : 8 ^ (d + 1) ≤ 4096 := Nat.pow_le_pow_right (by decide) (by omega : d + 1 ≤ 4)
    have hRw := hp.lt
    obtain ⟨T, hT⟩ : ∃ T, T = reM zs (d + 1) a := ⟨_, rfl⟩
    rw [← hT]
    rw [reM] at hT
    have HT := Lib.hid hT
    have HIH : Hid (∀ (w : World) (a : Nat), PickAt w R v zs a → a ≤ 900000 - 8 ^ (d + 1) → Calls Tryd.prog 32 #[.pointer (some ⟨R, 0, none⟩), .int .i64 (d : Int)] w (GivesP R v zs (reM zs d a).1 (reM zs d a).2 w)) := fun w a h1 h2 => ih (by omega) w a h1 h2
    have HB8 : Hid (8 ^ (d + 1) ≤ 4096 ∧ a + 8 * 8 ^ (d + 1) ≤ 900000) := ⟨hp9, by omega⟩
    have ha : a ≤ 899992 := by omega
    have hdz : ¬ ((d : Int) + 1 < 1) := by omega
    have ed : ((d + 1 : Nat) : Int) = (d : Int) + 1 := by omega
    rw [ed]
    clear hT ih e8 hp8 hp9 ed
    obtain ⟨D, hD⟩ : ∃ D, D = w.heap.size := ⟨_, rfl⟩
    obtain ⟨w1, hw1⟩ : ∃ w1 : World, w1 = w.alloc (.cells #[.int .i64 0, .int .u64 0, .int .u64 0, .int .u64 0, .int .u64 0, .slice none 0 0] 30) := ⟨_, rfl⟩
    have HW1 := Lib.hid hw1
    have HDD := Lib.hid hD
    have hp1 : PickAt w1 R v zs a := by rw [hw1]; exact hp.alloc _
    have HG1 : Hid (w.grownBy w1 (some R)) := by unfold Hid; rw [hw1]; exact World.grownBy_alloc w _ _
    have hnD : w1.heap[D]? = some (.cells #[.int .i64 0, .int .u64 0, .int .u64 0, .int .u64 0, .int .u64 0, .slice none 0 0] 30 (0, 0)) := by rw [hw1, hD]; exact heap_alloc_new _ _
    have hDl : D < w1.heap.size := (Array.getElem?_eq_some_iff.1 hnD).1
    have HND := Lib.hid hnD
    have c1 := picknum_any (n := 11) hp1 (by omega) (by decide)
    unfold Picks at c1
    clear hp hp1 hw1 hD hnD
    go_enter Tryd.func32, Tryd.ntmps32
    go_wp2_with fail
    rw [← HW1.out, ← HDD.out]
    ((with_reducible refine c1.mono ?_))
    rintro _ w3 ⟨rfl, hp3, hg3⟩
    have hDR : R ≠ D := by have := HDD.out; omega
    have H3D : Hid (w3.heap[D]? = some (.cells #[.int .i64 0, .int .u64 0, .int .u64 0, .int .u64 0, .int .u64 0, .slice none 0 0] 30 (0, 0))) := (hg3.block D hDl (fun e => by cases e; exact hDR rfl)).trans HND.out
    have HDL3 : Hid (D < w3.heap.size) := Nat.lt_of_lt_of_le hDl hg3.size
    have HP3 := Lib.hid hp3
    have HG3 : Hid (w.grownBy w3 (some R)) := HG1.out.trans hg3
    clear hp3 hg3 c1 hDl hDR
    by_cases hlt : pickF zs a 11 < 5
    · have hK5 := hlt
      obtain ⟨K, hK⟩ : ∃ K, K = pickF zs a 11 := ⟨_, rfl⟩
      have HT2 : Hid (T = leafM zs K (a + 1)) := by unfold Hid; rw [HT.out, if_pos hlt, hK]
      rw [← hK] at hK5 ⊢
      clear hK hlt HT
      have HT := HT2
      clear HT2
      by_cases h4 : K < 4
      · have h4z : (K : Int) < 4 := by omega
        have c2 := picknum_any (n := 3) HP3.out (by omega) (by decide)
        unfold Picks at c2
        have hm3 := pick3 zs (a + 1)
        obtain ⟨M, hM⟩ : ∃ M, M = pickF zs (a + 1) 3 := ⟨_, rfl⟩
        obtain ⟨M2, hM2⟩ : ∃ M2, M2 = pickF zs (a + 2) 4 := ⟨_, rfl⟩
        have hm4 := pick4 zs (a + 2)
        have HTT : Hid (T = (letM (97 + (M : Int)) (97 + (M : Int) + (M2 : Int) / 3), a + 1 + 2)) := by unfold Hid; rw [HT.out, leafM, if_pos h4, hM, hM2]
        rw [← hM] at c2 hm3
        rw [← hM2] at hm4
        have HM2 := Lib.hid hM2
        clear hM hM2 h4 hK5 HT
        have HT := HTT
        clear HTT
        go_wp2_with fail
        ((with_reducible refine c2.mono ?_))
        rintro _ w4 ⟨rfl, hp4, hg4⟩
        have c3 := picknum_any (n := 4) hp4 (by omega) (by decide)
        unfold Picks at c3
        rw [show a + 1 + 1 = a + 2 from rfl, ← HM2.out] at c3
        have hDR : R ≠ D := by have := HDD.out; omega
        have H4D : Hid (w4.heap[D]? = some (.cells #[.int .i64 0, .int .u64 0, .int .u64 0, .int .u64 0, .int .u64 0, .slice none 0 0] 30 (0, 0))) := (hg4.block D HDL3.out (fun e => by cases e; exact hDR rfl)).trans H3D.out
        have HG4 : Hid (w.grownBy w4 (some R)) := HG3.out.trans hg4
        have hw34 : w3.heap.size ≤ w4.heap.size := hg4.size
        clear hp4 hg4 c2
        go_wp2_with fail
        ((with_reducible refine c3.mono ?_))
        rintro _ w6 ⟨rfl, hp6, hg6⟩
        have c9 := letter_any (P := fun b => w6.heap.size ≤ b ∨ w6.heap.size ≤ b) w6 (97 + (M : Int)) (97 + (M : Int) + (M2 : Int) / 3)
        have H6D : Hid (w6.heap[D]? = some (.cells #[.int .i64 0, .int .u64 0, .int .u64 0, .int .u64 0, .int .u64 0, .slice none 0 0] 30 (0, 0))) := (hg6.block D (Nat.lt_of_lt_of_le HDL3.out hw34) (fun e => by cases e; exact hDR rfl)).trans H4D.out
        have HP6 := Lib.hid hp6
        have HG6 : Hid (w.grownBy w6 (some R)) := HG4.out.trans hg6
        have hw4 : w3.heap.size ≤ w6.heap.size := Nat.le_trans hw34 hg6.size
        clear hp6 hg6 c3 H4D HG4
        go_wp2_with fail
        ((with_reducible refine c9.mono ?_))
        rintro _ w5 ⟨x5, rfl, hx5, hb5⟩
        clear c9
        obtain ⟨k, a0, b, c, dw, q, m, cp⟩ := x5
        have h5D := (hb5.block D (Nat.lt_of_lt_of_le HDL3.out hw4)).trans H6D.out
        have H5D := Lib.hid h5D
        have d0 : w5.cell? ⟨D, 0, none⟩ = some (.int .i64 0) := by simp [World.cell?, h5D]
        have d1 : w5.cell? ⟨D, 1, none⟩ = some (.int .u64 0) := by simp [World.cell?, h5D]
        have d2 : w5.cell? ⟨D, 2, none⟩ = some (.int .u64 0) := by simp [World.cell?, h5D]
        have d3 : w5.cell? ⟨D, 3, none⟩ = some (.int .u64 0) := by simp [World.cell?, h5D]
        have d4 : w5.cell? ⟨D, 4, none⟩ = some (.int .u64 0) := by simp [World.cell?, h5D]
        have d5 : w5.cell? ⟨D, 5, none⟩ = some (.slice none 0 0) := by simp [World.cell?, h5D]
        have f0 := frozen_no h5D 0
        have f1 := frozen_no h5D 1
        have f2 := frozen_no h5D 2
        have f3 := frozen_no h5D 3
        have f4 := frozen_no h5D 4
        have f5 := frozen_no h5D 5
        have HX5 := Lib.hid hx5
        have HB5 := Lib.hid hb5
        clear hx5 hb5 h5D
        unfold ReV.val
        go_wp2
        refine bodyPost_ret_by (results_cell_row rfl _ _ D 30 #[.int .i64 k, .int .u64 a0, .int .u64 b, .int .u64 c, .int .u64 dw, .slice q m cp] (0, 0) _ rfl (set6_heap H5D.out _ _ _ _ _ _) Tryd.underlying30 rfl (by kernel_rfl)) rfl ?_
        rw [HT.out]
        refine ⟨⟨k, a0, b, c, dw, q, m, cp⟩, rfl, ?_, ?_, ?_⟩
        · refine HX5.out.kept (Keeps.of (by simp [World.setCell]) fun b hp hl => ?_)
          have h1 := HDL3.out
          have h2 := HDD.out
          have hbD : b ≠ D := by
            rcases hp with hp | hp
            · omega
            · omega
          exact ⟨six_ne hbD _ _ _ _ _ _, by rcases hp with hp | hp <;> omega⟩
        · refine HP6.out.kept fun b hb => ?_
          have h1 := HDD.out
          rw [six_ne (by omega)]
          exact HB5.out.block b (by have := HP6.out.lt; omega)
        · have hg5 := HG6.out.trans (grown_of (r := some R) HB5.out)
          exact grown_six hg5 (by have := HDD.out; omega) _ _ _ _ _ _
      · have h4z : ¬ (K : Int) < 4 := by omega
        have hK4 : (K : Int) = 4 := by omega
        have c2 := picknum_any (n := 4) HP3.out (by omega) (by decide)
        unfold Picks at c2
        have hm4 := pick4 zs (a + 1)
        obtain ⟨M, hM⟩ : ∃ M, M = pickF zs (a + 1) 4 := ⟨_, rfl⟩
        have HTT : Hid (T = (.mk ((M : Int) / 3) W4.zero [], a + 1 + 1)) := by unfold Hid; rw [HT.out, leafM, if_neg h4, hM]
        rw [← hM] at c2 hm4
        clear hM h4 hK5 HT
        have HT := HTT
        clear HTT
        go_wp2_with fail
        ((with_reducible refine c2.mono ?_))
        rintro _ w4 ⟨rfl, hp4, hg4⟩
        have hDR : R ≠ D := by have := HDD.out; omega
        have h4D : w4.heap[D]? = some (.cells #[.int .i64 0, .int .u64 0, .int .u64 0, .int .u64 0, .int .u64 0, .slice none 0 0] 30 (0, 0)) := (hg4.block D HDL3.out (fun e => by cases e; exact hDR rfl)).trans H3D.out
        have H4D := Lib.hid h4D
        have HP4 := Lib.hid hp4
        have HG4 : Hid (w.grownBy w4 (some R)) := HG3.out.trans hg4
        have d0 : w4.cell? ⟨D, 0, none⟩ = some (.int .i64 0) := by simp [World.cell?, h4D]
        have d1 : w4.cell? ⟨D, 1, none⟩ = some (.int .u64 0) := by simp [World.cell?, h4D]
        have d2 : w4.cell? ⟨D, 2, none⟩ = some (.int .u64 0) := by simp [World.cell?, h4D]
        have d3 : w4.cell? ⟨D, 3, none⟩ = some (.int .u64 0) := by simp [World.cell?, h4D]
        have d4 : w4.cell? ⟨D, 4, none⟩ = some (.int .u64 0) := by simp [World.cell?, h4D]
        have d5 : w4.cell? ⟨D, 5, none⟩ = some (.slice none 0 0) := by simp [World.cell?, h4D]
        have f0 := frozen_no h4D 0
        have f1 := frozen_no h4D 1
        have f2 := frozen_no h4D 2
        have f3 := frozen_no h4D 3
        have f4 := frozen_no h4D 4
        have f5 := frozen_no h4D 5
        clear hp4 hg4 c2 h4D
        go_wp2
        refine bodyPost_ret_by (results_cell_row rfl _ _ D 30 #[.int .i64 ((M : Int) / 3), .int .u64 0, .int .u64 0, .int .u64 0, .int .u64 0, .slice none 0 0] (0, 0) _ rfl (set6_heap H4D.out _ _ _ _ _ _) Tryd.underlying30 rfl (by kernel_rfl)) rfl ?_
        rw [HT.out]
        refine ⟨⟨(M : Int) / 3, 0, 0, 0, 0, none, 0, 0⟩, rfl, ?_, ?_, ?_⟩
        · exact kids_empty.tree ((M : Int) / 3) W4.zero zero_ok
        · refine HP4.out.kept fun b hb => ?_
          have h1 := HDD.out
          rw [six_ne (by omega)]
        · exact grown_six HG4.out (by have := HDD.out; omega) _ _ _ _ _ _
    · obtain ⟨K, hK⟩ : ∃ K, K = pickF zs a 11 := ⟨_, rfl⟩
      have HT' := HT.out
      rw [if_neg hlt, ← hK] at HT'
      rw [← hK] at hlt ⊢
      have n4 : ¬ (K : Int) < 4 := by omega
      have n5 : ((K : Int) == 4) = false := by simp; omega
      clear hK HT
      by_cases h7 : K < 7
      · have h7z : (K : Int) < 7 := by omega
        rw [if_pos h7] at HT'
        have HT := Lib.hid HT'
        have c2 := HIH.out w3 (a + 1) HP3.out (by have := HB8.out; omega)
        clear HT' h7 hlt
        go_wp2_with fail
        ((with_reducible refine c2.mono ?_))
        rintro _ w4 ⟨x, rfl, hx, hp4, hg4⟩
        have hDR : R ≠ D := by have := HDD.out; omega
        have c3 := refstar_any w4 x _ hx
        have H4D : Hid (w4.heap[D]? = some (.cells #[.int .i64 0, .int .u64 0, .int .u64 0, .int .u64 0, .int .u64 0, .slice none 0 0] 30 (0, 0))) := (hg4.block D HDL3.out (fun e => by cases e; exact hDR rfl)).trans H3D.out
        have HP4 := Lib.hid hp4
        have HG4 : Hid (w.grownBy w4 (some R)) := HG3.out.trans hg4
        have hw4 : w3.heap.size ≤ w4.heap.size := hg4.size
        clear hx hp4 hg4 c2
        go_wp2_with fail
        ((with_reducible refine c3.mono ?_))
        rintro _ w5 ⟨x5, rfl, hx5, hb5⟩
        obtain ⟨k, a0, b, c, dw, q, m, cp⟩ := x5
        have h5D := (hb5.block D (Nat.lt_of_lt_of_le HDL3.out hw4)).trans H4D.out
        have H5D := Lib.hid h5D
        have d0 : w5.cell? ⟨D, 0, none⟩ = some (.int .i64 0) := by simp [World.cell?, h5D]
        have d1 : w5.cell? ⟨D, 1, none⟩ = some (.int .u64 0) := by simp [World.cell?, h5D]
        have d2 : w5.cell? ⟨D, 2, none⟩ = some (.int .u64 0) := by simp [World.cell?, h5D]
        have d3 : w5.cell? ⟨D, 3, none⟩ = some (.int .u64 0) := by simp [World.cell?, h5D]
        have d4 : w5.cell? ⟨D, 4, none⟩ = some (.int .u64 0) := by simp [World.cell?, h5D]
        have d5 : w5.cell? ⟨D, 5, none⟩ = some (.slice none 0 0) := by simp [World.cell?, h5D]
        have f0 := frozen_no h5D 0
        have f1 := frozen_no h5D 1
        have f2 := frozen_no h5D 2
        have f3 := frozen_no h5D 3
        have f4 := frozen_no h5D 4
        have f5 := frozen_no h5D 5
        have HX5 := Lib.hid hx5
        have HB5 := Lib.hid hb5
        clear hx5 hb5 h5D c3
        unfold ReV.val
        go_wp2
        refine bodyPost_ret_by (results_cell_row rfl _ _ D 30 #[.int .i64 k, .int .u64 a0, .int .u64 b, .int .u64 c, .int .u64 dw, .slice q m cp] (0, 0) _ rfl (set6_heap H5D.out _ _ _ _ _ _) Tryd.underlying30 rfl (by kernel_rfl)) rfl ?_
        rw [HT.out]
        refine ⟨⟨k, a0, b, c, dw, q, m, cp⟩, rfl, ?_, ?_, ?_⟩
        · refine HX5.out.kept (Keeps.of (by simp [World.setCell]) fun b hp hl => ?_)
          have h1 := HDL3.out
          have h2 := HDD.out
          have hbD : b ≠ D := by
            rcases hp with hp | hp
            · omega
            · omega
          exact ⟨six_ne hbD _ _ _ _ _ _, by rcases hp with hp | hp <;> omega⟩
        · refine HP4.out.kept fun b hb => ?_
          have h1 := HDD.out
          rw [six_ne (by omega)]
          exact HB5.out.block b (by have := HP4.out.lt; omega)
        · have hg5 := HG4.out.trans (grown_of (r := some R) HB5.out)
          exact grown_six hg5 (by have := HDD.out; omega) _ _ _ _ _ _
      · have n7 : ¬ (K : Int) < 7 := by omega
        rw [if_neg h7] at HT'
        have c2 := picknum_any (n := 3) HP3.out (by omega) (by decide)
        have hp3 := pick3 zs (a + 1)
        obtain ⟨M, hM⟩ : ∃ M, M = pickF zs (a + 1) 3 := ⟨_, rfl⟩
        unfold Picks at c2
        rw [← hM] at c2 HT' hp3
        have hs := some_any (R := R) (v := v) (zs := zs) (f := reM zs d) (dz := (d : Int)) (M := 900000 - 8 ^ (d + 1)) (B := 8 ^ (d + 1)) (fun a => ⟨(re_facts zs d a).2.2.2.1, (re_facts zs d a).2.2.2.2⟩) HIH.out
        have HSO : Hid (∀ w4, PickAt w4 R v zs (a + 1 + 1) → Calls Tryd.prog 15 #[.pointer (some ⟨R, 0, none⟩), .int .i64 (1 + (M : Int)), .int .i64 (d : Int)] w4 (GivesL R v zs (listR (reM zs d) (1 + M) (a + 2)).1 (listR (reM zs d) (1 + M) (a + 2)).2 w4)) := by
          intro w4 h4
          have := hs w4 (1 + M) (a + 2) h4 (by omega) (by
            have h1 := HB8.out
            have : (1 + M) * 8 ^ (d + 1) ≤ 3 * 8 ^ (d + 1) := Nat.mul_le_mul_right _ (by omega)
            omega)
          rw [show ((1 + M : Nat) : Int) = 1 + (M : Int) by omega] at this
          exact this
        have HSZ : Hid (((listR (reM zs d) (1 + M) (a + 2)).1.map RT.sz).sum ≤ 1000000000) := by
          have h1 := listR_sum (f := reM zs d) (B := 8 ^ d) (fun a => (re_facts zs d a).2.1) (1 + M) (a + 2)
          have h2 : (1 + M) * 8 ^ d ≤ 3 * 8 ^ (d + 1) := Nat.mul_le_mul (by omega) (Nat.pow_le_pow_right (by decide) (by omega))
          have h3 := HB8.out
          unfold Hid
          omega
        have hMb : (M : Int) ≤ 2 := by omega
        have HLI : Hid (T = (if K < 9 then (catM (listR (reM zs d) (1 + M) (a + 2)).1, (listR (reM zs d) (1 + M) (a + 2)).2) else (eitherM (listR (reM zs d) (1 + M) (a + 2)).1, (listR (reM zs d) (1 + M) (a + 2)).2))) := HT'
        obtain ⟨LL, hLL⟩ : ∃ LL, LL = listR (reM zs d) (1 + M) (a + 2) := ⟨_, rfl⟩
        rw [← hLL] at HSO HSZ HLI
        clear hs hM HT' h7 hlt hp3 hLL
        by_cases h9 : K < 9
        · have h9z : (K : Int) < 9 := by omega
          have HT : Hid (T = (catM LL.1, LL.2)) := by unfold Hid; rw [HLI.out, if_pos h9]
          clear h9 HLI
          go_wp2_with fail
          ((with_reducible refine c2.mono ?_))
          rintro _ w4' ⟨rfl, hp4, hg4⟩
          have c3 := HSO.out w4' hp4
          have hDR : R ≠ D := by have := HDD.out; omega
          have H7D : Hid (w4'.heap[D]? = some (.cells #[.int .i64 0, .int .u64 0, .int .u64 0, .int .u64 0, .int .u64 0, .slice none 0 0] 30 (0, 0))) := (hg4.block D HDL3.out (fun e => by cases e; exact hDR rfl)).trans H3D.out
          have HG7 : Hid (w.grownBy w4' (some R)) := HG3.out.trans hg4
          have hw7 : w3.heap.size ≤ w4'.heap.size := hg4.size
          clear hp4 hg4 c2
          go_wp2_with fail
          ((with_reducible refine c3.mono ?_))
          rintro _ w4 ⟨q4, n4, cp4, us4, rfl, hn4, ho4, hl4, he4, hp4, hg4⟩
          have hkr : KidsR w4 (fun b => w3.heap.size ≤ b) q4 n4 cp4 us4 LL.1 := by
            refine ⟨?_, hn4, hl4.trans hn4, fun i y t hy ht => (he4 i y t hy ht).weak fun b hb _ => by omega⟩
            rcases row_forms ho4 with ⟨e, h0⟩ | ⟨g, cp', e⟩
            · cases e; exact .inl ⟨h0, fun _ => rfl⟩
            · cases e
              obtain ⟨r1, r2, r3, r4⟩ := row_base ho4
              rcases ho4.2 with ⟨h2, _⟩ | ⟨g', cap', cur, hv, hb, hh, hc, hm, hsz, ht⟩
              · cases h2
              · obtain rfl : g = g' := by simp at hv; omega
                exact .inr ⟨g, 0, rfl, r2, r3, by omega, ⟨cur, _, by decide, hh⟩, fun j u hj => by rw [Nat.zero_add]; exact row_cell ho4 hj⟩
          have c5 := refcat_any w4 hkr HSZ.out
          have H4D : Hid (w4.heap[D]? = some (.cells #[.int .i64 0, .int .u64 0, .int .u64 0, .int .u64 0, .int .u64 0, .slice none 0 0] 30 (0, 0))) := (hg4.block D (Nat.lt_of_lt_of_le HDL3.out hw7) (fun e => by cases e; exact hDR rfl)).trans H7D.out
          have HP4 := Lib.hid hp4
          have HG4 : Hid (w.grownBy w4 (some R)) := HG7.out.trans hg4
          have hw4 : w3.heap.size ≤ w4.heap.size := Nat.le_trans hw7 hg4.size
          clear hn4 ho4 hl4 he4 hp4 hg4 hkr c3
          go_wp2_with fail
          ((with_reducible refine c5.mono ?_))
          rintro _ w5 ⟨x5, rfl, hx5, hb5⟩
          clear c5
          obtain ⟨k, a0, b, c, dw, q, m, cp⟩ := x5
          have h5D := (hb5.block D (Nat.lt_of_lt_of_le HDL3.out hw4)).trans H4D.out
          have H5D := Lib.hid h5D
          have d0 : w5.cell? ⟨D, 0, none⟩ = some (.int .i64 0) := by simp [World.cell?, h5D]
          have d1 : w5.cell? ⟨D, 1, none⟩ = some (.int .u64 0) := by simp [World.cell?, h5D]
          have d2 : w5.cell? ⟨D, 2, none⟩ = some (.int .u64 0) := by simp [World.cell?, h5D]
          have d3 : w5.cell? ⟨D, 3, none⟩ = some (.int .u64 0) := by simp [World.cell?, h5D]
          have d4 : w5.cell? ⟨D, 4, none⟩ = some (.int .u64 0) := by simp [World.cell?, h5D]
          have d5 : w5.cell? ⟨D, 5, none⟩ = some (.slice none 0 0) := by simp [World.cell?, h5D]
          have f0 := frozen_no h5D 0
          have f1 := frozen_no h5D 1
          have f2 := frozen_no h5D 2
          have f3 := frozen_no h5D 3
          have f4 := frozen_no h5D 4
          have f5 := frozen_no h5D 5
          have HX5 := Lib.hid hx5
          have HB5 := Lib.hid hb5
          clear hx5 hb5 h5D
          unfold ReV.val
          go_wp2
          refine bodyPost_ret_by (results_cell_row rfl _ _ D 30 #[.int .i64 k, .int .u64 a0, .int .u64 b, .int .u64 c, .int .u64 dw, .slice q m cp] (0, 0) _ rfl (set6_heap H5D.out _ _ _ _ _ _) Tryd.underlying30 rfl (by kernel_rfl)) rfl ?_
          rw [HT.out]
          refine ⟨⟨k, a0, b, c, dw, q, m, cp⟩, rfl, ?_, ?_, ?_⟩
          · refine HX5.out.kept (Keeps.of (by simp [World.setCell]) fun b hp hl => ?_)
            have h1 := HDL3.out
            have h2 := HDD.out
            have hbD : b ≠ D := by
              rcases hp with hp | hp
              · omega
              · omega
            exact ⟨six_ne hbD _ _ _ _ _ _, by rcases hp with hp | hp <;> omega⟩
          · refine HP4.out.kept fun b hb => ?_
            have h1 := HDD.out
            rw [six_ne (by omega)]
            exact HB5.out.block b (by have := HP4.out.lt; omega)
          · have hg5 := HG4.out.trans (grown_of (r := some R) HB5.out)
            exact grown_six hg5 (by have := HDD.out; omega) _ _ _ _ _ _
        · have n9 : ¬ (K : Int) < 9 := by omega
          have HT : Hid (T = (eitherM LL.1, LL.2)) := by unfold Hid; rw [HLI.out, if_neg h9]
          clear h9 HLI
          go_wp2_with fail
          ((with_reducible refine c2.mono ?_))
          rintro _ w4' ⟨rfl, hp4, hg4⟩
          have c3 := HSO.out w4' hp4
          have hDR : R ≠ D := by have := HDD.out; omega
          have H7D : Hid (w4'.heap[D]? = some (.cells #[.int .i64 0, .int .u64 0, .int .u64 0, .int .u64 0, .int .u64 0, .slice none 0 0] 30 (0, 0))) := (hg4.block D HDL3.out (fun e => by cases e; exact hDR rfl)).trans H3D.out
          have HG7 : Hid (w.grownBy w4' (some R)) := HG3.out.trans hg4
          have hw7 : w3.heap.size ≤ w4'.heap.size := hg4.size
          clear hp4 hg4 c2
          go_wp2_with fail
          ((with_reducible refine c3.mono ?_))
          rintro _ w4 ⟨q4, n4, cp4, us4, rfl, hn4, ho4, hl4, he4, hp4, hg4⟩
          have hkr : KidsR w4 (fun b => w3.heap.size ≤ b) q4 n4 cp4 us4 LL.1 := by
            refine ⟨?_, hn4, hl4.trans hn4, fun i y t hy ht => (he4 i y t hy ht).weak fun b hb _ => by omega⟩
            rcases row_forms ho4 with ⟨e, h0⟩ | ⟨g, cp', e⟩
            · cases e; exact .inl ⟨h0, fun _ => rfl⟩
            · cases e
              obtain ⟨r1, r2, r3, r4⟩ := row_base ho4
              rcases ho4.2 with ⟨h2, _⟩ | ⟨g', cap', cur, hv, hb, hh, hc, hm, hsz, ht⟩
              · cases h2
              · obtain rfl : g = g' := by simp at hv; omega
                exact .inr ⟨g, 0, rfl, r2, r3, by omega, ⟨cur, _, by decide, hh⟩, fun j u hj => by rw [Nat.zero_add]; exact row_cell ho4 hj⟩
          have c5 := refeither_any w4 hkr HSZ.out
          have H4D : Hid (w4.heap[D]? = some (.cells #[.int .i64 0, .int .u64 0, .int .u64 0, .int .u64 0, .int .u64 0, .slice none 0 0] 30 (0, 0))) := (hg4.block D (Nat.lt_of_lt_of_le HDL3.out hw7) (fun e => by cases e; exact hDR rfl)).trans H7D.out
          have HP4 := Lib.hid hp4
          have HG4 : Hid (w.grownBy w4 (some R)) := HG7.out.trans hg4
          have hw4 : w3.heap.size ≤ w4.heap.size := Nat.le_trans hw7 hg4.size
          clear hn4 ho4 hl4 he4 hp4 hg4 hkr c3
          go_wp2_with fail
          ((with_reducible refine c5.mono ?_))
          rintro _ w5 ⟨x5, rfl, hx5, hb5⟩
          clear c5
          obtain ⟨k, a0, b, c, dw, q, m, cp⟩ := x5
          have h5D := (hb5.block D (Nat.lt_of_lt_of_le HDL3.out hw4)).trans H4D.out
          have H5D := Lib.hid h5D
          have d0 : w5.cell? ⟨D, 0, none⟩ = some (.int .i64 0) := by simp [World.cell?, h5D]
          have d1 : w5.cell? ⟨D, 1, none⟩ = some (.int .u64 0) := by simp [World.cell?, h5D]
          have d2 : w5.cell? ⟨D, 2, none⟩ = some (.int .u64 0) := by simp [World.cell?, h5D]
          have d3 : w5.cell? ⟨D, 3, none⟩ = some (.int .u64 0) := by simp [World.cell?, h5D]
          have d4 : w5.cell? ⟨D, 4, none⟩ = some (.int .u64 0) := by simp [World.cell?, h5D]
          have d5 : w5.cell? ⟨D, 5, none⟩ = some (.slice none 0 0) := by simp [World.cell?, h5D]
          have f0 := frozen_no h5D 0
          have f1 := frozen_no h5D 1
          have f2 := frozen_no h5D 2
          have f3 := frozen_no h5D 3
          have f4 := frozen_no h5D 4
          have f5 := frozen_no h5D 5
          have HX5 := Lib.hid hx5
          have HB5 := Lib.hid hb5
          clear hx5 hb5 h5D
          unfold ReV.val
          go_wp2
          refine bodyPost_ret_by (results_cell_row rfl _ _ D 30 #[.int .i64 k, .int .u64 a0, .int .u64 b, .int .u64 c, .int .u64 dw, .slice q m cp] (0, 0) _ rfl (set6_heap H5D.out _ _ _ _ _ _) Tryd.underlying30 rfl (by kernel_rfl)) rfl ?_
          rw [HT.out]
          refine ⟨⟨k, a0, b, c, dw, q, m, cp⟩, rfl, ?_, ?_, ?_⟩
          · refine HX5.out.kept (Keeps.of (by simp [World.setCell]) fun b hp hl => ?_)
            have h1 := HDL3.out
            have h2 := HDD.out
            have hbD : b ≠ D := by
              rcases hp with hp | hp
              · omega
              · omega
            exact ⟨six_ne hbD _ _ _ _ _ _, by rcases hp with hp | hp <;> omega⟩
          · refine HP4.out.kept fun b hb => ?_
            have h1 := HDD.out
            rw [six_ne (by omega)]
            exact HB5.out.block b (by have := HP4.out.lt; omega)
          · have hg5 := HG4.out.trans (grown_of (r := some R) HB5.out)
            exact grown_six hg5 (by have := HDD.out; omega) _ _ _ _ _ _

end Go.Proofs.YtchicecmoknkjabDoor

/-! The laws' Few, and what any right program answers. No condition but the library's tables. -/
namespace Go.Proofs.YtchicecmoknkjabDoor
open Go.RowKit Go.Lib
set_option linter.unusedVariables false
set_option linter.unusedSimpArgs false

/-- The call answers these expressions: a row of its own, their kids in blocks of their own, apart from it. -/
def GivesFew (l : List RT) (w : World) (e : Ending) (w' : World) : Prop :=
  ∃ (q : Option Addr) (n cp : Nat) (us : List ReV), e = .returned (.slice q n cp) ∧ n = l.length ∧ w'.ownsRow w.heap.size 30 6 (.slice q n cp) n (us.flatMap ReV.cells) ∧ us.length = n ∧
    (∀ (i : Nat) (y : ReV) (t : RT), us[i]? = some y → l[i]? = some t → RAt w' (fun b => w.heap.size ≤ b ∧ (Value.slice q n cp).ownBlock ≠ some b) y t) ∧ Below w.heap.size w w'
theorem kids_of_own {w' : World} {base : Nat} {q : Option Addr} {n cp : Nat} {us : List ReV} {l : List RT} (hn : n = l.length) (ho : w'.ownsRow base 30 6 (.slice q n cp) n (us.flatMap ReV.cells)) (hl : us.length = n)
    (he : ∀ (i : Nat) (y : ReV) (t : RT), us[i]? = some y → l[i]? = some t → RAt w' (fun b => base ≤ b ∧ (Value.slice q n cp).ownBlock ≠ some b) y t) : KidsR w' (fun b => base ≤ b) q n cp us l := by
  refine ⟨?_, hn, hl.trans hn, fun i y t hy ht => (he i y t hy ht).weak fun b hb _ => hb.1⟩
  rcases row_forms ho with ⟨e, h0⟩ | ⟨g, cp', e⟩
  · cases e; exact .inl ⟨h0, fun _ => rfl⟩
  · cases e
    obtain ⟨r1, r2, r3, r4⟩ := row_base ho
    rcases ho.2 with ⟨h2, _⟩ | ⟨g', cap', cur, hv, hb, hh, hc, hm, hsz, ht⟩
    · cases h2
    · obtain rfl : g = g' := by simp at hv; omega
      exact .inr ⟨g, 0, rfl, r2, r3, r1, ⟨cur, _, by decide, hh⟩, fun j u hj => by rw [Nat.zero_add]; exact row_cell ho hj⟩

set_option maxRecDepth 100000 in
set_option maxHeartbeats 8000000 in
theorem few_any (w : World) (a0 : Option Addr) (cap0 : Nat) (zs : List Int) (hv : BytesLow w w.heap.size (.slice a0 zs.length cap0) zs) :
    Calls Tryd.prog 6 #[.slice a0 zs.length cap0] w (GivesFew (fewM zs) w) := by
  obtain ⟨R, hR⟩ : ∃ R, R = w.heap.size := ⟨_, rfl⟩
  obtain ⟨w1, hw1⟩ : ∃ w1 : World, w1 = w.alloc (.cells #[.slice a0 zs.length cap0, .int .i64 0] 42) := ⟨_, rfl⟩
  have hb1 : Below w.heap.size w w1 := by rw [hw1]; exact (Below.refl _ _).alloc (Nat.le_refl _) _
  have hp1 : PickAt w1 R (.slice a0 zs.length cap0) zs 0 := by
    refine ⟨?_, ?_⟩
    · rw [hw1, hR]; exact heap_alloc_new _ _
    · rw [hR]; exact hv.kept fun b hb => hb1.block b hb
  have c1 := picknum_any (n := 5) hp1 (by omega) (by decide)
  unfold Picks at c1
  have h5 : pickF zs 0 5 ≤ 4 := by have := pickF_lt zs 0 (n := 5) (by decide); omega
  have hf : fewM zs = (listR (reM zs 3) (pickF zs 0 5) 1).1 := rfl
  obtain ⟨M, hM⟩ : ∃ M, M = pickF zs 0 5 := ⟨_, rfl⟩
  rw [← hM] at c1 h5 hf
  obtain ⟨F, hF⟩ : ∃ F, F = fewM zs := ⟨_, rfl⟩
  rw [← hF] at hf ⊢
  have HF := Lib.hid hf
  have HW1 := Lib.hid hw1
  have HRR := Lib.hid hR
  have HB1 := Lib.hid hb1
  clear hw1 hR hb1 hp1 hv hM hf hF
  go_enter Tryd.func6, Tryd.ntmps6
  go_wp2_with fail
  rw [← HW1.out, ← HRR.out]
  ((with_reducible refine c1.mono ?_))
  rintro _ w2 ⟨rfl, hp2, hg2⟩
  have c2 := some_any (R := R) (v := .slice a0 zs.length cap0) (zs := zs) (f := reM zs 3) (dz := 3) (M := 800000) (B := 4096) (fun a => ⟨(re_facts zs 3 a).2.2.2.1, (re_facts zs 3 a).2.2.2.2⟩)
    (fun w a h1 h2 => re_any 3 (by decide) w a h1 (by omega)) w2 M 1 hp2 (by omega) (by have : M * 4096 ≤ 4 * 4096 := Nat.mul_le_mul_right _ h5; omega)
  have HG2 := Lib.hid hg2
  clear hp2 hg2 c1
  go_wp2_with fail
  ((with_reducible refine c2.mono ?_))
  rintro _ w3 ⟨q, n, cp, us, rfl, h1, h2, h3, h4, _, hg3⟩
  have HG3 := Lib.hid hg3
  have H1 := Lib.hid h1
  have H2 := Lib.hid h2
  have H3 := Lib.hid h3
  have H4 := Lib.hid h4
  clear h1 h2 h3 h4 hg3 c2
  go_wp2
  go_ret
  have hs1 := HB1.out.size
  have hs2 := HG2.out.size
  refine ⟨q, n, cp, us, rfl, by rw [HF.out]; exact H1.out, own_mono H2.out (by omega), H3.out, fun i y t hy ht => (H4.out i y t hy (by rw [HF.out] at ht; exact ht)).weak fun b hb _ => ⟨by omega, hb.2⟩, ?_⟩
  have hRw := HRR.out
  exact (HB1.out.grown HG2.out hs1 (fun r hr => by cases hr; omega)).grown HG3.out (by omega) (fun r hr => by cases hr; omega)

/-! ### what any right program answers -/
theorem aw_union : unionM [letM 97 97, letM 98 98] = W4.of (letF 97 98) := by
  unfold unionM
  refine of_congr fun b hb => ?_
  have e1 : (letM 97 97).set.mem b = letF 97 97 b := by
    have h := (W4.isSet (of_ok (letF 97 97))).inj (of_isSet (letF 97 97)) b hb
    exact h
  have e2 : (letM 98 98).set.mem b = letF 98 98 b := (W4.isSet (of_ok (letF 98 98))).inj (of_isSet (letF 98 98)) b hb
  simp only [List.any_cons, List.any_nil, e1, e2]
  simp only [letM, RT.kind, letF]
  rw [Bool.eq_iff_iff]
  simp
  omega
theorem aw_rng (lo hi : Int) (x : Tx) (h : sepB [44] ((rgs (letF lo hi) 256).map rg1) = x) : rngT (W4.of (letF lo hi)) = x := by
  rw [rngT_is, rgs_congr (n := 256) (f := (W4.of (letF lo hi)).mem) (g := letF lo hi) fun b hb => (W4.isSet (of_ok (letF lo hi))).inj (of_isSet (letF lo hi)) b hb]
  exact h
theorem aw_ne (lo hi : Int) (b : Nat) (hb : b < 256) (h : letF lo hi b = true) : W4.of (letF lo hi) ≠ W4.zero := fun e => by
  have := (of_zero _).1 e b hb
  rw [h] at this
  cases this
theorem aw_either : eitherM [letM 97 97, letM 98 98] = .mk 2 (W4.of (letF 97 98)) [] := by
  have e : flatM 4 [letM 97 97, letM 98 98] = [letM 97 97, letM 98 98] := rfl
  unfold eitherM
  rw [e]
  have h1 : byteM [letM 97 97, letM 98 98] = [.mk 2 (W4.of (letF 97 98)) []] := by
    unfold byteM
    rw [aw_union, if_neg (aw_ne 97 98 97 (by decide) (by decide))]
  have h2 : othersM [letM 97 97, letM 98 98] = [] := rfl
  rw [h1, h2]
  rfl
theorem aw_txt1 : txt (eitherM [letM 97 97, letM 98 98]) = [91, 57, 55, 45, 57, 56, 93] := by
  rw [aw_either, txt_mk, if_neg (by decide), if_neg (by decide), if_pos rfl, aw_rng 97 98 [57, 55, 45, 57, 56] (by decide +kernel)]
  rfl
theorem aw_cat : catM [emptyM, starM (letM 97 97)] = .mk 5 W4.zero [letM 97 97] := rfl
theorem aw_txt2 : txt (catM [emptyM, starM (letM 97 97)]) = [91, 57, 55, 45, 57, 55, 93, 42] := by
  have e : txt (letM 97 97) = [91, 57, 55, 45, 57, 55, 93] := by
    unfold letM
    rw [txt_mk, if_neg (by decide), if_neg (by decide), if_pos rfl, aw_rng 97 97 [57, 55, 45, 57, 55] (by decide +kernel)]
    rfl
  rw [aw_cat, txt_mk, if_neg (by decide), if_neg (by decide), if_neg (by decide), if_neg (by decide), if_pos rfl]
  simp only [List.map_cons, List.map_nil, sepB, e]
  rfl
theorem aw_right : good (catM [emptyM, starM (letM 97 97)]) := good_cat fun t ht => by
  simp at ht
  rcases ht with rfl | rfl
  · exact good_empty
  · exact good_star (good_let (by decide) (by decide) (by decide))
theorem aw_wrong : ¬ rightM (.mk 3 W4.zero []) := fun h => by
  rcases ((right_mk _ _ _).1 h).2.2 with ⟨h, _⟩ | ⟨h, _⟩ | ⟨h, _⟩ | ⟨_, h, _⟩ | ⟨h, _⟩
  · omega
  · omega
  · omega
  · simp at h
  · omega
theorem rightB_true {t : RT} (h : good t) (ho : t.ok) : rightB t = true := (rightB_iff t).2 (good_right h ho)
theorem rightB_false {t : RT} (h : ¬ rightM t) : rightB t = false := by
  cases e : rightB t with
  | false => rfl
  | true => exact absurd ((rightB_iff t).1 e) h
theorem RAt.kind_eq {W : World} {P : Nat → Prop} {x : ReV} {t : RT} (h : RAt W P x t) : x.kind = t.kind := by
  obtain ⟨_, e, _⟩ := h.kids
  rw [e]
  rfl
theorem two_row {W : World} {P : Nat → Prop} {g : Nat} {x y : ReV} {t u : RT} (hg : W.heap[g]? = some (.cells (x.cells ++ y.cells).toArray 30 (0, 0))) (hP : P g) (hx : RAt W P x t) (hy : RAt W P y u) : KidsR W P (some ⟨g, 0, none⟩) 2 2 [x, y] [t, u] := by
  refine ⟨.inr ⟨g, 0, rfl, Nat.le_refl _, by decide, hP, ⟨_, _, by decide, hg⟩, fun j v hj => ?_⟩, rfl, rfl, fun i z s hz hs => ?_⟩
  · rw [Nat.zero_add]
    simp only [World.cell?, hg]
    simpa using hj
  · match i with
    | 0 => simp at hz hs; subst hz hs; exact hx
    | 1 => simp at hz hs; subst hz hs; exact hy
    | i + 2 => simp at hz

end Go.Proofs.YtchicecmoknkjabDoor

/-! What any right program answers. No condition but the library's tables. -/
namespace Go.Proofs.YtchicecmoknkjabDoor
open Go.RowKit Go.Lib
set_option linter.unusedVariables false
set_option linter.unusedSimpArgs false

theorem field0 (k a b c d : Int) (p : Option Addr) (n cap : Nat) (w : World) : (Instr.field 30 (.agg #[.int .i64 k, .int .u64 a, .int .u64 b, .int .u64 c, .int .u64 d, .slice p n cap]) 0).run Tryd.prog w = .ok (.int .i64 k) w := by
  kernel_rfl
theorem aw_dep : (catM [emptyM, starM (letM 97 97)]).dep ≤ 1 + 1 := by
  rw [aw_cat]
  exact dep_mk.2 fun t ht => by simp at ht; subst ht; unfold letM; rw [dep_leaf]; exact Nat.le_refl _
theorem aw_sz : (catM [emptyM, starM (letM 97 97)]).sz ≤ 1000000000 := by
  rw [aw_cat]
  simp [letM, sz_mk]
theorem letM_set {W : World} {P : Nat → Prop} {x : ReV} {lo hi : Int} (h : RAt W P x (letM lo hi)) : (⟨x.a, x.b, x.c, x.d⟩ : W4) = W4.of (letF lo hi) := by
  obtain ⟨_, e, _⟩ := h.kids
  unfold letM at e
  have := congrArg RT.set e
  exact this.symm
set_option maxRecDepth 100000 in
set_option maxHeartbeats 8000000 in
theorem awaker_any (w : World) (hT : Tab1 w) : Calls Tryd.prog 5 #[] w (GivesBool true w) := by
  have c1 := letter_any (P := fun b => w.heap.size ≤ b) w 97 97
  have HT := Lib.hid hT
  clear hT
  go_enter Tryd.func5, Tryd.ntmps5
  go_wp2_with fail
  ((with_reducible refine c1.mono ?_))
  rintro _ w1 ⟨xa, rfl, hxa, hb1⟩
  have c2 := letter_any (P := fun b => w.heap.size ≤ b) w1 98 98
  obtain ⟨a0, a1, a2, a3, a4, a5, a6, a7⟩ := xa
  have HA := Lib.hid hxa
  have HB1 := Lib.hid hb1
  clear hxa hb1 c1
  unfold ReV.val
  go_wp2_with fail
  ((with_reducible refine c2.mono ?_))
  rintro _ w2 ⟨xb, rfl, hxb, hb2⟩
  obtain ⟨b0, b1, b2, b3, b4, b5, b6, b7⟩ := xb
  obtain ⟨A, hA⟩ : ∃ A, A = w2.heap.size := ⟨_, rfl⟩
  obtain ⟨w4, hw4⟩ : ∃ w4 : World, w4 = (w2.alloc (.cells #[.int .i64 a0, .int .u64 a1, .int .u64 a2, .int .u64 a3, .int .u64 a4, .slice a5 a6 a7] 30)).alloc (.cells #[.int .i64 b0, .int .u64 b1, .int .u64 b2, .int .u64 b3, .int .u64 b4, .slice b5 b6 b7] 30) := ⟨_, rfl⟩
  obtain ⟨w5, hw5⟩ : ∃ w5 : World, w5 = w4.alloc (.cells #[.int .i64 a0, .int .u64 a1, .int .u64 a2, .int .u64 a3, .int .u64 a4, .slice a5 a6 a7, .int .i64 b0, .int .u64 b1, .int .u64 b2, .int .u64 b3, .int .u64 b4, .slice b5 b6 b7] 30) := ⟨_, rfl⟩
  have hb24 : Below w2.heap.size w2 w4 := by rw [hw4]; exact ((Below.refl _ _).alloc (Nat.le_refl _) _).alloc (by simp) _
  have hb45 : Below w4.heap.size w4 w5 := by rw [hw5]; exact (Below.refl _ _).alloc (Nat.le_refl _) _
  have h4A : w4.heap[A]? = some (.cells #[.int .i64 a0, .int .u64 a1, .int .u64 a2, .int .u64 a3, .int .u64 a4, .slice a5 a6 a7] 30 (0, 0)) := by rw [hw4, hA, heap_alloc_old _ _ (by simp)]; exact heap_alloc_new _ _
  have h4B : w4.heap[A + 1]? = some (.cells #[.int .i64 b0, .int .u64 b1, .int .u64 b2, .int .u64 b3, .int .u64 b4, .slice b5 b6 b7] 30 (0, 0)) := by rw [hw4, hA]; exact two_new w2 _ _
  have hs4 : w4.heap.size = A + 1 + 1 := by rw [hw4, hA]; simp
  have h5g : w5.heap[A + 1 + 1]? = some (.cells #[.int .i64 a0, .int .u64 a1, .int .u64 a2, .int .u64 a3, .int .u64 a4, .slice a5 a6 a7, .int .i64 b0, .int .u64 b1, .int .u64 b2, .int .u64 b3, .int .u64 b4, .slice b5 b6 b7] 30 (0, 0)) := by rw [hw5, ← hs4]; exact heap_alloc_new _ _
  have hw02 : w.heap.size ≤ w2.heap.size := Nat.le_trans HB1.out.size hb2.size
  have hB5 : Below w.heap.size w w5 := HB1.out.trans ((hb2.trans ((hb24.trans (hb45.mono hb24.size)).mono hb2.size)).mono HB1.out.size)
  have hra5 : RAt w5 (fun b => w.heap.size ≤ b) (⟨a0, a1, a2, a3, a4, a5, a6, a7⟩ : ReV) (letM 97 97) := HA.out.leaf rfl
  have hrb5 : RAt w5 (fun b => w.heap.size ≤ b) (⟨b0, b1, b2, b3, b4, b5, b6, b7⟩ : ReV) (letM 98 98) := hxb.leaf rfl
  have hk5 := two_row (g := A + 1 + 1) h5g (show w.heap.size ≤ A + 1 + 1 by omega) hra5 hrb5
  have c3 := either_any w5 hk5 (HT.out.stays hB5) (fun t ht => by
    simp at ht
    rcases ht with rfl | rfl <;> (unfold letM; rw [dep_leaf]; decide)) (by simp [letM, sz_mk])
  have HB := Lib.hid hxb
  have HB5 := Lib.hid hB5
  have H5A : Hid (w5.heap[A]? = some (.cells #[.int .i64 a0, .int .u64 a1, .int .u64 a2, .int .u64 a3, .int .u64 a4, .slice a5 a6 a7] 30 (0, 0))) := (hb45.block A (by omega)).trans h4A
  have HAA := Lib.hid hA
  have HW4 := Lib.hid hw4
  have HW5 := Lib.hid hw5
  have hs5 : w5.heap.size = A + 1 + 1 + 1 := by rw [hw5]; simp [hs4]
  have HS5 := Lib.hid hs5
  have hAz : w.heap.size ≤ A := by omega
  have ca0 : w4.cell? ⟨A, 0, none⟩ = some (.int .i64 a0) := by simp [World.cell?, h4A]
  have ca1 : w4.cell? ⟨A, 1, none⟩ = some (.int .u64 a1) := by simp [World.cell?, h4A]
  have ca2 : w4.cell? ⟨A, 2, none⟩ = some (.int .u64 a2) := by simp [World.cell?, h4A]
  have ca3 : w4.cell? ⟨A, 3, none⟩ = some (.int .u64 a3) := by simp [World.cell?, h4A]
  have ca4 : w4.cell? ⟨A, 4, none⟩ = some (.int .u64 a4) := by simp [World.cell?, h4A]
  have ca5 : w4.cell? ⟨A, 5, none⟩ = some (.slice a5 a6 a7) := by simp [World.cell?, h4A]
  have cb0 : w4.cell? ⟨A + 1, 0, none⟩ = some (.int .i64 b0) := by simp [World.cell?, h4B]
  have cb1 : w4.cell? ⟨A + 1, 1, none⟩ = some (.int .u64 b1) := by simp [World.cell?, h4B]
  have cb2 : w4.cell? ⟨A + 1, 2, none⟩ = some (.int .u64 b2) := by simp [World.cell?, h4B]
  have cb3 : w4.cell? ⟨A + 1, 3, none⟩ = some (.int .u64 b3) := by simp [World.cell?, h4B]
  have cb4 : w4.cell? ⟨A + 1, 4, none⟩ = some (.int .u64 b4) := by simp [World.cell?, h4B]
  have cb5 : w4.cell? ⟨A + 1, 5, none⟩ = some (.slice b5 b6 b7) := by simp [World.cell?, h4B]
  clear hb2 hb24 hb45 h4A h4B h5g hxb hra5 hrb5 hk5 hB5 hA hw4 hw5 hs5 c2
  unfold ReV.val
  go_wp2_with fail
  rw [← HW4.out, ← HAA.out]
  clear hw02
  rw [← HW5.out]
  ((with_reducible refine c3.mono ?_))
  rintro _ w6 ⟨xe, rfl, hxe, hb6⟩
  obtain ⟨e0, e1, e2, e3, e4, e5, e6, e7⟩ := xe
  obtain ⟨E, hE⟩ : ∃ E, E = w6.heap.size := ⟨_, rfl⟩
  obtain ⟨w7, hw7⟩ : ∃ w7 : World, w7 = w6.alloc (.cells #[.int .i64 e0, .int .u64 e1, .int .u64 e2, .int .u64 e3, .int .u64 e4, .slice e5 e6 e7] 30) := ⟨_, rfl⟩
  have hb67 : Below w6.heap.size w6 w7 := by rw [hw7]; exact (Below.refl _ _).alloc (Nat.le_refl _) _
  have h7E : w7.heap[E]? = some (.cells #[.int .i64 e0, .int .u64 e1, .int .u64 e2, .int .u64 e3, .int .u64 e4, .slice e5 e6 e7] 30 (0, 0)) := by rw [hw7, hE]; exact heap_alloc_new _ _
  have hb57 : Below w5.heap.size w5 w7 := hb6.trans (hb67.mono hb6.size)
  have hA5 : A < w5.heap.size := (Array.getElem?_eq_some_iff.1 H5A.out).1
  have h7A : w7.heap[A]? = some (.cells #[.int .i64 a0, .int .u64 a1, .int .u64 a2, .int .u64 a3, .int .u64 a4, .slice a5 a6 a7] 30 (0, 0)) := (hb57.block A hA5).trans H5A.out
  have c4 := star_any (P := fun _ => True) w7 (⟨a0, a1, a2, a3, a4, a5, a6, a7⟩ : ReV) (letM 97 97) (HA.out.leaf rfl)
  have HE := Lib.hid (hxe.under hb67)
  have HB7 : Hid (Below w.heap.size w w7) := HB5.out.trans (hb57.mono HB5.out.size)
  have H7E := Lib.hid h7E
  have H7A := Lib.hid h7A
  have HEE := Lib.hid hE
  have HW7 := Lib.hid hw7
  have la0 : (w6.alloc (.cells #[.int .i64 e0, .int .u64 e1, .int .u64 e2, .int .u64 e3, .int .u64 e4, .slice e5 e6 e7] 30)).cell? ⟨A, 0, none⟩ = some (.int .i64 a0) := by rw [← hw7]; simp [World.cell?, h7A]
  have la1 : (w6.alloc (.cells #[.int .i64 e0, .int .u64 e1, .int .u64 e2, .int .u64 e3, .int .u64 e4, .slice e5 e6 e7] 30)).cell? ⟨A, 1, none⟩ = some (.int .u64 a1) := by rw [← hw7]; simp [World.cell?, h7A]
  have la2 : (w6.alloc (.cells #[.int .i64 e0, .int .u64 e1, .int .u64 e2, .int .u64 e3, .int .u64 e4, .slice e5 e6 e7] 30)).cell? ⟨A, 2, none⟩ = some (.int .u64 a2) := by rw [← hw7]; simp [World.cell?, h7A]
  have la3 : (w6.alloc (.cells #[.int .i64 e0, .int .u64 e1, .int .u64 e2, .int .u64 e3, .int .u64 e4, .slice e5 e6 e7] 30)).cell? ⟨A, 3, none⟩ = some (.int .u64 a3) := by rw [← hw7]; simp [World.cell?, h7A]
  have la4 : (w6.alloc (.cells #[.int .i64 e0, .int .u64 e1, .int .u64 e2, .int .u64 e3, .int .u64 e4, .slice e5 e6 e7] 30)).cell? ⟨A, 4, none⟩ = some (.int .u64 a4) := by rw [← hw7]; simp [World.cell?, h7A]
  have la5 : (w6.alloc (.cells #[.int .i64 e0, .int .u64 e1, .int .u64 e2, .int .u64 e3, .int .u64 e4, .slice e5 e6 e7] 30)).cell? ⟨A, 5, none⟩ = some (.slice a5 a6 a7) := by rw [← hw7]; simp [World.cell?, h7A]
  clear hxe hb6 hb67 h7E hb57 h7A hE hw7 c3 ca0 ca1 ca2 ca3 ca4 ca5 cb0 cb1 cb2 cb3 cb4 cb5 hA5
  unfold ReV.val at c4 ⊢
  simp only at c4
  go_wp2_with fail
  rw [← HW7.out, ← HEE.out]
  ((with_reducible refine c4.mono ?_))
  rintro _ w8 ⟨xs, rfl, hxs, hb8⟩
  obtain ⟨s0, s1, s2, s3, s4, s5, s6, s7⟩ := xs
  obtain ⟨G, hG⟩ : ∃ G, G = w8.heap.size := ⟨_, rfl⟩
  obtain ⟨w9, hw9⟩ : ∃ w9 : World, w9 = w8.alloc (.cells #[.int .i64 1, .int .u64 0, .int .u64 0, .int .u64 0, .int .u64 0, .slice none 0 0, .int .i64 s0, .int .u64 s1, .int .u64 s2, .int .u64 s3, .int .u64 s4, .slice s5 s6 s7] 30) := ⟨_, rfl⟩
  have hb89 : Below w8.heap.size w8 w9 := by rw [hw9]; exact (Below.refl _ _).alloc (Nat.le_refl _) _
  have h9g : w9.heap[G]? = some (.cells #[.int .i64 1, .int .u64 0, .int .u64 0, .int .u64 0, .int .u64 0, .slice none 0 0, .int .i64 s0, .int .u64 s1, .int .u64 s2, .int .u64 s3, .int .u64 s4, .slice s5 s6 s7] 30 (0, 0)) := by rw [hw9, hG]; exact heap_alloc_new _ _
  have hb79 : Below w7.heap.size w7 w9 := hb8.trans (hb89.mono hb8.size)
  have hk9 := two_row (P := fun _ => True) (x := ⟨1, 0, 0, 0, 0, none, 0, 0⟩) (t := emptyM) (g := G) h9g trivial (kids_empty.tree 1 W4.zero zero_ok) ((hxs.under hb89).weak fun _ _ _ => trivial)
  have c5 := cat_any w9 hk9 (by simp [emptyM, starM, letM, RT.kind, sz_mk])
  have HB9 : Hid (Below w.heap.size w w9) := HB7.out.trans (hb79.mono HB7.out.size)
  have H9E : Hid (w9.heap[E]? = some (.cells #[.int .i64 e0, .int .u64 e1, .int .u64 e2, .int .u64 e3, .int .u64 e4, .slice e5 e6 e7] 30 (0, 0))) := (hb79.block E (Array.getElem?_eq_some_iff.1 H7E.out).1).trans H7E.out
  have H9A : Hid (w9.heap[A]? = some (.cells #[.int .i64 a0, .int .u64 a1, .int .u64 a2, .int .u64 a3, .int .u64 a4, .slice a5 a6 a7] 30 (0, 0))) := (hb79.block A (Array.getElem?_eq_some_iff.1 H7A.out).1).trans H7A.out
  have HE9 := Lib.hid (HE.out.under hb79)
  have HGG := Lib.hid hG
  have HW9 := Lib.hid hw9
  clear hxs hb8 hb89 h9g hb79 hk9 hG hw9 c4 la0 la1 la2 la3 la4 la5
  unfold ReV.val
  go_wp2_with fail
  rw [← HW9.out, ← HGG.out]
  ((with_reducible refine c5.mono ?_))
  rintro _ w10 ⟨xc, rfl, hxc, hb10⟩
  obtain ⟨c0, c1, c2, c3, c4, c5', c6, c7⟩ := xc
  obtain ⟨C, hC⟩ : ∃ C, C = w10.heap.size := ⟨_, rfl⟩
  obtain ⟨w11, hw11⟩ : ∃ w11 : World, w11 = w10.alloc (.cells #[.int .i64 c0, .int .u64 c1, .int .u64 c2, .int .u64 c3, .int .u64 c4, .slice c5' c6 c7] 30) := ⟨_, rfl⟩
  have hb1011 : Below w10.heap.size w10 w11 := by rw [hw11]; exact (Below.refl _ _).alloc (Nat.le_refl _) _
  have h11C : w11.heap[C]? = some (.cells #[.int .i64 c0, .int .u64 c1, .int .u64 c2, .int .u64 c3, .int .u64 c4, .slice c5' c6 c7] 30 (0, 0)) := by rw [hw11, hC]; exact heap_alloc_new _ _
  have hb911 : Below w9.heap.size w9 w11 := hb10.trans (hb1011.mono hb10.size)
  have h11E := (hb911.block E (Array.getElem?_eq_some_iff.1 H9E.out).1).trans H9E.out
  have H11A : Hid (w11.heap[A]? = some (.cells #[.int .i64 a0, .int .u64 a1, .int .u64 a2, .int .u64 a3, .int .u64 a4, .slice a5 a6 a7] 30 (0, 0))) := (hb911.block A (Array.getElem?_eq_some_iff.1 H9A.out).1).trans H9A.out
  have HB11 : Hid (Below w.heap.size w w11) := HB9.out.trans (hb911.mono HB9.out.size)
  have HC11 := Lib.hid (hxc.under hb1011)
  have t1 := text_any w11 (⟨e0, e1, e2, e3, e4, e5, e6, e7⟩ : ReV) _ (HT.out.stays HB11.out) (HE9.out.under hb911) (by rw [aw_either, dep_leaf]; decide) (by rw [aw_either, sz_mk]; decide)
  rw [aw_txt1] at t1
  unfold ReV.val at t1
  simp only at t1
  have H11C := Lib.hid h11C
  have HCC := Lib.hid hC
  have HW11 := Lib.hid hw11
  have le0 : (w10.alloc (.cells #[.int .i64 c0, .int .u64 c1, .int .u64 c2, .int .u64 c3, .int .u64 c4, .slice c5' c6 c7] 30)).cell? ⟨E, 0, none⟩ = some (.int .i64 e0) := by rw [← hw11]; simp [World.cell?, h11E]
  have le1 : (w10.alloc (.cells #[.int .i64 c0, .int .u64 c1, .int .u64 c2, .int .u64 c3, .int .u64 c4, .slice c5' c6 c7] 30)).cell? ⟨E, 1, none⟩ = some (.int .u64 e1) := by rw [← hw11]; simp [World.cell?, h11E]
  have le2 : (w10.alloc (.cells #[.int .i64 c0, .int .u64 c1, .int .u64 c2, .int .u64 c3, .int .u64 c4, .slice c5' c6 c7] 30)).cell? ⟨E, 2, none⟩ = some (.int .u64 e2) := by rw [← hw11]; simp [World.cell?, h11E]
  have le3 : (w10.alloc (.cells #[.int .i64 c0, .int .u64 c1, .int .u64 c2, .int .u64 c3, .int .u64 c4, .slice c5' c6 c7] 30)).cell? ⟨E, 3, none⟩ = some (.int .u64 e3) := by rw [← hw11]; simp [World.cell?, h11E]
  have le4 : (w10.alloc (.cells #[.int .i64 c0, .int .u64 c1, .int .u64 c2, .int .u64 c3, .int .u64 c4, .slice c5' c6 c7] 30)).cell? ⟨E, 4, none⟩ = some (.int .u64 e4) := by rw [← hw11]; simp [World.cell?, h11E]
  have le5 : (w10.alloc (.cells #[.int .i64 c0, .int .u64 c1, .int .u64 c2, .int .u64 c3, .int .u64 c4, .slice c5' c6 c7] 30)).cell? ⟨E, 5, none⟩ = some (.slice e5 e6 e7) := by rw [← hw11]; simp [World.cell?, h11E]
  clear hxc hb10 hb1011 h11C hb911 h11E hC hw11 c5
  unfold ReV.val
  go_wp2_with fail
  rw [← HW11.out, ← HCC.out]
  ((with_reducible refine t1.mono ?_))
  rintro _ w12 ⟨rfl, hb12⟩
  have h12C := (hb12.block C (Array.getElem?_eq_some_iff.1 H11C.out).1).trans H11C.out
  have HB12 : Hid (Below w.heap.size w w12) := HB11.out.trans (hb12.mono HB11.out.size)
  have HC12 := Lib.hid (HC11.out.under hb12)
  have t2 := text_any w12 (⟨c0, c1, c2, c3, c4, c5', c6, c7⟩ : ReV) _ (HT.out.stays HB12.out) HC12.out (Nat.lt_of_le_of_lt aw_dep (by decide)) (by rw [aw_cat]; simp [letM, sz_mk])
  rw [aw_txt2] at t2
  unfold ReV.val at t2
  simp only at t2
  have H12A : Hid (w12.heap[A]? = some (.cells #[.int .i64 a0, .int .u64 a1, .int .u64 a2, .int .u64 a3, .int .u64 a4, .slice a5 a6 a7] 30 (0, 0))) := (hb12.block A (Array.getElem?_eq_some_iff.1 H11A.out).1).trans H11A.out
  have H12C := Lib.hid h12C
  have lc0 : w12.cell? ⟨C, 0, none⟩ = some (.int .i64 c0) := by simp [World.cell?, h12C]
  have lc1 : w12.cell? ⟨C, 1, none⟩ = some (.int .u64 c1) := by simp [World.cell?, h12C]
  have lc2 : w12.cell? ⟨C, 2, none⟩ = some (.int .u64 c2) := by simp [World.cell?, h12C]
  have lc3 : w12.cell? ⟨C, 3, none⟩ = some (.int .u64 c3) := by simp [World.cell?, h12C]
  have lc4 : w12.cell? ⟨C, 4, none⟩ = some (.int .u64 c4) := by simp [World.cell?, h12C]
  have lc5 : w12.cell? ⟨C, 5, none⟩ = some (.slice c5' c6 c7) := by simp [World.cell?, h12C]
  clear hb12 h12C t1 le0 le1 le2 le3 le4 le5
  go_wp2_with fail
  ((with_reducible refine t2.mono ?_))
  rintro _ w13 ⟨rfl, hb13⟩
  have h13C := (hb13.block C (Array.getElem?_eq_some_iff.1 H12C.out).1).trans H12C.out
  have HB13 : Hid (Below w.heap.size w w13) := HB12.out.trans (hb13.mono HB12.out.size)
  have HC13 := Lib.hid (HC12.out.under hb13)
  have t3 := right_any w13 (⟨c0, c1, c2, c3, c4, c5', c6, c7⟩ : ReV) _ (HT.out.stays HB13.out) HC13.out (Nat.lt_of_le_of_lt aw_dep (by decide)) aw_sz
  rw [rightB_true aw_right HC13.out.ok] at t3
  unfold ReV.val at t3
  simp only at t3
  have H13A : Hid (w13.heap[A]? = some (.cells #[.int .i64 a0, .int .u64 a1, .int .u64 a2, .int .u64 a3, .int .u64 a4, .slice a5 a6 a7] 30 (0, 0))) := (hb13.block A (Array.getElem?_eq_some_iff.1 H12A.out).1).trans H12A.out
  have ld0 : w13.cell? ⟨C, 0, none⟩ = some (.int .i64 c0) := by simp [World.cell?, h13C]
  have ld1 : w13.cell? ⟨C, 1, none⟩ = some (.int .u64 c1) := by simp [World.cell?, h13C]
  have ld2 : w13.cell? ⟨C, 2, none⟩ = some (.int .u64 c2) := by simp [World.cell?, h13C]
  have ld3 : w13.cell? ⟨C, 3, none⟩ = some (.int .u64 c3) := by simp [World.cell?, h13C]
  have ld4 : w13.cell? ⟨C, 4, none⟩ = some (.int .u64 c4) := by simp [World.cell?, h13C]
  have ld5 : w13.cell? ⟨C, 5, none⟩ = some (.slice c5' c6 c7) := by simp [World.cell?, h13C]
  clear hb13 h13C t2 lc0 lc1 lc2 lc3 lc4 lc5
  go_wp2_with fail
  ((with_reducible refine t3.mono ?_))
  rintro _ w14 ⟨rfl, hb14⟩
  have HB14 : Hid (Below w.heap.size w w14) := HB13.out.trans (hb14.mono HB13.out.size)
  have t4 := right_any (P := fun _ => True) w14 ⟨3, 0, 0, 0, 0, none, 0, 0⟩ (.mk 3 W4.zero []) (HT.out.stays HB14.out) (kids_empty.tree 3 W4.zero zero_ok) (by rw [dep_leaf]; decide) (by rw [sz_mk]; decide)
  rw [rightB_false aw_wrong] at t4
  unfold ReV.val at t4
  simp only at t4
  have H14A : Hid (w14.heap[A]? = some (.cells #[.int .i64 a0, .int .u64 a1, .int .u64 a2, .int .u64 a3, .int .u64 a4, .slice a5 a6 a7] 30 (0, 0))) := (hb14.block A (Array.getElem?_eq_some_iff.1 H13A.out).1).trans H13A.out
  clear hb14 t3 ld0 ld1 ld2 ld3 ld4 ld5
  go_wp2_with fail
  ((with_reducible refine t4.mono ?_))
  rintro _ w15 ⟨rfl, hb15⟩
  have t5 := of_any (P := fun _ => True) w15 0 0 0 0 zero_ok
  have HB15 : Hid (Below w.heap.size w w15) := HB14.out.trans (hb15.mono HB14.out.size)
  have H15A : Hid (w15.heap[A]? = some (.cells #[.int .i64 a0, .int .u64 a1, .int .u64 a2, .int .u64 a3, .int .u64 a4, .slice a5 a6 a7] 30 (0, 0))) := (hb15.block A (Array.getElem?_eq_some_iff.1 H14A.out).1).trans H14A.out
  clear hb15 t4
  go_wp2_with fail
  ((with_reducible refine t5.mono ?_))
  rintro _ w16 ⟨xo, rfl, hxo, hb16⟩
  have hko := hxo.kind_eq
  obtain ⟨o0, o1, o2, o3, o4, o5, o6, o7⟩ := xo
  have ho0 : o0 = 0 := by simpa [ofM, W4.zero, noneM, RT.kind] using hko
  subst ho0
  have hset := letM_set HA.out
  simp only at hset
  have t6 := of_any (P := fun _ => True) w16 a1 a2 a3 a4 (by rw [hset]; exact of_ok _)
  have HB16 : Hid (Below w.heap.size w w16) := HB15.out.trans (hb16.mono HB15.out.size)
  have h16A := (hb16.block A (Array.getElem?_eq_some_iff.1 H15A.out).1).trans H15A.out
  have HSE := Lib.hid hset
  have lz0 : w16.cell? ⟨A, 0, none⟩ = some (.int .i64 a0) := by simp [World.cell?, h16A]
  have lz1 : w16.cell? ⟨A, 1, none⟩ = some (.int .u64 a1) := by simp [World.cell?, h16A]
  have lz2 : w16.cell? ⟨A, 2, none⟩ = some (.int .u64 a2) := by simp [World.cell?, h16A]
  have lz3 : w16.cell? ⟨A, 3, none⟩ = some (.int .u64 a3) := by simp [World.cell?, h16A]
  have lz4 : w16.cell? ⟨A, 4, none⟩ = some (.int .u64 a4) := by simp [World.cell?, h16A]
  have lz5 : w16.cell? ⟨A, 5, none⟩ = some (.slice a5 a6 a7) := by simp [World.cell?, h16A]
  clear hb16 h16A t5 hxo hko hset
  unfold ReV.val
  have hfl := fun w => field0 0 o1 o2 o3 o4 o5 o6 o7 w
  go_wp2_with fail
  ((with_reducible refine t6.mono ?_))
  rintro _ w17 ⟨xo, rfl, hxo, hb17⟩
  have hko := hxo.kind_eq
  obtain ⟨q0, q1, q2, q3, q4, q5, q6, q7⟩ := xo
  have hq0 : q0 = 2 := by
    have e : ofM ⟨a1, a2, a3, a4⟩ = .mk 2 ⟨a1, a2, a3, a4⟩ [] := by
      unfold ofM
      rw [if_neg]
      rw [HSE.out]
      exact aw_ne 97 97 97 (by decide) (by decide)
    rw [e] at hko
    exact hko
  subst hq0
  have HB17 : Hid (Below w.heap.size w w17) := HB16.out.trans (hb17.mono HB16.out.size)
  have hfl2 := fun w => field0 2 q1 q2 q3 q4 q5 q6 q7 w
  clear hb17 t6 hxo hko hfl
  unfold ReV.val
  go_wp2
  go_ret
  exact ⟨rfl, HB17.out⟩

end Go.Proofs.YtchicecmoknkjabDoor
