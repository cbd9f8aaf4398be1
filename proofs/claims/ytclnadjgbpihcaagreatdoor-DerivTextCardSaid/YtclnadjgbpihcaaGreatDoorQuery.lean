/- Is there such a one in a list, and where? No condition but size. -/
import Derived.Test.YtclnadjgbpihcaaGreatDoorText
namespace Go.Proofs.YtclnadjgbpihcaaGreatDoor
open Go.RowKit Go.Lib
set_option linter.unusedVariables false
set_option linter.unusedSimpArgs false

/-- A row of expressions, of whatever kids. -/
structure RowV (W : World) (P : Nat → Prop) (p : Option Addr) (n cap : Nat) (vs : List ReV) : Prop where
  row : RowR W P p n cap (vs.flatMap ReV.cells)
  num : n = vs.length
theorem KidsR.rowv {W : World} {P : Nat → Prop} {p : Option Addr} {n cap : Nat} {vs : List ReV} {l : List RT} (h : KidsR W P p n cap vs l) : RowV W P p n cap vs := ⟨h.row, h.num.trans h.len.symm⟩
theorem RowV.kept {W W' : World} {P P' : Nat → Prop} {p : Option Addr} {n cap : Nat} {vs : List ReV} (h : RowV W P p n cap vs) (hk : Keeps W W' P P') : RowV W' P' p n cap vs := ⟨h.row.kept hk, h.num⟩
theorem RowV.under {W W' : World} {P : Nat → Prop} {p : Option Addr} {n cap : Nat} {vs : List ReV} (h : RowV W P p n cap vs) (hb : Below W.heap.size W W') : RowV W' P p n cap vs := h.kept (Keeps.below hb)
theorem RowV.place {W : World} {P : Nat → Prop} {g off n cap : Nat} {vs : List ReV} (h : RowV W P (some ⟨g, off, none⟩) n cap vs) {i : Nat} {y : ReV} (hy : vs[i]? = some y) : PlaceR W g (off + i * 6) y := by
  have hi := (List.getElem?_eq_some_iff.1 hy).1
  rcases h.row with ⟨h0, _⟩ | ⟨g', off', h1, h2, h3, h4, h5, h6⟩
  · have := h.num; omega
  · obtain ⟨rfl, rfl⟩ : g = g' ∧ off = off' := by simp at h1; exact h1
    refine ⟨h5, fun j u hj => ?_⟩
    have hj6 : j < 6 := (List.getElem?_eq_some_iff.1 hj).1
    rw [Nat.add_assoc]
    exact h6 _ u ((flat6_at vs i j y hy hj6).trans hj)
theorem RowV.some_of {W : World} {P : Nat → Prop} {p : Option Addr} {n cap : Nat} {vs : List ReV} (h : RowV W P p n cap vs) {i : Nat} (hi : i < n) : ∃ g off, p = some ⟨g, off, none⟩ := by
  rcases h.row with ⟨h0, _⟩ | ⟨g', off', h1, _⟩
  · omega
  · exact ⟨g', off', h1⟩

/-- The place of the first one. -/
def FirstAt (q : ReV → Bool) (vs : List ReV) (r : Int) : Prop :=
  (r = -1 ∧ ∀ y ∈ vs, q y = false) ∨ ∃ (i : Nat) (y : ReV), r = (i : Int) ∧ vs[i]? = some y ∧ q y = true ∧ ∀ (j : Nat) (z : ReV), j < i → vs[j]? = some z → q z = false

set_option maxRecDepth 100000 in
set_option maxHeartbeats 4000000 in
theorem index_any (K : Nat) (cs : Array Value) (eg : ∀ args w, (callFunc K args).run Tryz.prog w = .ok (.enter K args) w) (q : ReV → Bool) (w : World)
    (hw : ∀ (W : World) (x : ReV), Below w.heap.size w W → Calls Tryz.prog K (#[x.val] ++ cs) W (GivesBool (q x) W))
    {P : Nat → Prop} {p : Option Addr} {n cap : Nat} {vs : List ReV} (h : RowV w P p n cap vs) (hn : n ≤ 9223372036854775807) :
    Calls Tryz.prog 78 #[.slice p n cap, .func (.func K) #[] cs] w fun e w' => ∃ r, e = .returned (.int .i64 r) ∧ FirstAt q vs r ∧ Below w.heap.size w w' := by
  have HW := Lib.hid hw
  have HR := Lib.hid h
  clear hw h
  go_enter Tryz.func78, Tryz.ntmps78
  go_wp2
  go_loopg [8] n (fun gk v wr => ∃ i : Nat, v = .int .i64 (i : Int) ∧ i ≤ n ∧ n - i ≤ gk ∧ Hid (Below w.heap.size w wr) ∧ Hid (∀ (j : Nat) (z : ReV), j < i → vs[j]? = some z → q z = false))
  case atStart => exact ⟨0, rfl, by omega, by omega, Below.refl _ _, fun j z hj => by omega⟩
  case round =>
    obtain ⟨i, rfl, hi, hgk, HB, HF⟩ := hrel
    by_cases hlt : i < n
    · have hltz : (i : Int) < (n : Int) := by omega
      obtain ⟨g, off, rfl⟩ := HR.out.some_of hlt
      obtain ⟨y, hy⟩ : ∃ y, vs[i]? = some y := ⟨_, List.getElem?_eq_getElem (by rw [← HR.out.num]; exact hlt)⟩
      obtain ⟨p0, p1, p2, p3, p4, p5⟩ := (((HR.out.under HB.out).place hy)).six
      have hcon := HW.out wr y HB.out
      unfold ReV.val at hcon
      obtain ⟨R, hR⟩ : ∃ R, R = q y := ⟨_, rfl⟩
      rw [← hR] at hcon
      have HQ := Lib.hid hR
      have HY := Lib.hid hy
      clear hR hy
      go_wp2_with fail
      ((with_reducible refine hcon.mono ?_))
      rintro _ w2 ⟨rfl, hb2⟩
      have HB2 : Hid (Below w.heap.size w w2) := HB.out.trans (hb2.mono HB.out.size)
      clear hb2 hcon p0 p1 p2 p3 p4 p5
      cases R with
      | true =>
        go_wp2
        go_ret
        exact ⟨_, rfl, .inr ⟨i, y, rfl, HY.out, HQ.out.symm, HF.out⟩, HB2.out⟩
      | false =>
        go_wp2
        go_roundg (n - (i + 1))
        case measure => omega
        case rel =>
          refine ⟨i + 1, by go_num, by omega, Nat.le_refl _, HB2, fun j z hj hz => ?_⟩
          rcases Nat.lt_or_ge j i with h | h
          · exact HF.out j z h hz
          · obtain rfl : j = i := by omega
            have e := HY.out.symm.trans hz
            rw [← Option.some.inj e]
            exact HQ.out.symm
    · have hltz : ¬ (i : Int) < (n : Int) := by omega
      go_wp2
      go_ret
      refine ⟨_, rfl, .inl ⟨rfl, fun y hy => ?_⟩, HB.out⟩
      obtain ⟨j, hj, e⟩ := List.getElem_of_mem hy
      exact HF.out j y (by have := HR.out.num; omega) (by rw [← e]; exact List.getElem?_eq_getElem hj)

theorem FirstAt.any {q : ReV → Bool} {vs : List ReV} {r : Int} (h : FirstAt q vs r) : decide (r ≥ 0) = vs.any q := by
  rcases h with ⟨rfl, h⟩ | ⟨i, y, rfl, hy, hq, _⟩
  · have e : vs.any q = false := by rw [List.any_eq_false]; intro x hx; rw [h x hx]; simp
    rw [e]
    rfl
  · have e : vs.any q = true := List.any_eq_true.2 ⟨y, List.mem_of_getElem? hy, hq⟩
    rw [e]
    simp

theorem containsf_any (K : Nat) (cs : Array Value) (eg : ∀ args w, (callFunc K args).run Tryz.prog w = .ok (.enter K args) w) (q : ReV → Bool) (w : World)
    (hw : ∀ (W : World) (x : ReV), Below w.heap.size w W → Calls Tryz.prog K (#[x.val] ++ cs) W (GivesBool (q x) W))
    {P : Nat → Prop} {p : Option Addr} {n cap : Nat} {vs : List ReV} (h : RowV w P p n cap vs) (hn : n ≤ 9223372036854775807) :
    Calls Tryz.prog 75 #[.slice p n cap, .func (.func K) #[] cs] w (GivesBool (vs.any q) w) := by
  have hcon := index_any K cs eg q w hw h hn
  clear hw h
  go_enter Tryz.func75, Tryz.ntmps75
  go_wp2_with fail
  ((with_reducible refine hcon.mono ?_))
  rintro _ w2 ⟨r, rfl, hf, hb⟩
  have HF := Lib.hid hf
  have HB := Lib.hid hb
  clear hf hb hcon
  go_wp2
  go_ret
  refine ⟨?_, HB.out⟩
  rw [HF.out.any]
  exact rfl

/-! ### some kinds -/
structure KindsAt (W : World) (g : Nat) (ks : List Int) : Prop where
  at' : W.heap[g]? = some (.cells (ks.map fun k => .int .i64 k).toArray 3 (0, 0))
theorem KindsAt.cell {W : World} {g : Nat} {ks : List Int} (h : KindsAt W g ks) {i : Nat} {k : Int} (hk : ks[i]? = some k) : W.cell? ⟨g, i, none⟩ = some (.int .i64 k) := by
  simp [World.cell?, h.at', hk]
theorem KindsAt.under {W W' : World} {g : Nat} {ks : List Int} (h : KindsAt W g ks) (hb : Below W.heap.size W W') : KindsAt W' g ks :=
  ⟨(hb.block g (Array.getElem?_eq_some_iff.1 h.at').1).trans h.at'⟩

structure IdxOf (ks : List Int) (k r : Int) : Prop where
  is : decide (r ≥ 0) = ks.contains k

set_option maxRecDepth 100000 in
set_option maxHeartbeats 4000000 in
theorem indexi_any (w : World) (g n : Nat) (ks : List Int) (k : Int) (h : KindsAt w g ks) (hn : n = ks.length) (hb : n ≤ 100) :
    Calls Tryz.prog 85 #[.slice (some ⟨g, 0, none⟩) n n, .int .i64 k] w fun e w' => ∃ r : Int, e = .returned (.int .i64 r) ∧ IdxOf ks k r ∧ w' = w := by
  have HI := Lib.hid h
  have HN := Lib.hid hn
  clear h hn
  go_enter Tryz.func85, Tryz.ntmps85
  go_wp2
  go_loopg [8] n (fun gk v wr => ∃ i : Nat, v = .int .i64 (i : Int) ∧ i ≤ n ∧ n - i ≤ gk ∧ wr = w ∧ Hid (∀ (j : Nat) (z : Int), j < i → ks[j]? = some z → z ≠ k))
  case atStart => exact ⟨0, rfl, by omega, by omega, rfl, fun j z hj => by omega⟩
  case round =>
    obtain ⟨i, rfl, hi, hgk, rfl, HF⟩ := hrel
    by_cases hlt : i < n
    · have hltz : (i : Int) < (n : Int) := by omega
      obtain ⟨y, hy⟩ : ∃ y, ks[i]? = some y := ⟨_, List.getElem?_eq_getElem (by rw [← HN.out]; exact hlt)⟩
      have c0 := HI.out.cell hy
      have HY := Lib.hid hy
      clear hy
      by_cases hk : k = y
      · subst hk
        have hkk : (k == k) = true := by simp
        go_wp2
        go_ret
        refine ⟨_, rfl, ⟨?_⟩, rfl⟩
        have e : ks.contains k = true := by rw [List.contains_iff_mem]; exact List.mem_of_getElem? HY.out
        rw [e]
        simp
      · have hkk : (k == y) = false := by simpa using hk
        have HK := Lib.hid hk
        clear hk
        go_wp2
        go_roundg (n - (i + 1))
        case measure => omega
        case rel =>
          refine ⟨i + 1, by go_num, by omega, Nat.le_refl _, rfl, fun j z hj hz => ?_⟩
          rcases Nat.lt_or_ge j i with h | h
          · exact HF.out j z h hz
          · obtain rfl : j = i := by omega
            have e := HY.out.symm.trans hz
            rw [← Option.some.inj e]
            exact fun h => HK.out h.symm
    · have hltz : ¬ (i : Int) < (n : Int) := by omega
      go_wp2
      go_ret
      refine ⟨_, rfl, ⟨?_⟩, rfl⟩
      have e : ks.contains k = false := by
        rw [Bool.eq_false_iff]
        intro h
        rw [List.contains_iff_mem] at h
        obtain ⟨j, hj, e⟩ := List.getElem_of_mem h
        exact HF.out j k (by have := HN.out; omega) (by rw [← e]; exact List.getElem?_eq_getElem hj) rfl
      rw [e]
      rfl

theorem containsi_any (w : World) (g n : Nat) (ks : List Int) (k : Int) (h : KindsAt w g ks) (hn : n = ks.length) (hb : n ≤ 100) :
    Calls Tryz.prog 77 #[.slice (some ⟨g, 0, none⟩) n n, .int .i64 k] w fun e w' => e = .returned (.bool (ks.contains k)) ∧ w' = w := by
  have hcon := indexi_any w g n ks k h hn hb
  clear h hn
  go_enter Tryz.func77, Tryz.ntmps77
  go_wp2_with fail
  ((with_reducible refine hcon.mono ?_))
  rintro _ _ ⟨r, rfl, hf, rfl⟩
  have HF := Lib.hid hf
  clear hf hcon
  go_wp2
  go_ret
  refine ⟨?_, rfl⟩
  rw [← HF.out.is]
  exact rfl

set_option maxRecDepth 100000 in
set_option maxHeartbeats 4000000 in
theorem hasany1_any (W : World) (x : ReV) (B g n : Nat) (ks : List Int) (hB : W.heap[B]? = some (.cells #[.slice (some ⟨g, 0, none⟩) n n] 112 (0, 0))) (h : KindsAt W g ks) (hn : n = ks.length) (hb : n ≤ 100) :
    Calls Tryz.prog 76 (#[x.val] ++ #[.pointer (some ⟨B, 0, none⟩)]) W (GivesBool (ks.contains x.kind) W) := by
  show Calls Tryz.prog 76 #[x.val, .pointer (some ⟨B, 0, none⟩)] W (GivesBool (ks.contains x.kind) W)
  obtain ⟨k, a, b, c, d, p, m, cap⟩ := x
  unfold ReV.val
  simp only []
  have hb1 : Below W.heap.size W (W.alloc (.cells #[.int .i64 k, .int .u64 a, .int .u64 b, .int .u64 c, .int .u64 d, .slice p m cap] 28)) := (Below.refl _ _).alloc (Nat.le_refl _) _
  have c0 : (W.alloc (.cells #[.int .i64 k, .int .u64 a, .int .u64 b, .int .u64 c, .int .u64 d, .slice p m cap] 28)).cell? ⟨B, 0, none⟩ = some (.slice (some ⟨g, 0, none⟩) n n) := by
    have h2 := (hb1.block B (Array.getElem?_eq_some_iff.1 hB).1).trans hB
    simp [World.cell?, h2]
  have hcon := containsi_any _ g n ks k (h.under hb1) hn hb
  obtain ⟨R, hR⟩ : ∃ R, R = ks.contains k := ⟨_, rfl⟩
  rw [← hR] at hcon ⊢
  have HB1 := Lib.hid hb1
  clear h hB hb1 hn hR
  go_enter Tryz.func76, Tryz.ntmps76
  go_wp2_with fail
  ((with_reducible refine hcon.mono ?_))
  rintro _ _ ⟨rfl, rfl⟩
  go_wp2
  go_ret
  exact ⟨rfl, HB1.out⟩

set_option maxRecDepth 100000 in
set_option maxHeartbeats 4000000 in
theorem hasany_any (w : World) (g m : Nat) (ks : List Int) (hk : KindsAt w g ks) (hm : m = ks.length) (hb : m ≤ 100) {P : Nat → Prop} {p : Option Addr} {n cap : Nat} {vs : List ReV} (h : RowV w P p n cap vs) (hn : n ≤ 9223372036854775807) :
    Calls Tryz.prog 64 #[.slice p n cap, .slice (some ⟨g, 0, none⟩) m m] w (GivesBool (vs.any fun x => ks.contains x.kind) w) := by
  have hb1 : Below w.heap.size w (w.alloc (.cells #[.slice (some ⟨g, 0, none⟩) m m] 112)) := (Below.refl _ _).alloc (Nat.le_refl _) _
  have hn1 := heap_alloc_new w (.cells #[.slice (some ⟨g, 0, none⟩) m m] 112)
  have hcon := containsf_any 76 #[.pointer (some ⟨w.heap.size, 0, none⟩)] (fun args w => Go.MuLone.run_callFunc_enter Tryz.func76 (by kernel_rfl) rfl args w)
    (fun x => ks.contains x.kind) (w.alloc (.cells #[.slice (some ⟨g, 0, none⟩) m m] 112))
    (fun W x hW => hasany1_any W x w.heap.size g m ks ((hW.block _ (Array.getElem?_eq_some_iff.1 hn1).1).trans hn1) ((hk.under hb1).under hW) hm hb) (h.under hb1) hn
  obtain ⟨R, hR⟩ : ∃ R, R = vs.any fun x => ks.contains x.kind := ⟨_, rfl⟩
  rw [← hR] at hcon ⊢
  have HB1 := Lib.hid hb1
  clear hk h hb1 hn1 hm hR
  go_enter Tryz.func64, Tryz.ntmps64
  go_wp2_with fail
  ((with_reducible refine hcon.mono ?_))
  rintro _ w2 ⟨rfl, hb2⟩
  have HB2 := Lib.hid hb2
  clear hb2 hcon
  go_wp2
  go_ret
  exact ⟨rfl, HB1.out.trans (HB2.out.mono HB1.out.size)⟩

end Go.Proofs.YtclnadjgbpihcaaGreatDoor

