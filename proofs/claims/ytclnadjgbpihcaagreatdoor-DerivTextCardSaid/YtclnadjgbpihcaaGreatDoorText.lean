/- The program's Text. No condition but the library's table, depth and size. -/
import Derived.Test.YtclnadjgbpihcaaGreatDoorWrite
import Derived.Test.YtclnadjgbpihcaaGreatDoorBShelf
import Derived.Conc.MuLone
namespace Go.Proofs.YtclnadjgbpihcaaGreatDoor
open Go.RowKit Go.Lib
set_option linter.unusedVariables false
set_option linter.unusedSimpArgs false

theorem evB_true : ∀ (n : Nat) (t : RT), t.sz ≤ n → evB (fun _ => true) t = true := by
  intro n
  induction n with
  | zero => intro t h; have := dep_pos t; have := sz_pos t; omega
  | succ n ih =>
    intro t h
    rw [evB_eq, Bool.true_and, List.all_eq_true]
    intro u hu
    refine ih u ?_
    have h1 := kidsB_sz t
    have h2 : ∀ l : List RT, u ∈ l → u.sz ≤ (l.map RT.sz).sum := by
      intro l
      induction l with
      | nil => intro h; simp at h
      | cons a l ih =>
        intro h
        rw [List.map_cons, List.sum_cons]
        rcases List.mem_cons.1 h with rfl | h
        · omega
        · have := ih h; omega
    have h2 := h2 _ hu
    omega

theorem hasEnd1_any (W : World) (v : Value) : Calls Tryz.prog 87 #[v] W (GivesBool true W) := by
  go_enter Tryz.func87, Tryz.ntmps87
  go_wp2
  go_ret
  exact ⟨rfl, Below.refl _ _⟩

theorem hasEnd_any {P : Nat → Prop} (w : World) (b0 o0 : Nat) (x0 : ReV) (t0 : RT) (hp0 : PlaceR w b0 o0 x0) (ht0 : RAt w P x0 t0) (hsz0 : t0.sz ≤ 1000000000000) :
    Calls Tryz.prog 79 #[.pointer (some ⟨b0, o0, none⟩)] w (GivesBool true w) := by
  have c := every_any 87 (fun _ => true) (fun args w => Go.MuLone.run_callFunc_enter Tryz.func87 (by kernel_rfl) rfl args w) P (fun W b o x t _ _ => hasEnd1_any W _) w b0 o0 x0 t0 hp0 ht0 hsz0
  rw [evB_true _ _ (Nat.le_refl _)] at c
  go_enter Tryz.func79, Tryz.ntmps79
  go_wp2_with fail
  ((with_reducible refine c.mono ?_))
  rintro _ w1 ⟨rfl, h1⟩
  go_wp2
  go_ret
  exact ⟨rfl, h1⟩

theorem reverse_none (W : World) : Calls Tryz.prog 81 #[.slice none 0 0] W fun e w' => e = .returned (.tuple #[]) ∧ w' = W := by
  go_enter Tryz.func81, Tryz.ntmps81
  go_wp2
  refine wp_loop_rounds 1 ?_
  rw [rounds_succ]
  go_wp2
  go_end0
  exact ⟨rfl, rfl⟩

theorem Wr.fresh (w : World) : Wr w w.heap.size w.heap.size [] (w.alloc (.cells #[.pointer none, .slice none 0 0] 119)) :=
  ⟨.inl ⟨Nat.le_refl _, .slice none 0 0, heap_alloc_new _ _, ⟨rfl, .inl ⟨rfl, rfl⟩⟩, by simp [Value.ownBlock]⟩, (Below.refl _ _).alloc (Nat.le_refl _) _⟩

set_option maxRecDepth 100000 in
set_option maxHeartbeats 8000000 in
theorem text_any {P : Nat → Prop} (W : World) (x : ReV) (t : RT) (hT : Tab1 W) (ht : RAt W P x t) (hdep : t.dep < 10000) (hsz : t.sz ≤ 9000000000) :
    Calls Tryz.prog 69 #[x.val] W fun e w' => e = .returned (.string ⟨(txt t).toArray⟩) ∧ Below W.heap.size W w' := by
  have hlen := txt_len t
  obtain ⟨k, a, b, c, d, p, n, cap⟩ := x
  obtain ⟨B0, hB0⟩ : ∃ B0, B0 = W.heap.size := ⟨_, rfl⟩
  obtain ⟨w1, hw1⟩ : ∃ w1 : World, w1 = W.alloc (.cells #[.int .i64 k, .int .u64 a, .int .u64 b, .int .u64 c, .int .u64 d, .slice p n cap] 28) := ⟨_, rfl⟩
  have hb1 : Below W.heap.size W w1 := by rw [hw1]; exact (Below.refl _ _).alloc (Nat.le_refl _) _
  have hn1 : w1.heap[B0]? = some (.cells #[.int .i64 k, .int .u64 a, .int .u64 b, .int .u64 c, .int .u64 d, .slice p n cap] 28 (0, 0)) := by rw [hw1, hB0]; exact heap_alloc_new _ _
  have hp1 : PlaceR w1 B0 0 ⟨k, a, b, c, d, p, n, cap⟩ 
      := ⟨⟨_, _, by decide, hn1⟩, fun j u hj => by rw [Nat.zero_add]; simp only [World.cell?, hn1]; simpa [ReV.cells] using hj⟩
  have c1 := hasEnd_any w1 B0 0 _ t hp1 (ht.under hb1) (by omega)
  unfold ReV.val
  simp only []
  go_enter Tryz.func69, Tryz.ntmps69
  go_wp2_with fail
  rw [← hw1, ← hB0]
  ((with_reducible refine c1.mono ?_))
  rintro _ w2 ⟨rfl, hb2⟩
  have hn2 := (hb2.block B0 (Array.getElem?_eq_some_iff.1 hn1).1).trans hn1
  have hlt2 : B0 < w2.heap.size := (Array.getElem?_eq_some_iff.1 hn2).1
  have hn3 := (heap_alloc_old w2 (.cells #[.pointer none, .slice none 0 0] 119) B0 hlt2).trans hn2
  have k0 : (w2.alloc (.cells #[.pointer none, .slice none 0 0] 119)).cell? ⟨B0, 0, none⟩ = some (.int .i64 k) := by simp [World.cell?, hn3]
  have k1 : (w2.alloc (.cells #[.pointer none, .slice none 0 0] 119)).cell? ⟨B0, 1, none⟩ = some (.int .u64 a) := by simp [World.cell?, hn3]
  have k2 : (w2.alloc (.cells #[.pointer none, .slice none 0 0] 119)).cell? ⟨B0, 2, none⟩ = some (.int .u64 b) := by simp [World.cell?, hn3]
  have k3 : (w2.alloc (.cells #[.pointer none, .slice none 0 0] 119)).cell? ⟨B0, 3, none⟩ = some (.int .u64 c) := by simp [World.cell?, hn3]
  have k4 : (w2.alloc (.cells #[.pointer none, .slice none 0 0] 119)).cell? ⟨B0, 4, none⟩ = some (.int .u64 d) := by simp [World.cell?, hn3]
  have k5 : (w2.alloc (.cells #[.pointer none, .slice none 0 0] 119)).cell? ⟨B0, 5, none⟩ = some (.slice p n cap) := by simp [World.cell?, hn3]
  have HB0 := Lib.hid hB0
  have HT1 := Lib.hid (ht.under hb1)
  clear hB0 hw1 hn3 hn2 hn1 c1 hp1
  go_wp2_with fail
  obtain ⟨q, hq⟩ : ∃ q, q = w2.heap.size := ⟨_, rfl⟩
  obtain ⟨W5, hW5⟩ : ∃ W5 : World, W5 = ((w2.alloc (.cells #[.pointer none, .slice none 0 0] 119)).alloc (.cells #[.int .i64 k, .int .u64 a, .int .u64 b, .int .u64 c, .int .u64 d, .slice p n cap] 28)).alloc (.cells #[.slice (some ⟨w2.heap.size + 1, 0, none⟩) 1 1, .int .i64 0, .string ⟨#[]⟩, .string ⟨#[]⟩] 121) := ⟨_, rfl⟩
  rw [← hW5, ← hq]
  rw [← hq] at hW5
  clear k0 k1 k2 k3 k4 k5
  have hWq : W.heap.size ≤ q := by have := HB0.out; omega
  have h25 : Below w2.heap.size w2 W5 := by rw [hW5]; exact (((Below.refl _ _).alloc (Nat.le_refl _) _).alloc (by simp) _).alloc (by simp; omega) _
  have hg : W5.heap[q + 1]? = some (.cells #[.int .i64 k, .int .u64 a, .int .u64 b, .int .u64 c, .int .u64 d, .slice p n cap] 28 (0, 0)) := by
    rw [hW5, heap_alloc_old _ _ _ (by simp; omega)]
    rw [show q + 1 = (w2.alloc (.cells #[.pointer none, .slice none 0 0] 119)).heap.size by simp; omega]
    exact heap_alloc_new _ _
  have hQ : W5.heap[q + 1 + 1]? = some (.cells #[.slice (some ⟨q + 1, 0, none⟩) 1 1, .int .i64 0, .string ⟨#[]⟩, .string ⟨#[]⟩] 121 (0, 0)) := by
    rw [hW5]
    rw [show q + 1 + 1 = ((w2.alloc (.cells #[.pointer none, .slice none 0 0] 119)).alloc (.cells #[.int .i64 k, .int .u64 a, .int .u64 b, .int .u64 c, .int .u64 d, .slice p n cap] 28)).heap.size by simp; omega]
    exact heap_alloc_new _ _
  have hwr : Wr w2 q q [] W5 := by
    have h := Wr.fresh w2
    rw [← hq] at h
    refine h.under ?_
    rw [hW5]
    exact ((Below.refl _ _).alloc (Nat.le_refl _) _).alloc (by simp) _
  have hra : RAt W5 (fun g => g ≠ q) ⟨k, a, b, c, d, p, n, cap⟩ t :=
    (((ht.weak (fun g _ h => (by omega : g ≠ q))).under hb1).under hb2).under h25
  have hkr : KidsR W5 (fun g => g ≠ q) (some ⟨q + 1, 0, none⟩) 1 1 [⟨k, a, b, c, d, p, n, cap⟩] [t] :=
    ⟨.inr ⟨q + 1, 0, rfl, by omega, by decide, by omega, ⟨_, _, by decide, hg⟩, fun j u hj => by rw [Nat.zero_add]; simp only [World.cell?, hg]; simpa [ReV.cells] using hj⟩, rfl, rfl,
      fun i y t' hy ht' => by
        cases i with
        | zero => simp at hy ht'; subst hy ht'; exact hra
        | succ i => simp at hy⟩
  have hT2 : Tab1 w2 := (hT.stays hb1).stays hb2
  have c6 := write_any (wB := w2) (B := q) (b := q) (by omega) hT2 9999 [t] 10000 [] [] [] W5 (some ⟨q + 1, 0, none⟩) 1 1 [⟨k, a, b, c, d, p, n, cap⟩] (fun u hu => by simp at hu; subst hu; omega) (by decide) (by decide) hwr hkr (by decide) (by decide)
    (by show 0 + (txt t).length ≤ 30000000000000; omega)
  have hpv : partV (some ⟨q + 1, 0, none⟩) 1 1 0 [] [] = #[.slice (some ⟨q + 1, 0, none⟩) 1 1, .int .i64 0, .string ⟨#[]⟩, .string ⟨#[]⟩] := rfl
  rw [hpv, show ((10000 : Nat) : Int) = 10000 from rfl, show [] ++ (sepB [] ([t].map txt) ++ []) = txt t by simp [sepB]] at c6
  have e0 : W5.cell? ⟨q + 1 + 1, 0, none⟩ = some (.slice (some ⟨q + 1, 0, none⟩) 1 1) := by simp [World.cell?, hQ]
  have e1 : W5.cell? ⟨q + 1 + 1, 1, none⟩ = some (.int .i64 0) := by simp [World.cell?, hQ]
  have e2 : W5.cell? ⟨q + 1 + 1, 2, none⟩ = some (.string ⟨#[]⟩) := by simp [World.cell?, hQ]
  have e3 : W5.cell? ⟨q + 1 + 1, 3, none⟩ = some (.string ⟨#[]⟩) := by simp [World.cell?, hQ]
  have H25 := Lib.hid h25
  have HQQ := Lib.hid hq
  clear hpv hkr hra hwr hQ hg h25 hW5 hq HT1 ht
  refine wp_loop_rounds 2 ?_
  rw [rounds_succ]
  go_wp2_with fail
  ((with_reducible refine c6.mono ?_))
  rintro _ w6 ⟨rfl, hw6, hk6⟩
  clear c6
  have HW6 := Lib.hid hw6
  have HK6 := Lib.hid hk6
  clear hw6 hk6
  have c7 := reverse_none w6
  go_wp2_with fail
  ((with_reducible refine c7.mono ?_))
  rintro _ _ ⟨rfl, rfl⟩
  go_wp2_with fail
  rw [rounds_succ]
  go_wp2_with fail
  have c8 := Tryz.Builder_String_k q q (txt t) _ HW6.out.bld (fun h => by have h2 := txt_pos t; rw [h] at h2; simp at h2)
  ((with_reducible refine c8.mono ?_))
  rintro _ w8 ⟨rfl, _, hb8, _⟩
  have HB8 := Lib.hid hb8
  clear hb8 c8
  go_wp2
  go_ret
  exact ⟨rfl, (hb1.trans (hb2.mono hb1.size)).trans ((HW6.out.bel.trans HB8.out).mono hWq)⟩

end Go.Proofs.YtclnadjgbpihcaaGreatDoor

