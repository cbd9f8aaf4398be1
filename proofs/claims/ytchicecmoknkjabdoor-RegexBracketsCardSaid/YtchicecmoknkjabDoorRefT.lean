/- The document's digits and Text. No condition but size. -/
import Derived.Test.YtchicecmoknkjabDoorCat
import Derived.Test.YtchicecmoknkjabDoorAwake
import Derived.StillTailTactics
namespace Go.Proofs.YtchicecmoknkjabDoor
open Go.RowKit Go.Lib
set_option linter.unusedVariables false
set_option linter.unusedSimpArgs false

def bs (x : Tx) : ByteArray := ⟨x.toArray⟩
theorem bs_size (x : Tx) : (bs x).size = x.length := by simp [bs, ByteArray.size]
theorem bs_add (x y : Tx) : bs x ++ bs y = bs (x ++ y) := by
  apply ByteArray.ext
  rw [ByteArray.data_append]
  simp [bs]
theorem bs_inj {x y : Tx} (h : bs x = bs y) : x = y := by
  have := congrArg (fun b : ByteArray => b.data.toList) h
  simpa [bs] using this
/-- A sum of two texts. -/
theorem add_is {S A : ByteArray} {x y : Tx} (hS : S = bs x) (hA : A = bs y) (hl : x.length + y.length ≤ 9000000000000000000) : ∃ T, T = bs (x ++ y) ∧ ∀ W, (Op.stringOp .add S A).run Tryd.prog W = .ok (.string T) W := by
  refine ⟨_, rfl, fun W => ?_⟩
  rw [run_string_add_sum W S A (by rw [hS, hA, bs_size, bs_size]; omega), hS, hA, bs_add]
theorem conv1 (W : World) (c : Nat) (hc : c < 256) :
    (convert 22 9 (.slice (some ⟨W.heap.size, 0, none⟩) 1 1)).run Tryd.prog (W.alloc (.cells #[.int .u8 (c : Int)] 5)) = .ok (.string (bs [UInt8.ofNat c])) (W.alloc (.cells #[.int .u8 (c : Int)] 5)) := by
  have h := run_convert_bytes_back (P := Tryd.prog) (W.alloc (.cells #[.int .u8 (c : Int)] 5)) 22 9 5 ⟨W.heap.size, 0, none⟩ 1 [UInt8.ofNat c] Tryd.underlying22 Tryd.underlying5 Tryd.underlying9 (fun j hj => by
    have hj0 : j = 0 := by simp at hj; exact hj
    subst hj0
    have e : ((UInt8.ofNat c).toNat : Int) = c := by simp; omega
    show World.cell? _ ⟨W.heap.size, 0, none⟩ = some (.int .u8 ((UInt8.ofNat c).toNat : Int))
    rw [e]
    unfold World.cell?
    show (match (W.alloc _).heap[W.heap.size]? with | some (.cells c elem frozen) => c[0]? | x => none) = _
    rw [heap_alloc_new]
    rfl)
  exact h
/-- The call returns this text; what was there is as it was. -/
def GivesTx (x : Tx) (w : World) (e : Ending) (w' : World) : Prop := e = .returned (.string (bs x)) ∧ Below w.heap.size w w'

set_option maxHeartbeats 1000000 in
theorem digits_any : ∀ (f n : Nat), f ≤ 5 → n < 10 ^ (f + 1) → n < 1000000 → ∀ W : World, Calls Tryd.prog 81 #[.int .i64 (n : Int)] W (GivesTx (digF f n) W) := by
  intro f
  induction f with
  | zero =>
    intro n h5 h1 h2 W
    have hlt : n < 10 := by simpa using h1
    have hltz : (n : Int) < 10 := by omega
    have kc := fun (W : World) => conv1 W (48 + n % 10) (by omega)
    have e9 : (48 : Int) + (n : Int) % 10 = ((48 + n % 10 : Nat) : Int) := by omega
    rw [← e9] at kc
    obtain ⟨S, hS⟩ : ∃ S, S = bs [UInt8.ofNat (48 + n % 10)] := ⟨_, rfl⟩
    rw [← hS] at kc
    have HS := Lib.hid hS
    have h48 : (0 : Int) ≤ 48 + (n : Int) % 10 ∧ (48 : Int) + (n : Int) % 10 ≤ 255 := by omega
    clear hS e9 h1 h2
    go_enter Tryd.func81, Tryd.ntmps81
    go_wp2
    go_ret
    refine ⟨?_, (Below.refl _ _).alloc (Nat.le_refl _) _⟩
    rw [HS.out]
    exact rfl
  | succ f ih =>
    intro n h5 h1 h2 W
    have kc := fun (W : World) => conv1 W (48 + n % 10) (by omega)
    have e9 : (48 : Int) + (n : Int) % 10 = ((48 + n % 10 : Nat) : Int) := by omega
    rw [← e9] at kc
    obtain ⟨S, hS⟩ : ∃ S, S = bs [UInt8.ofNat (48 + n % 10)] := ⟨_, rfl⟩
    rw [← hS] at kc
    have HS := Lib.hid hS
    have c1 := ih (n / 10) (by omega) (by rw [Nat.pow_succ] at h1; omega) (by omega)
    have e8 : ((n / 10 : Nat) : Int) = (n : Int) / 10 := by omega
    rw [e8] at c1
    by_cases hlt : n < 10
    · have hltz : (n : Int) < 10 := by omega
      have HD : Hid (digF (f + 1) n = [UInt8.ofNat (48 + n % 10)]) := by unfold Hid; rw [digF, if_pos hlt]
      clear hS e9 h1 h2 c1 e8
      go_enter Tryd.func81, Tryd.ntmps81
      go_wp2
      go_ret
      refine ⟨?_, (Below.refl _ _).alloc (Nat.le_refl _) _⟩
      rw [HD.out, HS.out]
      exact rfl
    · have hltz : ¬ (n : Int) < 10 := by omega
      have HD : Hid (digF (f + 1) n = digF f (n / 10) ++ [UInt8.ofNat (48 + n % 10)]) := by unfold Hid; rw [digF, if_neg hlt]
      obtain ⟨A, hA⟩ : ∃ A, A = bs (digF f (n / 10)) := ⟨_, rfl⟩
      have hdl : ∀ f n, (digF f n).length ≤ f + 1 := by
        intro f
        induction f with
        | zero => intro n; simp [digF]
        | succ f ih => intro n; rw [digF]; split; · simp
                       · rw [List.length_append]; have := ih (n / 10); simp; omega
      have ew : wrap64 ((n : Int) / 10) = (n : Int) / 10 := by unfold wrap64; omega
      obtain ⟨T, hT, hsum⟩ := add_is hA hS (by have := hdl f (n / 10); simp; omega)
      unfold GivesTx at c1
      rw [← hA] at c1
      have HT := Lib.hid hT
      clear hS e9 h1 h2 e8 hA hT hdl ih
      go_enter Tryd.func81, Tryd.ntmps81
      go_wp2_with fail
      ((with_reducible refine (c1 _).mono ?_))
      rintro _ w1 ⟨rfl, hb1⟩
      have HB1 := Lib.hid hb1
      clear hb1 c1
      go_wp2
      go_ret
      refine ⟨?_, ((Below.refl _ _).alloc (Nat.le_refl _) _).trans (HB1.out.mono (by simp))⟩
      rw [HD.out, HT.out]
      exact rfl

/-- A text of parts, its separators. -/
theorem sepB_take (c : Tx) (L : List Tx) (i : Nat) (x : Tx) (h : L[i]? = some x) : sepB c (L.take (i + 1)) = sepB c (L.take i) ++ (if i = 0 then [] else c) ++ x := by
  rw [List.take_add_one, h]
  show sepB c (L.take i ++ [x]) = _
  rw [sepB_snoc]
  have hi := (List.getElem?_eq_some_iff.1 h).1
  have e : (L.take i = []) = (i = 0) := by
    apply propext
    constructor
    · intro h
      have := congrArg List.length h
      simp at this
      rcases this with h | h
      · exact h
      · rw [h] at hi; simp at hi
    · intro h; subst h; simp
  simp only [e]
theorem sepB_pre (c : Tx) (hc : c.length ≤ 1) (l : List RT) (i : Nat) : (sepB c ((l.map txt).take i)).length ≤ 3000 * (l.map RT.sz).sum := by
  have h := sepB_len c hc ((l.map txt).take i)
  have h2 : ∀ (l : List RT) (i : Nat), (((l.map txt).take i).map fun x => x.length + 1).sum ≤ 3000 * (l.map RT.sz).sum := by
    intro l
    induction l with
    | nil => intro i; simp
    | cons a l ih =>
      intro i
      cases i with
      | zero => simp
      | succ i =>
        have h1 := ih i
        have h3 := txt_len a
        simp only [List.map_cons, List.take_succ_cons, List.sum_cons]
        omega
  have := h2 l i
  omega
theorem sepB_rg (l : List (Nat × Nat)) (i : Nat) : (sepB [44] ((l.map rg1).take i)).length ≤ 8 * l.length := by
  rw [← List.map_take]
  have := sepR_len (l.take i)
  rw [List.length_take] at this
  omega
theorem rgs_bound (f : Nat → Bool) : ∀ (n : Nat), ∀ r ∈ rgs f n, r.1 < n ∧ r.2 < n := rgs_lt f

set_option maxRecDepth 100000 in
set_option maxHeartbeats 8000000 in
theorem reftext_any {P : Nat → Prop} : ∀ (N : Nat) (t : RT) (x : ReV) (W : World), t.dep ≤ N → RAt W P x t → t.sz ≤ 1000000000 → Calls Tryd.prog 75 #[x.val] W (GivesTx (txt t) W) := by
  intro N
  induction N with
  | zero => intro t x W h; have := dep_pos t; omega
  | succ N ih =>
    intro t x W hdep ht hsz
    obtain ⟨vs, et, hok, hk⟩ := ht.kids
    have hkd : ∀ u ∈ t.kids, u.dep ≤ N := by
      obtain ⟨k', s', l'⟩ := t
      exact dep_mk.1 hdep
    have hks : (t.kids.map RT.sz).sum < t.sz := by
      obtain ⟨k', s', l'⟩ := t
      rw [sz_mk]
      show (l'.map RT.sz).sum < _
      omega
    have htx := congrArg txt et
    rw [txt_mk] at htx
    obtain ⟨L, hL⟩ : ∃ L, L = t.kids := ⟨_, rfl⟩
    rw [← hL] at hk hkd hks htx
    obtain ⟨k, a, b, c, d, p, n, cap⟩ := x
    simp only [ReV.w4] at hok hk htx
    obtain ⟨B0, hB0⟩ : ∃ B0, B0 = W.heap.size := ⟨_, rfl⟩
    obtain ⟨w1, hw1⟩ : ∃ w1 : World, w1 = W.alloc (.cells #[.int .i64 k, .int .u64 a, .int .u64 b, .int .u64 c, .int .u64 d, .slice p n cap] 30) := ⟨_, rfl⟩
    have hb1 : Below W.heap.size W w1 := by rw [hw1]; exact (Below.refl _ _).alloc (Nat.le_refl _) _
    have hn1 : w1.heap[B0]? = some (.cells #[.int .i64 k, .int .u64 a, .int .u64 b, .int .u64 c, .int .u64 d, .slice p n cap] 30 (0, 0)) := by rw [hw1, hB0]; exact heap_alloc_new _ _
    have hB1 : B0 < w1.heap.size := (Array.getElem?_eq_some_iff.1 hn1).1
    have hnum := hk.num
    have hK1 := hk.under hb1
    obtain ⟨T, hT⟩ : ∃ T, T = bs (txt t) := ⟨_, rfl⟩
    unfold GivesTx
    rw [← hT]
    rw [htx] at hT
    have HT := Lib.hid hT
    have HK := Lib.hid hK1
    have HB1 := Lib.hid hb1
    have HN1 := Lib.hid hn1
    have HW1 := Lib.hid hw1
    have HBB := Lib.hid hB0
    have HKD := Lib.hid hkd
    have HOK := Lib.hid hok
    have HNU := Lib.hid hnum
    have HLT := Lib.hid hB1
    have HKS : Hid ((L.map RT.sz).sum ≤ 1000000000) := by unfold Hid; omega
    have hnb : n ≤ 1000000000 := by
      have : ∀ l : List RT, l.length ≤ (l.map RT.sz).sum := by
        intro l
        induction l with
        | nil => simp
        | cons a l ih => have := sz_pos a; simp only [List.length_cons, List.map_cons, List.sum_cons]; omega
      have := this L
      omega
    have HIH := Lib.hid ih
    clear hT hK1 hb1 hw1 hB0 hkd hok hnum hks htx et hL ht hsz hdep ih hk
    have k0 : w1.cell? ⟨B0, 0, none⟩ = some (.int .i64 k) := by simp [World.cell?, hn1]
    have k1 : w1.cell? ⟨B0, 1, none⟩ = some (.int .u64 a) := by simp [World.cell?, hn1]
    have k2 : w1.cell? ⟨B0, 2, none⟩ = some (.int .u64 b) := by simp [World.cell?, hn1]
    have k3 : w1.cell? ⟨B0, 3, none⟩ = some (.int .u64 c) := by simp [World.cell?, hn1]
    have k4 : w1.cell? ⟨B0, 4, none⟩ = some (.int .u64 d) := by simp [World.cell?, hn1]
    have k5 : w1.cell? ⟨B0, 5, none⟩ = some (.slice p n cap) := by simp [World.cell?, hn1]
    clear hn1 hB1
    unfold ReV.val
    simp only []
    by_cases e0 : k = 0
    · subst e0
      go_enter Tryd.func75, Tryd.ntmps75
      go_wp2_with fail
      go_ret
      refine ⟨by rw [HT.out]; exact rfl, ?_⟩
      rw [← HW1.out]
      exact HB1.out
    by_cases e1 : k = 1
    · subst e1
      go_enter Tryd.func75, Tryd.ntmps75
      go_wp2_with fail
      go_ret
      refine ⟨by rw [HT.out]; exact rfl, ?_⟩
      rw [← HW1.out]
      exact HB1.out
    by_cases e2 : k = 2
    · subst e2
      have c2 := fun W => refranges_any a b c d _ W (W4.isSet HOK.out)
      have hrl := rgs_len (W4.mem ⟨a, b, c, d⟩) 256
      have hrb := rgs_lt (W4.mem ⟨a, b, c, d⟩) 256
      have HRT := Lib.hid (rngT_is ⟨a, b, c, d⟩)
      obtain ⟨Q, hQ⟩ : ∃ Q, Q = rgs (W4.mem ⟨a, b, c, d⟩) 256 := ⟨_, rfl⟩
      rw [← hQ] at hrl hrb HRT c2
      have HRB := Lib.hid hrb
      have c3 := c2 w1
      clear hQ hrb c2
      go_enter Tryd.func75, Tryd.ntmps75
      go_wp2_with fail
      rw [← HW1.out]
      ((with_reducible refine c3.mono ?_))
      rintro _ w2 ⟨rv, rfl, ho, hb2⟩
      obtain ⟨m, hm⟩ : ∃ m, m = Q.length := ⟨_, rfl⟩
      rw [← hm] at ho hrl
      obtain ⟨q2, cp2, rfl⟩ : ∃ q2 cp2, rv = .slice q2 m cp2 := by
        rcases row_forms ho with ⟨rfl, h0⟩ | ⟨g, cp', rfl⟩
        · exact ⟨none, 0, by rw [h0]⟩
        · exact ⟨_, cp', rfl⟩
      have HO := Lib.hid ho
      have HB2 := Lib.hid hb2
      have HM := Lib.hid hm
      have mixed : Tryd.prog.follows .mixedOrders = true := by kernel_rfl
      clear ho hb2 hm c3 k0 k1 k2 k3 k4 k5 e0 e1
      go_wp2_with fail
      go_loopg [3, 5] m (fun gk vs vi wr => ∃ (i : Nat) (S : ByteArray), vs = .string S ∧ vi = .int .i64 (i : Int) ∧ i ≤ m ∧ m - i ≤ gk ∧ Hid (Below w2.heap.size w2 wr) ∧ Hid (S = bs (sepB [44] ((Q.map rg1).take i))))
      case atStart => exact ⟨0, bs [], rfl, rfl, by omega, by omega, Below.refl _ _, rfl⟩
      case round =>
        obtain ⟨i, S, rfl, rfl, hi, hgk, HB, HS⟩ := hrel
        by_cases hlt : i < m
        · have hltz : (i : Int) < (m : Int) := by omega
          obtain ⟨g, cp', hq⟩ := (row_forms HO.out).resolve_left (fun h => by omega)
          obtain ⟨rfl, rfl⟩ : q2 = some ⟨g, 0, none⟩ ∧ cp2 = cp' := by simp at hq; exact hq
          clear hq
          obtain ⟨r, hr⟩ : ∃ r, Q[i]? = some r := ⟨_, List.getElem?_eq_getElem (by rw [← HM.out]; exact hlt)⟩
          have hrm := HRB.out r (List.mem_of_getElem? hr)
          have htk := sepB_take [44] (Q.map rg1) i (rg1 r) (by rw [List.getElem?_map, hr]; rfl)
          have hl1 := sepB_rg Q i
          have hl2 := dig_len r.1
          have hl3 := dig_len r.2
          have hro : ∀ w', Below wr.drew.heap.size wr.drew w' → w'.cell? ⟨g, i * 2, none⟩ = some (.int .i64 (r.1 : Int)) ∧ w'.cell? ⟨g, i * 2 + 1, none⟩ = some (.int .i64 (r.2 : Int)) ∧ Hid (Below w2.heap.size w2 w') := by
            intro w' hb'
            have hbw : Below w2.heap.size w2 w' := (below_drawn HB.out 1).trans (hb'.mono HB.out.size)
            have h1 := own_at HO.out (hbw.block g (row_base HO.out).2.2.2)
            have hil := (List.getElem?_eq_some_iff.1 hr)
            obtain ⟨hil, hie⟩ := hil
            refine ⟨row_cell h1 ?_, row_cell h1 ?_, hbw⟩
            · rw [rcells_lo Q i hil, hie]
            · rw [rcells_hi Q i hil, hie]
          obtain ⟨A1, hA1⟩ : ∃ A, A = bs (dig r.1) := ⟨_, rfl⟩
          obtain ⟨A2, hA2⟩ : ∃ A, A = bs (dig r.2) := ⟨_, rfl⟩
          have HD1 : Hid (∀ W, Calls Tryd.prog 81 #[.int .i64 (r.1 : Int)] W fun e w' => e = .returned (.string A1) ∧ Below W.heap.size W w') := fun W => by rw [hA1]; exact digits_any 2 r.1 (by decide) (by omega) (by omega) W
          have HD2 : Hid (∀ W, Calls Tryd.prog 81 #[.int .i64 (r.2 : Int)] W fun e w' => e = .returned (.string A2) ∧ Below W.heap.size W w') := fun W => by rw [hA2]; exact digits_any 2 r.2 (by decide) (by omega) (by omega) W
          have HSL : Hid ((sepB [44] ((Q.map rg1).take i)).length ≤ 3000) := by unfold Hid; rw [← HM.out] at hl1; omega
          obtain ⟨f1, f2, _⟩ := hro wr.drew (Below.refl _ _)
          have HF := Lib.hid hro
          have HTK := Lib.hid htk
          obtain ⟨lo, hi'⟩ := r
          simp only at f1 f2 HF hA1 hA2 hl2 hl3 HD1 HD2
          by_cases hi0 : i = 0
          · have hi0z : ¬ (i : Int) > 0 := by omega
            have hHS : S = bs (sepB [44] ((Q.map rg1).take i) ++ []) := by rw [List.append_nil]; exact HS.out
            have hTT : sepB [44] ((Q.map rg1).take i) ++ [] ++ dig lo ++ [45] ++ dig hi' = sepB [44] ((Q.map rg1).take (i + 1)) := by rw [HTK.out, if_pos hi0]; simp [rg1]
            clear hi0
            obtain ⟨U1, hU1, sum1⟩ := add_is hHS hA1 (by have := HSL.out; simp; omega)
            obtain ⟨U2, hU2, sum2⟩ := add_is (A := ⟨#[45]⟩) (y := [45]) hU1 rfl (by have := HSL.out; simp; omega)
            obtain ⟨U3, hU3, sum3⟩ := add_is hU2 hA2 (by have := HSL.out; simp; omega)
            rw [hTT] at hU3
            have HU3 := Lib.hid hU3
            clear hU1 hU2 hU3 hA1 hA2 hl1 hl2 hl3 htk hrm hro hr hHS hTT
            go_wp2_with fail
            go_region_law (first
              | (go_simp; go_at_call 81; (with_reducible (refine (HD1.out wr.drew).mono ?_)); rintro _ w3 ⟨rfl, hb3⟩; obtain ⟨g1, g2, HB3⟩ := HF.out w3 hb3; have HB33 := Lib.hid hb3; clear hb3)
              | (go_simp; go_at_call 81; (with_reducible (refine (HD2.out wr.drew).mono ?_)); rintro _ w3 ⟨rfl, hb3⟩; obtain ⟨g1, g2, HB3⟩ := HF.out w3 hb3; have HB33 := Lib.hid hb3; clear hb3)
              | (go_simp; go_at_call 81; (with_reducible (refine (HD2.out w3).mono ?_)); rintro _ w4 ⟨rfl, hb4⟩; obtain ⟨h1, h2, HB4⟩ := HF.out w4 (HB33.out.trans (hb4.mono HB33.out.size)); clear hb4)
              | (go_simp; go_at_call 81; (with_reducible (refine (HD1.out w3).mono ?_)); rintro _ w4 ⟨rfl, hb4⟩; obtain ⟨h1, h2, HB4⟩ := HF.out w4 (HB33.out.trans (hb4.mono HB33.out.size)); clear hb4)
              | fail)
            all_goals go_wp2
            all_goals
              go_roundg (m - (i + 1))
              case measure => omega
              case rel => exact ⟨i + 1, U3, rfl, by go_num, by omega, Nat.le_refl _, HB4, HU3.out⟩
          · have hi0z : (i : Int) > 0 := by omega
            obtain ⟨S0, hS0, sum0⟩ := add_is (A := ⟨#[44]⟩) (y := [44]) HS.out rfl (by have := HSL.out; simp; omega)
            have hHS := hS0
            have hTT : sepB [44] ((Q.map rg1).take i) ++ [44] ++ dig lo ++ [45] ++ dig hi' = sepB [44] ((Q.map rg1).take (i + 1)) := by rw [HTK.out, if_neg hi0]; simp [rg1]
            clear hi0
            obtain ⟨U1, hU1, sum1⟩ := add_is hHS hA1 (by have := HSL.out; simp; omega)
            obtain ⟨U2, hU2, sum2⟩ := add_is (A := ⟨#[45]⟩) (y := [45]) hU1 rfl (by have := HSL.out; simp; omega)
            obtain ⟨U3, hU3, sum3⟩ := add_is hU2 hA2 (by have := HSL.out; simp; omega)
            rw [hTT] at hU3
            have HU3 := Lib.hid hU3
            clear hU1 hU2 hU3 hA1 hA2 hl1 hl2 hl3 htk hrm hro hr hHS hTT hS0
            go_wp2_with fail
            go_region_law (first
              | (go_simp; go_at_call 81; (with_reducible (refine (HD1.out wr.drew).mono ?_)); rintro _ w3 ⟨rfl, hb3⟩; obtain ⟨g1, g2, HB3⟩ := HF.out w3 hb3; have HB33 := Lib.hid hb3; clear hb3)
              | (go_simp; go_at_call 81; (with_reducible (refine (HD2.out wr.drew).mono ?_)); rintro _ w3 ⟨rfl, hb3⟩; obtain ⟨g1, g2, HB3⟩ := HF.out w3 hb3; have HB33 := Lib.hid hb3; clear hb3)
              | (go_simp; go_at_call 81; (with_reducible (refine (HD2.out w3).mono ?_)); rintro _ w4 ⟨rfl, hb4⟩; obtain ⟨h1, h2, HB4⟩ := HF.out w4 (HB33.out.trans (hb4.mono HB33.out.size)); clear hb4)
              | (go_simp; go_at_call 81; (with_reducible (refine (HD1.out w3).mono ?_)); rintro _ w4 ⟨rfl, hb4⟩; obtain ⟨h1, h2, HB4⟩ := HF.out w4 (HB33.out.trans (hb4.mono HB33.out.size)); clear hb4)
              | fail)
            all_goals go_wp2
            all_goals
              go_roundg (m - (i + 1))
              case measure => omega
              case rel => exact ⟨i + 1, U3, rfl, by go_num, by omega, Nat.le_refl _, HB4, HU3.out⟩
        · have hltz : ¬ (i : Int) < (m : Int) := by omega
          have hSS : S = bs (sepB [44] (Q.map rg1)) := by
            have h := HS.out
            rw [List.take_of_length_le (by rw [List.length_map, ← HM.out]; omega)] at h
            exact h
          obtain ⟨T1, hT1, sum1⟩ := add_is (S := ⟨#[91]⟩) (x := [91]) rfl hSS (by have := sepR_len Q; rw [← HM.out] at this; simp; omega)
          obtain ⟨T2, hT2, sum2⟩ := add_is (A := ⟨#[93]⟩) (y := [93]) hT1 rfl (by have := sepR_len Q; rw [← HM.out] at this; simp; omega)
          have HT2 := Lib.hid hT2
          clear hSS hT1 hT2
          go_wp2_with fail
          go_ret
          refine ⟨?_, HB1.out.trans ((HB2.out.trans (HB.out.mono HB2.out.size)).mono HB1.out.size)⟩
          have e9 : T = bs (91 :: (rngT ⟨a, b, c, d⟩ ++ [93])) := HT.out
          rw [e9, HRT.out]
          show _ = Ending.returned (.string (bs (91 :: (sepB [44] (Q.map rg1) ++ [93]))))
          rw [show (91 :: (sepB [44] (Q.map rg1) ++ [93]) : Tx) = [91] ++ sepB [44] (Q.map rg1) ++ [93] by simp, ← HT2.out]
          exact rfl
    by_cases e5 : k = 5
    · subst e5
      go_enter Tryd.func75, Tryd.ntmps75
      go_wp2_with fail
      rw [← HW1.out, ← HBB.out]
      clear k0 k1 k2 k3 k4 k5
      go_loopg [3, 6] n (fun gk vs vi wr => ∃ (i : Nat) (S : ByteArray), vs = .string S ∧ vi = .int .i64 (i : Int) ∧ i ≤ n ∧ n - i ≤ gk ∧ Hid (Below w1.heap.size w1 wr) ∧ Hid (S = bs (sepB [] ((L.map txt).take i))))
      case atStart => exact ⟨0, bs [], rfl, rfl, by omega, by omega, Below.refl _ _, rfl⟩
      case round =>
        obtain ⟨i, S, rfl, rfl, hi, hgk, HB, HS⟩ := hrel
        have hnr : wr.heap[B0]? = some (.cells #[.int .i64 5, .int .u64 a, .int .u64 b, .int .u64 c, .int .u64 d, .slice p n cap] 30 (0, 0)) := (HB.out.block B0 HLT.out).trans HN1.out
        have k0 : wr.cell? ⟨B0, 0, none⟩ = some (.int .i64 5) := by simp [World.cell?, hnr]
        have k5 : wr.cell? ⟨B0, 5, none⟩ = some (.slice p n cap) := by simp [World.cell?, hnr]
        clear hnr
        by_cases hlt : i < n
        · have hltz : (i : Int) < (n : Int) := by omega
          obtain ⟨g, off, rfl⟩ := HK.out.rowv.some_of hlt
          have hil : i < L.length := by rw [← HNU.out]; exact hlt
          obtain ⟨y, hy⟩ : ∃ y, vs[i]? = some y := ⟨_, List.getElem?_eq_getElem (by rw [HK.out.len]; exact hil)⟩
          obtain ⟨u, hu⟩ : ∃ u, L[i]? = some u := ⟨_, List.getElem?_eq_getElem hil⟩
          have hpl := HK.out.place hy
          have hra := (HK.out.each i y u hy hu).under HB.out
          have hus : u.sz ≤ 1000000000 := by have := sum_mem (List.mem_of_getElem? hu); have := HKS.out; omega
          have c9 := HIH.out u y wr (HKD.out u (List.mem_of_getElem? hu)) hra hus
          have htk := sepB_take [] (L.map txt) i (txt u) (by rw [List.getElem?_map, hu]; rfl)
          have hl1 := sepB_pre [] (by decide) L i
          have hl2 := txt_len u
          obtain ⟨A, hA⟩ : ∃ A, A = bs (txt u) := ⟨_, rfl⟩
          unfold GivesTx at c9
          rw [← hA] at c9
          obtain ⟨y0, y1, y2, y3, y4, y5, y6, y7⟩ := y
          obtain ⟨p0, p1, p2, p3, p4, p5⟩ := (hpl.under HB.out).six
          simp only at p0 p1 p2 p3 p4 p5
          unfold ReV.val at c9
          simp only at c9
          have HTK := Lib.hid htk
          have HSL : Hid ((sepB [] ((L.map txt).take i)).length ≤ 4000000000000) := by unfold Hid; have := HKS.out; omega
          have HAL : Hid ((txt u).length ≤ 4000000000000) := by unfold Hid; omega
          have HAA := Lib.hid hA
          clear hpl hra hus htk hl1 hl2 hA hy hu hil
          have hTT : sepB [] ((L.map txt).take i) ++ txt u = sepB [] ((L.map txt).take (i + 1)) := by rw [HTK.out]; split <;> simp
          obtain ⟨U, hU, sum1⟩ := add_is HS.out HAA.out (by have := HSL.out; have := HAL.out; simp; omega)
          rw [hTT] at hU
          have HU := Lib.hid hU
          clear hU hTT
          go_wp2_with fail
          ((with_reducible refine c9.mono ?_))
          rintro _ w3 ⟨rfl, hb3⟩
          have HB3 : Hid (Below w1.heap.size w1 w3) := HB.out.trans (hb3.mono HB.out.size)
          clear hb3 c9
          go_wp2
          go_roundg (n - (i + 1))
          case measure => omega
          case rel => exact ⟨i + 1, U, rfl, by go_num, by omega, Nat.le_refl _, HB3, HU.out⟩
        · have hltz : ¬ (i : Int) < (n : Int) := by omega
          have hSS : S = bs (sepB [] (L.map txt)) := by
            have h := HS.out
            rw [List.take_of_length_le (by rw [List.length_map, ← HNU.out]; omega)] at h
            exact h
          have hl9 : (sepB [] (L.map txt)).length ≤ 4000000000000 := by
            have h := sepB_pre [] (by decide) L L.length
            rw [List.take_of_length_le (by rw [List.length_map]; exact Nat.le_refl _)] at h
            have := HKS.out
            omega
          obtain ⟨T1, hT1, sum1⟩ := add_is (A := ⟨#[42]⟩) (y := [42]) hSS rfl (by simp; omega)
          have HT1 := Lib.hid hT1
          clear hSS hT1 hl9
          go_wp2_with fail
          go_ret
          refine ⟨?_, HB1.out.trans (HB.out.mono HB1.out.size)⟩
          have e9 : T = bs (sepB [] (L.map txt) ++ [42]) := HT.out
          rw [e9, ← HT1.out]
          exact rfl
    by_cases e3 : k = 3
    · subst e3
      go_enter Tryd.func75, Tryd.ntmps75
      go_wp2_with fail
      rw [← HW1.out, ← HBB.out]
      clear k0 k1 k2 k3 k4 k5
      go_loopg [3, 7] n (fun gk vs vi wr => ∃ (i : Nat) (S : ByteArray), vs = .string S ∧ vi = .int .i64 (i : Int) ∧ i ≤ n ∧ n - i ≤ gk ∧ Hid (Below w1.heap.size w1 wr) ∧ Hid (S = bs (sepB [] ((L.map txt).take i))))
      case atStart => exact ⟨0, bs [], rfl, rfl, by omega, by omega, Below.refl _ _, rfl⟩
      case round =>
        obtain ⟨i, S, rfl, rfl, hi, hgk, HB, HS⟩ := hrel
        have hnr : wr.heap[B0]? = some (.cells #[.int .i64 3, .int .u64 a, .int .u64 b, .int .u64 c, .int .u64 d, .slice p n cap] 30 (0, 0)) := (HB.out.block B0 HLT.out).trans HN1.out
        have k0 : wr.cell? ⟨B0, 0, none⟩ = some (.int .i64 3) := by simp [World.cell?, hnr]
        have k5 : wr.cell? ⟨B0, 5, none⟩ = some (.slice p n cap) := by simp [World.cell?, hnr]
        clear hnr
        by_cases hlt : i < n
        · have hltz : (i : Int) < (n : Int) := by omega
          obtain ⟨g, off, rfl⟩ := HK.out.rowv.some_of hlt
          have hil : i < L.length := by rw [← HNU.out]; exact hlt
          obtain ⟨y, hy⟩ : ∃ y, vs[i]? = some y := ⟨_, List.getElem?_eq_getElem (by rw [HK.out.len]; exact hil)⟩
          obtain ⟨u, hu⟩ : ∃ u, L[i]? = some u := ⟨_, List.getElem?_eq_getElem hil⟩
          have hpl := HK.out.place hy
          have hra := (HK.out.each i y u hy hu).under HB.out
          have hus : u.sz ≤ 1000000000 := by have := sum_mem (List.mem_of_getElem? hu); have := HKS.out; omega
          have c9 := HIH.out u y wr (HKD.out u (List.mem_of_getElem? hu)) hra hus
          have htk := sepB_take [] (L.map txt) i (txt u) (by rw [List.getElem?_map, hu]; rfl)
          have hl1 := sepB_pre [] (by decide) L i
          have hl2 := txt_len u
          obtain ⟨A, hA⟩ : ∃ A, A = bs (txt u) := ⟨_, rfl⟩
          unfold GivesTx at c9
          rw [← hA] at c9
          obtain ⟨y0, y1, y2, y3, y4, y5, y6, y7⟩ := y
          obtain ⟨p0, p1, p2, p3, p4, p5⟩ := (hpl.under HB.out).six
          simp only at p0 p1 p2 p3 p4 p5
          unfold ReV.val at c9
          simp only at c9
          have HTK := Lib.hid htk
          have HSL : Hid ((sepB [] ((L.map txt).take i)).length ≤ 4000000000000) := by unfold Hid; have := HKS.out; omega
          have HAL : Hid ((txt u).length ≤ 4000000000000) := by unfold Hid; omega
          have HAA := Lib.hid hA
          clear hpl hra hus htk hl1 hl2 hA hy hu hil
          by_cases hi0 : i = 0
          · have hi0z : ¬ (i : Int) > 0 := by omega
            clear hi0
            have hTT : sepB [] ((L.map txt).take i) ++ txt u = sepB [] ((L.map txt).take (i + 1)) := by rw [HTK.out]; split <;> simp
            obtain ⟨U, hU, sum1⟩ := add_is HS.out HAA.out (by have := HSL.out; have := HAL.out; simp; omega)
            rw [hTT] at hU
            have HU := Lib.hid hU
            clear hU hTT
            go_wp2_with fail
            ((with_reducible refine c9.mono ?_))
            rintro _ w3 ⟨rfl, hb3⟩
            have HB3 : Hid (Below w1.heap.size w1 w3) := HB.out.trans (hb3.mono HB.out.size)
            clear hb3 c9
            go_wp2
            go_roundg (n - (i + 1))
            case measure => omega
            case rel => exact ⟨i + 1, U, rfl, by go_num, by omega, Nat.le_refl _, HB3, HU.out⟩
          · have hi0z : (i : Int) > 0 := by omega
            clear hi0
            have hTT : sepB [] ((L.map txt).take i) ++ txt u = sepB [] ((L.map txt).take (i + 1)) := by rw [HTK.out]; split <;> simp
            obtain ⟨U, hU, sum1⟩ := add_is HS.out HAA.out (by have := HSL.out; have := HAL.out; simp; omega)
            rw [hTT] at hU
            have HU := Lib.hid hU
            clear hU hTT
            go_wp2_with fail
            ((with_reducible refine c9.mono ?_))
            rintro _ w3 ⟨rfl, hb3⟩
            have HB3 : Hid (Below w1.heap.size w1 w3) := HB.out.trans (hb3.mono HB.out.size)
            clear hb3 c9
            go_wp2
            go_roundg (n - (i + 1))
            case measure => omega
            case rel => exact ⟨i + 1, U, rfl, by go_num, by omega, Nat.le_refl _, HB3, HU.out⟩
        · have hltz : ¬ (i : Int) < (n : Int) := by omega
          have hSS : S = bs (sepB [] (L.map txt)) := by
            have h := HS.out
            rw [List.take_of_length_le (by rw [List.length_map, ← HNU.out]; omega)] at h
            exact h
          have hl9 : (sepB [] (L.map txt)).length ≤ 4000000000000 := by
            have h := sepB_pre [] (by decide) L L.length
            rw [List.take_of_length_le (by rw [List.length_map]; exact Nat.le_refl _)] at h
            have := HKS.out
            omega
          obtain ⟨T1, hT1, sum1⟩ := add_is (S := ⟨#[40]⟩) (x := [40]) rfl hSS (by simp; omega)
          obtain ⟨T2, hT2, sum2⟩ := add_is (A := ⟨#[41]⟩) (y := [41]) hT1 rfl (by simp; omega)
          have HT2 := Lib.hid hT2
          clear hSS hT1 hT2 hl9
          go_wp2_with fail
          go_ret
          refine ⟨?_, HB1.out.trans (HB.out.mono HB1.out.size)⟩
          have e9 : T = bs (40 :: (sepB [] (L.map txt) ++ [41])) := HT.out
          rw [e9, show (40 :: (sepB [] (L.map txt) ++ [41]) : Tx) = [40] ++ sepB [] (L.map txt) ++ [41] by simp, ← HT2.out]
          exact rfl
    · have HE : Hid (¬ k = 0 ∧ ¬ k = 1 ∧ ¬ k = 2 ∧ ¬ k = 3 ∧ ¬ k = 5) := ⟨e0, e1, e2, e3, e5⟩
      have z0 : (k == 0) = false := by simpa using e0
      have z1 : (k == 1) = false := by simpa using e1
      have z2 : (k == 2) = false := by simpa using e2
      have z3 : (k == 3) = false := by simpa using e3
      have z5 : (k == 5) = false := by simpa using e5
      clear e0 e1 e2 e3 e5
      go_enter Tryd.func75, Tryd.ntmps75
      go_wp2_with fail
      rw [← HW1.out, ← HBB.out]
      clear k0 k1 k2 k3 k4 k5
      go_loopg [3, 7] n (fun gk vs vi wr => ∃ (i : Nat) (S : ByteArray), vs = .string S ∧ vi = .int .i64 (i : Int) ∧ i ≤ n ∧ n - i ≤ gk ∧ Hid (Below w1.heap.size w1 wr) ∧ Hid (S = bs (sepB [124] ((L.map txt).take i))))
      case atStart => exact ⟨0, bs [], rfl, rfl, by omega, by omega, Below.refl _ _, rfl⟩
      case round =>
        obtain ⟨i, S, rfl, rfl, hi, hgk, HB, HS⟩ := hrel
        have hnr : wr.heap[B0]? = some (.cells #[.int .i64 k, .int .u64 a, .int .u64 b, .int .u64 c, .int .u64 d, .slice p n cap] 30 (0, 0)) := (HB.out.block B0 HLT.out).trans HN1.out
        have k0 : wr.cell? ⟨B0, 0, none⟩ = some (.int .i64 k) := by simp [World.cell?, hnr]
        have k5 : wr.cell? ⟨B0, 5, none⟩ = some (.slice p n cap) := by simp [World.cell?, hnr]
        clear hnr
        by_cases hlt : i < n
        · have hltz : (i : Int) < (n : Int) := by omega
          obtain ⟨g, off, rfl⟩ := HK.out.rowv.some_of hlt
          have hil : i < L.length := by rw [← HNU.out]; exact hlt
          obtain ⟨y, hy⟩ : ∃ y, vs[i]? = some y := ⟨_, List.getElem?_eq_getElem (by rw [HK.out.len]; exact hil)⟩
          obtain ⟨u, hu⟩ : ∃ u, L[i]? = some u := ⟨_, List.getElem?_eq_getElem hil⟩
          have hpl := HK.out.place hy
          have hra := (HK.out.each i y u hy hu).under HB.out
          have hus : u.sz ≤ 1000000000 := by have := sum_mem (List.mem_of_getElem? hu); have := HKS.out; omega
          have c9 := HIH.out u y wr (HKD.out u (List.mem_of_getElem? hu)) hra hus
          have htk := sepB_take [124] (L.map txt) i (txt u) (by rw [List.getElem?_map, hu]; rfl)
          have hl1 := sepB_pre [124] (by decide) L i
          have hl2 := txt_len u
          obtain ⟨A, hA⟩ : ∃ A, A = bs (txt u) := ⟨_, rfl⟩
          unfold GivesTx at c9
          rw [← hA] at c9
          obtain ⟨y0, y1, y2, y3, y4, y5, y6, y7⟩ := y
          obtain ⟨p0, p1, p2, p3, p4, p5⟩ := (hpl.under HB.out).six
          simp only at p0 p1 p2 p3 p4 p5
          unfold ReV.val at c9
          simp only at c9
          have HTK := Lib.hid htk
          have HSL : Hid ((sepB [124] ((L.map txt).take i)).length ≤ 4000000000000) := by unfold Hid; have := HKS.out; omega
          have HAL : Hid ((txt u).length ≤ 4000000000000) := by unfold Hid; omega
          have HAA := Lib.hid hA
          clear hpl hra hus htk hl1 hl2 hA hy hu hil
          by_cases hi0 : i = 0
          · have hi0z : ¬ (i : Int) > 0 := by omega
            have hTT : sepB [124] ((L.map txt).take i) ++ txt u = sepB [124] ((L.map txt).take (i + 1)) := by rw [HTK.out, if_pos hi0]; simp
            clear hi0
            obtain ⟨U, hU, sum1⟩ := add_is HS.out HAA.out (by have := HSL.out; have := HAL.out; simp; omega)
            rw [hTT] at hU
            have HU := Lib.hid hU
            clear hU hTT
            go_wp2_with fail
            ((with_reducible refine c9.mono ?_))
            rintro _ w3 ⟨rfl, hb3⟩
            have HB3 : Hid (Below w1.heap.size w1 w3) := HB.out.trans (hb3.mono HB.out.size)
            clear hb3 c9
            go_wp2
            go_roundg (n - (i + 1))
            case measure => omega
            case rel => exact ⟨i + 1, U, rfl, by go_num, by omega, Nat.le_refl _, HB3, HU.out⟩
          · have hi0z : (i : Int) > 0 := by omega
            obtain ⟨S0, hS0, sum0⟩ := add_is (A := ⟨#[124]⟩) (y := [124]) HS.out rfl (by have := HSL.out; simp; omega)
            have hTT : sepB [124] ((L.map txt).take i) ++ [124] ++ txt u = sepB [124] ((L.map txt).take (i + 1)) := by rw [HTK.out, if_neg hi0]
            clear hi0
            obtain ⟨U, hU, sum1⟩ := add_is hS0 HAA.out (by have := HSL.out; have := HAL.out; simp; omega)
            rw [hTT] at hU
            have HU := Lib.hid hU
            clear hU hTT hS0
            go_wp2_with fail
            ((with_reducible refine c9.mono ?_))
            rintro _ w3 ⟨rfl, hb3⟩
            have HB3 : Hid (Below w1.heap.size w1 w3) := HB.out.trans (hb3.mono HB.out.size)
            clear hb3 c9
            go_wp2
            go_roundg (n - (i + 1))
            case measure => omega
            case rel => exact ⟨i + 1, U, rfl, by go_num, by omega, Nat.le_refl _, HB3, HU.out⟩
        · have hltz : ¬ (i : Int) < (n : Int) := by omega
          have hSS : S = bs (sepB [124] (L.map txt)) := by
            have h := HS.out
            rw [List.take_of_length_le (by rw [List.length_map, ← HNU.out]; omega)] at h
            exact h
          have hl9 : (sepB [124] (L.map txt)).length ≤ 4000000000000 := by
            have h := sepB_pre [124] (by decide) L L.length
            rw [List.take_of_length_le (by rw [List.length_map]; exact Nat.le_refl _)] at h
            have := HKS.out
            omega
          obtain ⟨T1, hT1, sum1⟩ := add_is (S := ⟨#[123]⟩) (x := [123]) rfl hSS (by simp; omega)
          obtain ⟨T2, hT2, sum2⟩ := add_is (A := ⟨#[125]⟩) (y := [125]) hT1 rfl (by simp; omega)
          have HT2 := Lib.hid hT2
          clear hSS hT1 hT2 hl9
          go_wp2_with fail
          go_ret
          refine ⟨?_, HB1.out.trans (HB.out.mono HB1.out.size)⟩
          have e9 : T = bs (123 :: (sepB [124] (L.map txt) ++ [125])) := by rw [HT.out, if_neg HE.out.1, if_neg HE.out.2.1, if_neg HE.out.2.2.1, if_neg HE.out.2.2.2.1, if_neg HE.out.2.2.2.2]
          rw [e9, show (123 :: (sepB [124] (L.map txt) ++ [125]) : Tx) = [123] ++ sepB [124] (L.map txt) ++ [125] by simp, ← HT2.out]
          exact rfl

end Go.Proofs.YtchicecmoknkjabDoor
