/- What the laws of the grammar rest on, part 2: made by tools/merge5.py out of TOf TForm THas. No condition but those that each says. -/
import Derived.Test.YtpopgjgngbiofaaGreatDoorM1
set_option linter.unusedVariables false
set_option linter.unusedSimpArgs false
set_option maxRecDepth 100000
set_option maxHeartbeats 8000000
namespace Go.Proofs.YtpopgjgngbiofaaGreatDoor
open Go.RowKit
def inB (x : List Int) (k : Int) : Bool := x.any (· == k)
theorem any_yes {x : List Int} {i : Nat} {k : Int} (h : x[i]? = some k) : inB x k = true := by
 unfold inB
 rw [List.any_eq_true]
 exact ⟨k, List.mem_of_getElem? h, by simp⟩
theorem any_no {x : List Int} {n : Nat} {k : Int} (hn : x.length <= n) (h : ∀ (i : Nat) (c : Int), i < n -> x[i]? = some c -> c ≠ k) : inB x k = false := by
 unfold inB
 rw [List.any_eq_false]
 intro c hc
 obtain ⟨i, hi⟩ := List.getElem?_of_mem hc
 have := h i c (Nat.lt_of_lt_of_le (List.getElem?_eq_some_iff.1 hi).1 hn) hi
 simpa using this
theorem index_of {x : List Int} {v : Value} (k : Int) (w : World) (hv : RowAny w v x.length (icells x)) :
  Calls Tryz.prog 174 #[v, .int .i64 k] w fun e w' => ∃ i : Int, e = .returned (.int .i64 i) /\ w = w' /\ -1 <= i /\ decide (0 <= i) = inB x k := by
 obtain ⟨n, hn⟩ : ∃ n, n = x.length := ⟨_, rfl⟩
 rw [<- hn] at hv
 have HN := hh9 hn
 rcases hv with ⟨h0, a, cap, rfl⟩ | ⟨g, off, cap, rfl, h1, h2, h3, h4⟩
 ·have hx0 : x = [] := List.length_eq_zero_iff.1 (by omega)
  subst hx0
  clear hn h0
  go_enter Tryz.func174, Tryz.ntmps174
  go_wp2_with fail
  go_loop [8] (fun v => v = .int .i64 0) (fun v => 0)
  case atStart => rfl
  case round =>
   subst hrel
   go_wp2_with fail
   go_ret
   exact ⟨-1, rfl, rfl, by omega, by unfold inB; rfl⟩
 ·have H4 := hh9 h4
  unfold maxLen at h2
  clear hn h4
  go_enter Tryz.func174, Tryz.ntmps174
  go_wp2_with fail
  go_loop [8] (fun v => ∃ i : Nat, v = .int .i64 i /\ i <= n /\ ∀ (j : Nat) (c : Int), j < i -> x[j]? = some c -> c ≠ k) (fun v => n - (intOf v).toNat)
  case atStart => exact ⟨0, rfl, by omega, fun j c h => by omega⟩
  case round =>
   obtain ⟨i, rfl, hi, hall⟩ := hrel
   have HALL := hh9 hall
   clear hall
   by_cases hlt : i < n
   ·obtain ⟨Z, hZ⟩ : ∃ z, x[i]? = some z := ⟨_, List.getElem?_eq_getElem (by rw [<- HN.out]; exact hlt)⟩
    have HXI := hh9 hZ
    have c0 := H4.out i _ (icells_at4 hZ)
    clear hZ
    by_cases hf : k = Z
    ·have q : (k == Z) = true := by simpa using hf
     have HYES : Hid (inB x k = true) := any_yes (by rw [HXI.out, hf])
     clear hf
     go_wp2_with fail
     go_ret
     exact ⟨(i : Int), rfl, rfl, by omega, by rw [HYES.out]; simp⟩
    ·have q : (k == Z) = false := by simpa using hf
     have HNX : Hid (∀ (j : Nat) (c : Int), j < i + 1 -> x[j]? = some c -> c ≠ k) := fun j c hj hc => by
      by_cases g : j = i
      ·subst g
       rw [HXI.out] at hc
       rw [<- Option.some.inj hc]
       exact fun e => hf e.symm
      ·exact HALL.out j c (by omega) hc
     clear hf
     go_wp2_with fail
     go_round
     case rel => exact ⟨i + 1, by go_num, by omega, HNX.out⟩
     case measure => simp [intOf]; omega
   ·have hno : inB x k = false := any_no (n := n) (by rw [HN.out]; exact Nat.le_refl _) (fun j c h hc => HALL.out j c (by omega) hc)
    have HNO := hh9 hno
    clear hno
    go_wp2_with fail
    go_ret
    exact ⟨-1, rfl, rfl, by omega, by rw [HNO.out]; decide⟩
theorem contains_of {x : List Int} {v : Value} (k : Int) (w : World) (hv : RowAny w v x.length (icells x)) :
  Calls Tryz.prog 156 #[v, .int .i64 k] w (SaysB (inB x k) w) := by
 have HI := hh9 (index_of k w hv)
 clear hv
 go_enter Tryz.func156, Tryz.ntmps156
 go_wp2_with fail
 refine HI.out.mono ?_
 rintro e w' ⟨i, rfl, rfl, hi, hd⟩
 have HD := hh9 hd
 clear hd
 go_wp2_with fail
 go_ret
 exact ⟨by rw [<- HD.out]; exact rfl, rfl⟩
end Go.Proofs.YtpopgjgngbiofaaGreatDoor
namespace Go.Proofs.YtpopgjgngbiofaaGreatDoor
open Go.RowKit
theorem isOf_any {X : XV} {xs : List Int} {v : Value} (w : World) (hv : RowAny w v xs.length (icells xs)) (h1 : X.ns.oneCell' = true) (h2 : X.ks.oneCell' = true) :
  Calls Tryz.prog 134 #[X.val, v] w (GivesBool (inB xs X.kind) w) := by
 obtain ⟨k, tx, ns, lo, hi, ks⟩ := X
 have hb := (Below.refl w.heap.size w).alloc (Nat.le_refl _) (.cells #[.int .i64 k, .string tx, ns, .int .i64 lo, .int .i64 hi, ks] 27)
 have HV := hh9 (contains_of k _ (hv.below hb))
 have HB := hh9 hb
 clear hv hb
 show Calls Tryz.prog 134 #[.agg #[.int .i64 k, .string tx, ns, .int .i64 lo, .int .i64 hi, ks], v] w (GivesBool (inB xs k) w)
 go_enter Tryz.func134, Tryz.ntmps134
 go_wp2_with fail
 refine HV.out.mono ?_
 rintro e w' ⟨rfl, rfl⟩
 go_wp2_with fail
 go_ret
 exact ⟨rfl, HB.out⟩
end Go.Proofs.YtpopgjgngbiofaaGreatDoor
namespace Go.Proofs.YtpopgjgngbiofaaGreatDoor
open Go.RowKit
def formA (k : Int) (x ns : List Int) (lo hi : Int) (n : Nat) : Bool :=
 if k = 1 \/ k = 2 then decide (2 <= n)
 else if k = 3 then decide (n = 1) && cntB lo hi
 else if k = 4 then nameB x
 else if k = 5 then x.all foB
 else if k = 6 then decide (1 <= ns.length) && decide (ns.length <= 10000) && ns.all numB
 else if k = 7 then decide (ns.length = 2) && ns.all numB && decide (ns.getD 0 0 <= ns.getD 1 0)
 else false
def othB (k : Int) (x ns : List Int) (lo hi : Int) (n : Nat) : Bool :=
 (decide (k = 4 \/ k = 5) || x.isEmpty) && (decide (k = 6 \/ k = 7) || ns.isEmpty) && (decide (k = 3) || lo == 0) && (decide (k = 3) || hi == 0) && (decide (k = 1 \/ k = 2 \/ k = 3) || decide (n = 0))
theorem form_split (k : Int) (x ns : List Int) (lo hi : Int) (n : Nat) : formB k x ns lo hi n = (formA k x ns lo hi n && othB k x ns lo hi n) := by
 unfold formB formA othB
 by_cases k1 : k = 1
 ·subst k1
  rw [if_pos (by decide), if_pos (by decide)]
  simp
  cases x.isEmpty <;> cases ns.isEmpty <;> cases (lo == 0) <;> cases (hi == 0) <;> cases decide (2 <= n) <;> rfl
 by_cases k2 : k = 2
 ·subst k2
  rw [if_pos (by decide), if_pos (by decide)]
  simp
  cases x.isEmpty <;> cases ns.isEmpty <;> cases (lo == 0) <;> cases (hi == 0) <;> cases decide (2 <= n) <;> rfl
 have k12 : ¬ (k = 1 \/ k = 2) := by omega
 rw [if_neg k12, if_neg k12]
 by_cases k3 : k = 3
 ·subst k3
  rw [if_pos rfl, if_pos rfl]
  simp
  cases x.isEmpty <;> cases ns.isEmpty <;> cases decide (n = 1) <;> cases cntB lo hi <;> rfl
 rw [if_neg k3, if_neg k3]
 by_cases k4 : k = 4
 ·subst k4
  rw [if_pos rfl, if_pos rfl]
  simp
  cases ns.isEmpty <;> cases (lo == 0) <;> cases (hi == 0) <;> cases decide (n = 0) <;> cases nameB x <;> rfl
 rw [if_neg k4, if_neg k4]
 by_cases k5 : k = 5
 ·subst k5
  rw [if_pos rfl, if_pos rfl]
  simp only []
  cases ns.isEmpty <;> cases (lo == 0) <;> cases (hi == 0) <;> cases decide (n = 0) <;> cases x.all foB <;> rfl
 rw [if_neg k5, if_neg k5]
 by_cases k6 : k = 6
 ·subst k6
  rw [if_pos rfl, if_pos rfl]
  simp only []
  cases x.isEmpty <;> cases (lo == 0) <;> cases (hi == 0) <;> cases decide (n = 0) <;> cases ns.all numB <;> cases decide (1 <= ns.length) <;> cases decide (ns.length <= 10000) <;> rfl
 rw [if_neg k6, if_neg k6]
 by_cases k7 : k = 7
 ·subst k7
  rw [if_pos rfl, if_pos rfl]
  simp only []
  cases x.isEmpty <;> cases (lo == 0) <;> cases (hi == 0) <;> cases decide (n = 0) <;> cases ns.all numB <;> cases decide (ns.length = 2) <;> cases decide (ns.getD 0 0 <= ns.getD 1 0) <;> rfl
 rw [if_neg k7, if_neg k7]
 rfl
theorem RowAny.slice {W : World} {v : Value} {n : Nat} {xs : List Value} (h : RowAny W v n xs) : ∃ a cap, v = .slice a n cap /\ n <= 9223372036854775807 := by
 rcases h with ⟨h0, a, cap, hv⟩ | ⟨g, off, cap, hv, h1, h2, _⟩
 ·exact ⟨a, cap, by rw [hv, h0], by omega⟩
 ·unfold maxLen at h2
  exact ⟨_, cap, hv, by omega⟩
def xobj (k lo hi : Int) (s : ByteArray) (ns ks : Value) : Obj := .cells #[.int .i64 k, .string s, ns, .int .i64 lo, .int .i64 hi, ks] 27
theorem has_few {k : Int} (hk : k = 1 \/ k = 2) (s : ByteArray) (ns : Value) (lo hi : Int) (a : Option Addr) (n cap : Nat) (hn : n <= 9223372036854775807) (w : World) :
  Calls Tryz.prog 127 #[.agg #[.int .i64 k, .string s, ns, .int .i64 lo, .int .i64 hi, .slice a n cap]] w (GivesBool (decide (2 <= n)) w) := by
 have hb : Below w.heap.size w (w.alloc (xobj k lo hi s ns (.slice a n cap))) := (Below.refl _ _).alloc (Nat.le_refl _) _
 unfold xobj at hb
 have HB := hh9 hb
 clear hb
 rcases hk with rfl | rfl
 all_goals
  by_cases g : 2 <= n
  ·have q : decide ((2 : Int) <= (n : Int)) = true := decide_eq_true (by omega)
   have q2 : decide (2 <= n) = true := decide_eq_true g
   rw [q2]
   go_enter Tryz.func127, Tryz.ntmps127
   go_wp2_with fail
   go_ret
   exact ⟨rfl, HB.out⟩
  ·have q : decide ((2 : Int) <= (n : Int)) = false := decide_eq_false (by omega)
   have q2 : decide (2 <= n) = false := decide_eq_false g
   rw [q2]
   go_enter Tryz.func127, Tryz.ntmps127
   go_wp2_with fail
   go_ret
   exact ⟨rfl, HB.out⟩
theorem has_rep (s : ByteArray) (ns : Value) (lo hi : Int) (a : Option Addr) (n cap : Nat) (hn : n <= 9223372036854775807) (w : World) :
  Calls Tryz.prog 127 #[.agg #[.int .i64 3, .string s, ns, .int .i64 lo, .int .i64 hi, .slice a n cap]] w (GivesBool (decide (n = 1) && cntB lo hi) w) := by
 have hb : Below w.heap.size w (w.alloc (xobj 3 lo hi s ns (.slice a n cap))) := (Below.refl _ _).alloc (Nat.le_refl _) _
 unfold xobj at hb
 have HB := hh9 hb
 have HC := hh9 (fun W => cnt4_any lo hi W)
 clear hb
 by_cases g : n = 1
 ·subst g
  cases hc : cntB lo hi
  all_goals
   rw [hc] at HC
   clear hc
   go_enter Tryz.func127, Tryz.ntmps127
   go_wp2_with fail
   refine (HC.out _).mono ?_
   rintro e w' ⟨rfl, rfl⟩
   go_wp2_with fail
   go_ret
   exact ⟨rfl, HB.out⟩
 ·have q : ((n : Int) == 1) = false := by simp; omega
  have q1 : decide ((n : Int) = 1) = false := decide_eq_false (by omega)
  have q2 : decide (n = 1) = false := decide_eq_false g
  rw [q2]
  go_enter Tryz.func127, Tryz.ntmps127
  go_wp2_with fail
  go_ret
  exact ⟨rfl, HB.out⟩
theorem has_ref {x : List Int} (hx : ∀ c ∈ x, 0 <= c /\ c <= 255) (hl : x.length <= 9223372036854775807) (ns ks : Value) (lo hi : Int) (h1 : ns.oneCell' = true) (h2 : ks.oneCell' = true) (w : World) :
  Calls Tryz.prog 127 #[.agg #[.int .i64 4, .string (strOf x), ns, .int .i64 lo, .int .i64 hi, ks]] w (GivesBool (nameB x) w) := by
 have hb : Below w.heap.size w (w.alloc (xobj 4 lo hi (strOf x) ns ks)) := (Below.refl _ _).alloc (Nat.le_refl _) _
 unfold xobj at hb
 have HB := hh9 hb
 have HC := hh9 (fun W => name_text (x := x) W hx hl)
 clear hb hx
 cases hc : nameB x
 all_goals
  rw [hc] at HC
  clear hc
  go_enter Tryz.func127, Tryz.ntmps127
  go_wp2_with fail
  refine (HC.out _).mono ?_
  rintro e w' ⟨rfl, hb⟩
  have HB2 := hh9 (below_then HB.out hb)
  clear hb
  go_wp2_with fail
  go_ret
  exact ⟨rfl, HB2.out⟩
theorem has_fold {x : List Int} (hx : ∀ c ∈ x, 0 <= c /\ c <= 255) (hl : x.length <= 9223372036854775807) (ns ks : Value) (lo hi : Int) (h1 : ns.oneCell' = true) (h2 : ks.oneCell' = true) (w : World) :
  Calls Tryz.prog 127 #[.agg #[.int .i64 5, .string (strOf x), ns, .int .i64 lo, .int .i64 hi, ks]] w (GivesBool (x.all foB) w) := by
 have hb : Below w.heap.size w (w.alloc (xobj 5 lo hi (strOf x) ns ks)) := (Below.refl _ _).alloc (Nat.le_refl _) _
 obtain ⟨cap, hc1, hc2, kc0⟩ := conv_bytes (w.alloc (xobj 5 lo hi (strOf x) ns ks)) (strOf x) (by rw [strOf_size]; exact hl)
 have hrow0 := bytes_row hx (w.alloc (xobj 5 lo hi (strOf x) ns ks)) cap (by rw [<- strOf_size]; exact hc1) hc2
 rw [strOf_size] at kc0
 have e : (w.alloc (xobj 5 lo hi (strOf x) ns ks)).heap.size = w.heap.size + 1 := by simp
 rw [e] at kc0 hrow0
 have kc : (convert 9 40 (.string (strOf x))).run Tryz.prog (w.alloc (xobj 5 lo hi (strOf x) ns ks)) = .ok (.slice (some ⟨w.heap.size + 1, 0, none⟩) x.length cap) (((w.alloc (xobj 5 lo hi (strOf x) ns ks)).alloc (.cells (bytesRow (strOf x) cap) 5 ((bytesRow (strOf x) cap).size, (bytesRow (strOf x) cap).size + 1))).drew) := kc0
 have hrow : RowAny (((w.alloc (xobj 5 lo hi (strOf x) ns ks)).alloc (.cells (bytesRow (strOf x) cap) 5 ((bytesRow (strOf x) cap).size, (bytesRow (strOf x) cap).size + 1))).drew) (.slice (some ⟨w.heap.size + 1, 0, none⟩) x.length cap) x.length (bcells x) := hrow0
 have HB : Hid (Below w.heap.size w (((w.alloc (xobj 5 lo hi (strOf x) ns ks)).alloc (.cells (bytesRow (strOf x) cap) 5 ((bytesRow (strOf x) cap).size, (bytesRow (strOf x) cap).size + 1))).drew)) := below_drawn (hb.alloc hb.size _) 1
 unfold xobj at HB kc hrow
 clear kc0 hrow0 e
 obtain ⟨S, hS⟩ : ∃ S, S = strOf x := ⟨_, rfl⟩
 rw [<- hS] at hrow kc HB ⊢
 have HROW := hh9 (all_fold hx hrow)
 obtain ⟨n, hn⟩ : ∃ n, n = x.length := ⟨_, rfl⟩
 rw [<- hn] at kc HROW
 clear hx hS hn hrow hc1 hc2 hb
 cases hc : x.all foB
 all_goals
  rw [hc] at HROW
  clear hc
  go_enter Tryz.func127, Tryz.ntmps127
  go_wp2_with fail
  refine HROW.out.mono ?_
  rintro e w' ⟨rfl, hb⟩
  have HB2 := hh9 (below_then HB.out hb)
  clear hb
  go_wp2_with fail
  go_ret
  exact ⟨rfl, HB2.out⟩
theorem has_nums {nums : List Int} {ns : Value} (s : ByteArray) (ks : Value) (lo hi : Int) (w : World) (hv : RowAny w ns nums.length (icells nums)) (h2 : ks.oneCell' = true) :
  Calls Tryz.prog 127 #[.agg #[.int .i64 6, .string s, ns, .int .i64 lo, .int .i64 hi, ks]] w (GivesBool (decide (1 <= nums.length) && decide (nums.length <= 10000) && nums.all numB) w) := by
 obtain ⟨a, cap, hv0, hn0⟩ := hv.slice
 subst hv0
 have hb : Below w.heap.size w (w.alloc (xobj 6 lo hi s (.slice a nums.length cap) ks)) := (Below.refl _ _).alloc (Nat.le_refl _) _
 have HC := hh9 (all_nums (hv.below hb))
 unfold xobj at hb HC
 have HB := hh9 hb
 obtain ⟨n, hn⟩ : ∃ n, n = nums.length := ⟨_, rfl⟩
 rw [<- hn] at hv HC HB hn0 ⊢
 clear hb hv hn
 by_cases g : 1 <= n
 ·have q : decide ((1 : Int) <= (n : Int)) = true := decide_eq_true (by omega)
  have q2 : decide (1 <= n) = true := decide_eq_true g
  by_cases g2 : n <= 10000
  ·have q3 : decide ((n : Int) <= 10000) = true := decide_eq_true (by omega)
   have q4 : decide (n <= 10000) = true := decide_eq_true g2
   rw [q2, q4]
   cases hc : nums.all numB
   all_goals
    rw [hc] at HC
    clear hc
    go_enter Tryz.func127, Tryz.ntmps127
    go_wp2_with fail
    refine HC.out.mono ?_
    rintro e w' ⟨rfl, hb⟩
    have HB2 := hh9 (below_then HB.out hb)
    clear hb
    go_wp2_with fail
    go_ret
    exact ⟨rfl, HB2.out⟩
  ·have q3 : decide ((n : Int) <= 10000) = false := decide_eq_false (by omega)
   have q4 : decide (n <= 10000) = false := decide_eq_false g2
   rw [q2, q4]
   go_enter Tryz.func127, Tryz.ntmps127
   go_wp2_with fail
   go_ret
   exact ⟨rfl, HB.out⟩
 ·have q : decide ((1 : Int) <= (n : Int)) = false := decide_eq_false (by omega)
  have q2 : decide (1 <= n) = false := decide_eq_false g
  rw [q2]
  go_enter Tryz.func127, Tryz.ntmps127
  go_wp2_with fail
  go_ret
  exact ⟨rfl, HB.out⟩
end Go.Proofs.YtpopgjgngbiofaaGreatDoor
