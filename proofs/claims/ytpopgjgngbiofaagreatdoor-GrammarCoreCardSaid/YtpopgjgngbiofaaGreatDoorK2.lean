/- What the laws of the grammar rest on, more of it, part 2: made by tools/merge5.py out of GCoreW GReach5. No condition but those that each says. -/
import Derived.Test.YtpopgjgngbiofaaGreatDoorM0
import Derived.Test.YtpopgjgngbiofaaGreatDoorM1
import Derived.Test.YtpopgjgngbiofaaGreatDoorM2
import Derived.Test.YtpopgjgngbiofaaGreatDoorM3
import Derived.Test.YtpopgjgngbiofaaGreatDoorM4
import Derived.Test.YtpopgjgngbiofaaGreatDoorM5
import Derived.Test.YtpopgjgngbiofaaGreatDoorM6
import Derived.Test.YtpopgjgngbiofaaGreatDoorM7
import Derived.Test.YtpopgjgngbiofaaGreatDoorM8
import Derived.Test.YtpopgjgngbiofaaGreatDoorM9
import Derived.Test.YtpopgjgngbiofaaGreatDoorM10
import Derived.Test.YtpopgjgngbiofaaGreatDoorM11
import Derived.Test.YtpopgjgngbiofaaGreatDoorM12
import Derived.Test.YtpopgjgngbiofaaGreatDoorM13
import Derived.Test.YtpopgjgngbiofaaGreatDoorM14
import Derived.Test.YtpopgjgngbiofaaGreatDoorM15
import Derived.Test.YtpopgjgngbiofaaGreatDoorM16
import Derived.Test.YtpopgjgngbiofaaGreatDoorM17
import Derived.Test.YtpopgjgngbiofaaGreatDoorM18
import Derived.Test.YtpopgjgngbiofaaGreatDoorM19
import Derived.Test.YtpopgjgngbiofaaGreatDoorM20
import Derived.Test.YtpopgjgngbiofaaGreatDoorM21
import Derived.Test.YtpopgjgngbiofaaGreatDoorM22
import Derived.Test.YtpopgjgngbiofaaGreatDoorM23
import Derived.Test.YtpopgjgngbiofaaGreatDoorM24
import Derived.Test.YtpopgjgngbiofaaGreatDoorM25
import Derived.Test.YtpopgjgngbiofaaGreatDoorM26
import Derived.Test.YtpopgjgngbiofaaGreatDoorM27
import Derived.Test.YtpopgjgngbiofaaGreatDoorM28
import Derived.Test.YtpopgjgngbiofaaGreatDoorM29
import Derived.Test.YtpopgjgngbiofaaGreatDoorK0
import Derived.Test.YtpopgjgngbiofaaGreatDoorK1
import Derived.Orders
set_option linter.unusedVariables false
set_option linter.unusedSimpArgs false
set_option maxRecDepth 100000
set_option maxHeartbeats 8000000
namespace Go.Proofs.YtpopgjgngbiofaaGreatDoor
open Go.RowKit
theorem core5_any {w : World} : Calls Tryz.prog 10 #[] w (fun e w' => ∃ v ys, e = .returned v /\ RulesX w' v ys coreM /\ Below w.heap.size w w') := by
 have hdig : TextOk nDigit := by unfold TextOk; decide
 have ed : (⟨#[100, 105, 103, 105, 116]⟩ : ByteArray) = strOf nDigit := by kernel_rfl
 have HREF := hh9 (fun (W : World) (S : ByteArray) (x : List Int) (hS : S = strOf x) (hx : TextOk x) => ref5_any (w := W) hS hx)
 have HED := hh9 ed
 have HDIG := hh9 hdig
 clear ed hdig
 go_enter Tryz.func10, Tryz.ntmps10
 go_wp2_with fail
 refine (HREF.out w _ _ HED.out HDIG.out).mono ?_
 rintro e w1 ⟨k, tx, lo, hi, a1, n1, c1, a2, n2, c2, rfl, hE1, hb1⟩
 have HB1 := hh9 hb1
 have HE1 := hh9 hE1
 have hrow := row_of_block (base := w.heap.size) (size := 6) (n := 1) hb1.size (heap_alloc_new w1 (.cells #[.int .i64 k, .string tx, .slice a1 n1 c1, .int .i64 lo, .int .i64 hi, .slice a2 n2 c2] 27)) (by unfold maxLen; omega) rfl
 have HROW0 := hh9 hrow
 have HBA : Hid (Below w1.heap.size w1 (w1.alloc (.cells #[.int .i64 k, .string tx, .slice a1 n1 c1, .int .i64 lo, .int .i64 hi, .slice a2 n2 c2] 27))) := (Below.refl _ _).alloc (Nat.le_refl _) _
 clear hb1 hE1 hrow
 go_wp2_with fail
 go_loopw [1, 2] (fun s v wr => ∃ (i : Nat) (sa : Option Addr) (sc : Nat), s = .slice sa (i + 1) sc /\ v = .int .i64 (97 + i) /\ i <= 6 /\ Hid (wr.ownsRow w.heap.size 27 6 (.slice sa (i + 1) sc) (i + 1) ((hexX ⟨k, tx, .slice a1 n1 c1, lo, hi, .slice a2 n2 c2⟩ i).flatMap XV.cells)) /\ Hid (Below w.heap.size w wr /\ ETP wr (fun _ => True) ⟨k, tx, .slice a1 n1 c1, lo, hi, .slice a2 n2 c2⟩ (rfT nDigit))) (fun _ v _ => (103 - intOf v).toNat)
 case atStart => exact ⟨0, _, _, rfl, rfl, by omega, HROW0, below_then HB1.out HBA.out, HE1.out.under HBA.out⟩
 case round =>
  obtain ⟨i, sa, sc, rfl, rfl, hi6, HROW, HBE⟩ := hrel
  by_cases hlt : i < 6
  ·have q1 : decide ((97 : Int) + (i : Int) < 103) = true := decide_eq_true (by omega)
   have kc := fun (W : World) => conv_one W (97 + (i : Int)) (by omega) (by omega)
   have hb3 : Below wr.heap.size wr ((wr.alloc (.cells #[.int .u8 (97 + (i : Int))] 5)).alloc (.cells #[.int .i64 5, .string (strOf [97 + (i : Int)]), .slice none 0 0, .int .i64 0, .int .i64 0, .slice none 0 0] 27)) := ((Below.refl _ _).alloc (Nat.le_refl _) _).alloc (by simp) _
   have HB3 := hh9 hb3
   have HROWB := hh9 (show ((wr.alloc (.cells #[.int .u8 (97 + (i : Int))] 5)).alloc (.cells #[.int .i64 5, .string (strOf [97 + (i : Int)]), .slice none 0 0, .int .i64 0, .int .i64 0, .slice none 0 0] 27)).ownsRow w.heap.size 27 6 (.slice sa (i + 1) sc) (hexX ⟨k, tx, .slice a1 n1 c1, lo, hi, .slice a2 n2 c2⟩ i).length ((hexX ⟨k, tx, .slice a1 n1 c1, lo, hi, .slice a2 n2 c2⟩ i).flatMap XV.cells) by rw [hexX_len]; exact own_below HROW.out hb3)
   have hx := heap_alloc_new (wr.alloc (.cells #[.int .u8 (97 + (i : Int))] 5)) (.cells #[.int .i64 5, .string (strOf [97 + (i : Int)]), .slice none 0 0, .int .i64 0, .int .i64 0, .slice none 0 0] 27)
   rw [World.size_alloc] at hx
   have HRA := hh9 (row_boxed (X := foldX (97 + (i : Int))) hx)
   have hwr := HBE.out.1.size
   have hs3 : ((wr.alloc (.cells #[.int .u8 (97 + (i : Int))] 5)).alloc (.cells #[.int .i64 5, .string (strOf [97 + (i : Int)]), .slice none 0 0, .int .i64 0, .int .i64 0, .slice none 0 0] 27)).heap.size = wr.heap.size + 2 := by simp
   have HONE : Hid (∀ u ∈ [foldX (97 + (i : Int))].flatMap XV.cells, u.oneCell' = true) := fun u hu => by
    simp [XV.cells, foldX] at hu
    rcases hu with rfl | rfl | rfl | rfl | rfl | rfl <;> rfl
   have HLE : Hid ((hexX ⟨k, tx, .slice a1 n1 c1, lo, hi, .slice a2 n2 c2⟩ i).length + [foldX (97 + (i : Int))].length <= 100000000) := by unfold Hid; rw [hexX_len]; simp; omega
   have HS3 := hh9 hs3
   have hw8 : wrap64 (97 + (i : Int)) = 97 + i := by unfold wrap64; omega
   have hw9 : IntKind.u8.wrap (97 + (i : Int)) = 97 + i := by simp [IntKind.wrap, IntKind.signed, IntKind.bits]; omega
   clear hb3 hx hs3
   go_wp2_with (at_builtin; go_loud (refine push_exprs rfl _ _ rfl w.heap.size _ _ (hexX ⟨k, tx, .slice a1 n1 c1, lo, hi, .slice a2 n2 c2⟩ i) [foldX (97 + (i : Int))] rfl rfl HROWB.out HRA.out (by simp) HONE.out HLE.out (by rw [HS3.out]; omega) ?_); intro v4 w4 hown4 hgrow4 hat4; have HOWN4 := hh9 hown4; have HGROW4 : Hid (World.grownBy _ w4 (Value.ownBlock (.slice sa (i + 1) sc))) := hgrow4; clear hown4 hgrow4 hat4)
   have h4 : w4.ownsRow w.heap.size 27 6 v4 (i + 1 + 1) ((hexX ⟨k, tx, .slice a1 n1 c1, lo, hi, .slice a2 n2 c2⟩ (i + 1)).flatMap XV.cells) := by
    have h := HOWN4.out
    rw [<- hexX_push, hexX_len] at h
    exact h
   obtain ⟨a4, c4, rfl⟩ := own_slice5 h4
   have hob := own_le HROWB.out
   refine ⟨⟨i + 1, a4, c4, rfl, by go_num, by omega, h4, ((HBE.out.1.trans (HB3.out.mono hwr)).grown HGROW4.out (by rw [HS3.out]; omega) (fun b e => by have := hob b e; omega)), rf_any HBE.out.2⟩, ?_⟩
   simp [intOf]
   omega
  ·obtain rfl : i = 6 := by omega
   have q1 : decide ((97 : Int) + ((6 : Nat) : Int) < 103) = false := by decide
   have HK := hh9 (hex_kids (by omega) HBE.out.2 HROW.out)
   go_wp2_with fail
   have HEW := hh9 (show (⟨#[119, 115, 112]⟩ : ByteArray) = strOf nWsp by kernel_rfl)
   have HEC := hh9 (show (⟨#[99, 114, 108, 102]⟩ : ByteArray) = strOf nCrlf by kernel_rfl)
   have HTW : Hid (TextOk nWsp) := (show TextOk nWsp by unfold TextOk; decide)
   have HTC : Hid (TextOk nCrlf) := (show TextOk nCrlf by unfold TextOk; decide)
   refine (HREF.out _ _ _ HEW.out HTW.out).mono ?_
   rintro e w5 ⟨k5, t5, l5, h5, a5, b5, c5, d5, e5, f5, rfl, hE5, hb5⟩
   have HB5 := hh9 hb5
   have HE5 := hh9 hE5
   clear hb5 hE5
   go_wp2_with fail
   refine (HREF.out _ _ _ HEC.out HTC.out).mono ?_
   rintro e w6 ⟨k6, t6, l6, h6, p1, p2, p3, p4, p5, p6, rfl, hE6, hb6⟩
   have HB6 := hh9 hb6
   have HE6 := hh9 hE6
   clear hb6 hE6
   go_wp2_with fail
   refine (HREF.out _ _ _ HEW.out HTW.out).mono ?_
   rintro e w7 ⟨k7, t7, l7, h7, r1, r2, r3, r4, r5, r6, rfl, hE7, hb7⟩
   have HB7 := hh9 hb7
   have HE7 := hh9 hE7
   clear hb7 hE7
   have HKA := hh9 (kids_two w7 ⟨k6, t6, .slice p1 p2 p3, l6, h6, .slice p4 p5 p6⟩ ⟨k7, t7, .slice r1 r2 r3, l7, h7, .slice r4 r5 r6⟩ ((HE6.out).under HB7.out) HE7.out)
   have hkb := (kids_two (w7.alloc (.cells (two5 ⟨k6, t6, .slice p1 p2 p3, l6, h6, .slice p4 p5 p6⟩ ⟨k7, t7, .slice r1 r2 r3, l7, h7, .slice r4 r5 r6⟩) 27)) ⟨k5, t5, .slice a5 b5 c5, l5, h5, .slice d5 e5 f5⟩ _ (((HE5.out.under HB6.out).under HB7.out).under ((Below.refl _ _).alloc (Nat.le_refl _) _)) (HKA.out.tree 2 0 0))
   rw [World.size_alloc] at hkb
   simp only [two5] at hkb
   have HKB := hh9 hkb
   clear hkb
   go_wp2_with fail
   have HRES := fun (W : World) => hh9 (res_new W)
   refine (ways5_any HKB.out).mono ?_
   rintro e w8 ⟨k8, t8, l8, h8, x1, x2, x3, x4, x5, x6, rfl, hE8, hb8⟩
   have HB8 := hh9 hb8
   have HE8 := hh9 hE8
   clear hb8 hE8
   go_wp2_with (refine store_res rfl _ _ rfl w8.heap.size ⟨k8, t8, .slice x1 x2 x3, l8, h8, .slice x4 x5 x6⟩ rfl rfl (HRES w8).out rfl rfl ?_)
   have hkeep : Below w8.heap.size w8 ((w8.alloc (.cells #[.int .i64 0, .string ⟨#[]⟩, .slice none 0 0, .int .i64 0, .int .i64 0, .slice none 0 0] 27)).setRow w8.heap.size (XV.arr ⟨k8, t8, .slice x1 x2 x3, l8, h8, .slice x4 x5 x6⟩)) := below_res (Nat.le_refl _) ((Below.refl _ _).alloc (Nat.le_refl _) _) _
   have hbw : Below wr.heap.size wr w8 := below_then (below_then (below_then (below_then HB5.out HB6.out) HB7.out) (((Below.refl w7.heap.size w7).alloc (Nat.le_refl _) _).alloc (by simp) _)) HB8.out
   have hV : (SP.k [rfT nDigit, foT [97], foT [98], foT [99], foT [100], foT [101], foT [102]]).at ((w8.alloc (.cells #[.int .i64 0, .string ⟨#[]⟩, .slice none 0 0, .int .i64 0, .int .i64 0, .slice none 0 0] 27)).setRow w8.heap.size (XV.arr ⟨k8, t8, .slice x1 x2 x3, l8, h8, .slice x4 x5 x6⟩)) (.slice sa 7 sc) := ⟨sa, sc, _, rfl, (HK.out.under hbw).under hkeep⟩
   have hg8 := res_row (HRES w8).out (XV.arr ⟨k8, t8, .slice x1 x2 x3, l8, h8, .slice x4 x5 x6⟩)
   have HQ := hh9 (show Below w.heap.size w w8 from below_then HBE.out.1 hbw)
   refine core_region (V := .slice sa 7 sc) (g := w8.heap.size) (by kernel_rfl) rfl rfl rfl hV hg8 (HE8.out.under hkeep) ?_
   intro tm w9 v ys hv hr hb
   have hres : (results Tryz.f10 tm).run Tryz.prog w9 = .ok v w9 := by
    have hf : Tryz.f10.results = #[.tmp 0] := by kernel_rfl
    subst hv
    simp [results, hf]
   refine (by assumption : ∀ (a : Act) (w : World), Code.wp Tryz.prog Code.ret _ a w -> _) _ _ ?_
   have hend : ∃ v' ys, Ending.returned v = .returned v' /\ RulesX w9 v' ys coreM /\ Below w.heap.size w w9 := ⟨v, ys, rfl, hr, below_then HQ.out (below_then hkeep hb)⟩
   have h := bodyPost_ret_by (P := Tryz.prog) (fn := Tryz.f10) (R := fun e w' => ∃ v ys, e = .returned v /\ RulesX w' v ys coreM /\ Below w.heap.size w w') (a := ⟨tm, []⟩) hres rfl hend
   exact wp_ret h
end Go.Proofs.YtpopgjgngbiofaaGreatDoor
namespace Go.Proofs.YtpopgjgngbiofaaGreatDoor
open Go.RowKit
theorem push_text {w : World} {ops : Array Oper} {rest : List Oper} {o : Oper} {a : Act} {Q : Exit -> Act -> World -> Prop} (hgd : o.guard = none) (sx xx : Operand)
  (ho : o.op = .call { callee := .builtin .append, args := #[sx, xx], argTypes := #[34, 34] }) (base g cap : Nat) (v : Value) (L : List (List Int)) (x : List Int) (hs : a.eval sx = v) (hx : a.eval xx = .slice (some ⟨g, 0, none⟩) 1 cap)
  (h : w.ownsRow base 9 1 v L.length (scells L)) (h2 : w.cell? ⟨g, 0, none⟩ = some (.string (strOf x))) (hle : L.length <= 100000000) (hbase : base <= w.heap.size)
  (K : ∀ v' w', w'.ownsRow base 9 1 v' (L ++ [x]).length (scells (L ++ [x])) -> w.grownBy w' v.ownBlock -> (v'.ownBlock = v.ownBlock \/ v'.ownBlock = some w.heap.size) -> wpList Tryz.prog ops Q rest (a.put o.dst v') w') : wpList Tryz.prog ops Q (o :: rest) a w := by
 obtain ⟨i0, hi0, hz0, hz1, hz2⟩ := info_parts infoString
 refine wpList_append_own_at _ hgd sx xx 34 ho base 9 i0 _ 1 16 Tryz.underlying34 hi0 hz0 hz1 hz2 rfl (by decide) v L.length (scells L) hs h ⟨g, 0, none⟩ 1 cap (scells [x]) hx (by rw [scells_len]; rfl) (fun j u hj => ?_) ?_ (by unfold maxLen; omega) (by omega) hbase ?_
 ·cases j with
  | zero =>
   simp [scells] at hj
   subst hj
   simpa [Addr.add] using h2
  | succ j => simp [scells] at hj
 ·intro u hu
  unfold scells at hu
  rw [List.mem_map] at hu
  obtain ⟨x, _, rfl⟩ := hu
  rfl
 ·intro v' w' hown hgrow _ hat
  have e : scells (L ++ [x]) = scells L ++ scells [x] := by simp [scells]
  exact K v' w' (by rw [List.length_append, e]; exact hown) hgrow hat
def NKeep (W : World) (a : Option Addr) (ns : List (List Int)) (v : Value) : Prop := 0 < ns.length -> ∃ gN, a = some ⟨gN, 0, none⟩ /\ gN < W.heap.size /\ v.ownBlock ≠ some gN /\ ∀ (q : Nat) (u : Value), (scells ns)[q]? = some u -> W.cell? ⟨gN, q, none⟩ = some u
theorem NKeep.below {W W' : World} {a : Option Addr} {ns : List (List Int)} {v : Value} (h : NKeep W a ns v) (hb : Below W.heap.size W W') : NKeep W' a ns v := fun h0 => by
 obtain ⟨g, e, h1, h2, h3⟩ := h h0
 exact ⟨g, e, Nat.lt_of_lt_of_le h1 hb.size, h2, fun q u hq => (hb.cell (p := ⟨g, q, none⟩) h1).trans (h3 q u hq)⟩
theorem NKeep.push {W W' : World} {a : Option Addr} {ns : List (List Int)} {v v' : Value} (h : NKeep W a ns v) (hg : W.grownBy W' v.ownBlock) (hat : v'.ownBlock = v.ownBlock \/ v'.ownBlock = some W.heap.size) : NKeep W' a ns v' := fun h0 => by
 obtain ⟨g, e, h1, h2, h3⟩ := h h0
 refine ⟨g, e, Nat.lt_of_lt_of_le h1 hg.size, fun e2 => ?_, fun q u hq => (World.cell?_of_block (a := ⟨g, q, none⟩) (hg.block g h1 (Ne.symm h2))).trans (h3 q u hq)⟩
 rcases hat with e3 | e3
 ·exact h2 (e3.symm.trans e2)
 ·rw [e3] at e2
  have := Option.some.inj e2
  omega
theorem NKeep.start {W W' : World} {base k : Nat} {nv v : Value} {ns : List (List Int)} {xs : List Value} (hr : W'.ownsRow W.heap.size 9 1 nv ns.length (scells ns)) (hv : W.ownsRow base 9 1 v k xs) : ∃ a c, nv = .slice a ns.length c /\ NKeep W' a ns v := by
 rcases row_forms hr with ⟨rfl, h0⟩ | ⟨g, cap, rfl⟩
 ·exact ⟨none, 0, by rw [h0], fun h => by omega⟩
 ·obtain ⟨h1, _, _, h4⟩ := row_base hr
  refine ⟨_, _, rfl, fun _ => ⟨g, rfl, h4, fun e => ?_, fun q u hq => by simpa using row_cell hr hq⟩⟩
  obtain ⟨cur, hc⟩ := own_some hv e
  have := (Array.getElem?_eq_some_iff.1 hc).1
  omega
structure RI (w : World) (g : List GR) (wr : World) (s : Value) (out : List (List Int)) : Prop where
 row : wr.ownsRow w.heap.size 9 1 s out.length (scells out)
 bel : Below w.heap.size w wr
 ok : ∀ y ∈ out, TextOk y
 few : out.length + lacks (universe5 g) out <= 1000001
theorem RI.below {w wr W : World} {g : List GR} {s : Value} {out : List (List Int)} (h : RI w g wr s out) (hb : Below wr.heap.size wr W) : RI w g W s out := ⟨own_below h.row hb, below_then h.bel hb, h.ok, h.few⟩
theorem RI.len {w wr : World} {g : List GR} {s : Value} {out : List (List Int)} (h : RI w g wr s out) : out.length <= 1000001 := by have := h.few; omega
theorem lacks_push {U out : List (List Int)} {x : List Int} (hU : x ∈ U) (hx : x ∉ out) : (out ++ [x]).length + lacks U (out ++ [x]) <= out.length + lacks U out := by
 have h := addU_bound U [x] out (fun y hy => by simp at hy; subst hy; exact hU)
 simpa [addU, if_neg hx] using h
theorem addU_take {ns out : List (List Int)} {j : Nat} {x : List Int} (h : ns[j]? = some x) : addU out (ns.take (j + 1)) = if x ∈ addU out (ns.take j) then addU out (ns.take j) else addU out (ns.take j) ++ [x] := by
 rw [List.take_add_one, h, Option.toList_some, addU_append]
 rfl
theorem had_step {cur : List (List Int)} {m : Nat} {x y : List Int} (h : cur[m]? = some y) : decide (x ∈ cur.take (m + 1)) = (decide (x ∈ cur.take m) || decide (y = x)) := by
 rw [List.take_add_one, h, Option.toList_some]
 rw [Bool.eq_iff_iff]
 simp only [List.mem_append, List.mem_singleton, decide_eq_true_eq, Bool.or_eq_true]
 constructor
 ·rintro (h | h)
  ·exact .inl h
  ·exact .inr h.symm
 ·rintro (h | h)
  ·exact .inl h
  ·exact .inr h.symm
theorem ETree.named {W : World} {X : XV} {t : Tree} (h : ETree W X t) : ∀ y ∈ namesM t, TextOk y := by
 induction h with
 | @mk k lo hi ns ks tx nums kids vs h0 hl0 h1 h2 h3 h4 ih =>
  intro y hy
  rw [namesM_mk] at hy
  rcases List.mem_append.1 hy with hy | hy
  ·split at hy
   ·simp at hy
    subst hy
    exact ⟨h0, hl0⟩
   ·cases hy
  ·obtain ⟨l, hl, hy⟩ := List.mem_flatten.1 hy
   obtain ⟨t, ht, rfl⟩ := List.mem_map.1 hl
   obtain ⟨i, hi⟩ := List.getElem?_of_mem ht
   have hlt := (List.getElem?_eq_some_iff.1 hi).1
   exact ih i (vs[i]'(by rw [h3]; exact hlt)) t (List.getElem?_eq_getElem _) hi y hy
theorem reach5_any {w : World} {v : Value} {ys : List RV} {g : List GR} {x : List Int} (h : RulesE w v ys g) (hx : TextOk x) (hg6 : g.length <= 1000000) (hsm : ∀ r ∈ g, (namesM r.expr).length <= 1000000) (hun : (universe5 g).length <= 1000000) :
  Calls Tryz.prog 18 #[v, .string (strOf x)] w (GivesReach g x w) := by
 obtain ⟨va, vc, rfl, hvc, hvn, hrow⟩ := h.1.open5
 obtain ⟨N, hN⟩ : ∃ N, N = g.length := ⟨_, rfl⟩
 have HF := hh9 (fun (W : World) (y : List Int) (hb : Below w.heap.size w W) (hy : TextOk y) => (by rw [hN]; exact find5_any (h.below hb) hy : Calls Tryz.prog 15 #[.slice va N vc, .string (strOf y)] W (SaysN (findI g y) W)))
 rw [<- hN] at hrow hvc hvn
 have HN := hh9 hN
 rw [<- hN]
 have HROW := hh9 hrow
 have H2 := hh9 h.2.1
 have H3 := hh9 h.2.2
 have HX := hh9 hx
 have HSM := hh9 hsm
 have HUN := hh9 hun
 obtain ⟨S, hS⟩ : ∃ S, S = strOf x := ⟨_, rfl⟩
 have HS := hh9 hS
 rw [<- hS]
 have HF0 := hh9 (HF.out w x (Below.refl _ _) hx)
 rw [<- hS] at HF0
 clear h hx hsm hun hS hrow hN
 cases hf : findM g x with
 | none =>
  rw [findI_none hf] at HF0
  have HNO := hh9 hf
  clear hf
  go_enter Tryz.func18, Tryz.ntmps18
  go_wp2_with fail
  refine HF0.out.mono ?_
  rintro e w1 ⟨rfl, hb1⟩
  have HB1 := hh9 hb1
  clear hb1
  go_wp2_with fail
  go_ret
  exact ⟨_, [], rfl, .inl ⟨HNO.out, rfl⟩, World.ownsRow_nil _ _ _ _, (fun y hy => by cases hy), HB1.out⟩
 | some j0 =>
  rw [findI_some hf] at HF0
  have HNO := hh9 (show findM g x ≠ none by rw [hf]; simp)
  have q0 : decide ((j0 : Int) < 0) = false := decide_eq_false (by omega)
  clear hf
  obtain ⟨nt, R, hRe⟩ := Reaches.is g ([x].length + lacks (universe5 g) [x]) 0 [x] (by omega)
  have HRE := hh9 hRe
  have HFEW : Hid ([x].length + lacks (universe5 g) [x] <= 1000001) := by
   have h1 := List.length_filter_le (fun y => decide (y ∉ [x])) (universe5 g)
   have h2 := HUN.out
   unfold Hid lacks
   simp only [List.length_cons, List.length_nil]
   omega
  clear hRe
  go_enter Tryz.func18, Tryz.ntmps18
  go_wp2_with fail
  refine HF0.out.mono ?_
  rintro e w1 ⟨rfl, hb1⟩
  have hrow1 := row_of_block (base := w.heap.size) (size := 1) (n := 1) hb1.size (heap_alloc_new w1 (.cells #[.string S] 9)) (by unfold maxLen; omega) rfl
  have HRI : Hid (RI w g (w1.alloc (.cells #[.string S] 9)) (.slice (some ⟨w1.heap.size, 0, none⟩) 1 1) [x]) := ⟨by rw [HS.out] at hrow1 ⊢; exact hrow1, hb1.alloc hb1.size _, (fun y hy => by simp at hy; subst hy; exact HX.out), HFEW.out⟩
  clear hb1 hrow1
  go_wp2_with fail
  go_loopw [5, 6] (fun s v wr => ∃ (i nl L og oc : Nat) (out : List (List Int)), s = .slice (some ⟨og, 0, none⟩) L oc /\ v = .int .i64 i /\ nl + i = nt /\ i <= L /\ L <= 1000001 /\ Hid (out.length = L) /\ Hid (Reaches g nl i out R) /\ Hid (RI w g wr (.slice (some ⟨og, 0, none⟩) L oc) out)) (fun _ v _ => nt - (intOf v).toNat)
  case atStart => exact ⟨0, nt, 1, _, _, [x], rfl, rfl, by omega, by omega, by omega, rfl, HRE, HRI⟩
  case round =>
   obtain ⟨i, nl, L, og, oc, out, rfl, rfl, hnl, hiL, hL6, HL, HRX, HRI1⟩ := hrel
   by_cases hlt : i < L
   ·obtain ⟨xi, hxi⟩ : ∃ y, out[i]? = some y := ⟨_, List.getElem?_eq_getElem (by rw [HL.out]; exact hlt)⟩
    obtain ⟨n', hn', hRX⟩ := HRX.out.at hxi
    subst hn'
    have hxo := HRI1.out.ok xi (List.mem_of_getElem? hxi)
    have p0 : wr.cell? ⟨og, i, none⟩ = some (.string (strOf xi)) := by
     have hr := HRI1.out.row
     rw [HL.out] at hr
     have h := row_cell hr (j := i) (u := .string (strOf xi)) (by unfold scells; rw [List.getElem?_map, hxi]; rfl)
     simpa using h
    have hF1 := HF.out wr xi HRI1.out.bel hxo
    obtain ⟨Si, hSi⟩ : ∃ Si, Si = strOf xi := ⟨_, rfl⟩
    rw [<- hSi] at p0 hF1
    have HF1 := hh9 hF1
    have HRX1 := hh9 hRX
    have HXI := hh9 hxi
    clear hF1 hRX hxi hxo hSi
    cases hk : findM g xi with
    | none =>
     rw [findI_none hk] at HF1
     have HRX2 : Hid (Reaches g n' (i + 1) out R) := by
      have h := HRX1.out
      unfold needs at h
      rw [hk] at h
      exact h
     clear hk
     go_wp2_with fail
     refine HF1.out.mono ?_
     rintro e w2 ⟨rfl, hb2⟩
     have HRI2 := hh9 (HRI1.out.below hb2)
     clear hb2
     go_wp2_with fail
     go_roundw
     case rel => exact ⟨i + 1, n', L, og, oc, out, rfl, by go_num, by omega, by omega, hL6, HL, HRX2, HRI2⟩
     case measure => simp [intOf]; omega
    | some k =>
     obtain ⟨⟨r, hr, _⟩, _⟩ := findM_some.1 hk
     rw [findI_some hk] at HF1
     have hkN : k < N := by rw [HN.out]; exact (List.getElem?_eq_some_iff.1 hr).1
     have q1 : decide ((k : Int) < 0) = false := decide_eq_false (by omega)
     obtain ⟨ns, hns⟩ : ∃ ns, ns = namesM r.expr := ⟨_, rfl⟩
     have HRX2 : Hid (Reaches g n' (i + 1) (addU out ns) R) := by
      have h := HRX1.out
      unfold needs at h
      rw [hk] at h
      simp only [] at h
      rw [hr] at h
      rw [hns]
      exact h
     have HLN := hh9 (show ns.length <= 1000000 by rw [hns]; exact HSM.out r (List.mem_of_getElem? hr))
     have HNU : Hid (∀ y ∈ ns, y ∈ universe5 g) := fun y hy => by rw [hns] at hy; unfold universe5; exact List.mem_flatten.2 ⟨namesM r.expr, List.mem_map.2 ⟨r, List.mem_of_getElem? hr, rfl⟩, hy⟩
     obtain ⟨gb, ob, rfl, hgb, hcs⟩ := HROW.out (by omega)
     obtain ⟨Y, hY⟩ : ∃ y, ys[k]? = some y := ⟨_, List.getElem?_eq_getElem (by rw [H2.out, <- HN.out]; exact hkN)⟩
     have hE := (H3.out k Y r hY hr).2.2
     have HTN : Hid (∀ y ∈ ns, TextOk y) := by rw [hns]; exact hE.named
     have CX : ∀ (W : World), Below w.heap.size w W -> ∀ (j : Nat) (u : Value), j < 7 -> Y.cells[j]? = some u -> W.cell? ⟨gb, ob + (k * 7 + j), none⟩ = some u := fun W hb j u hj hu =>
      (hb.cell (p := ⟨gb, ob + (k * 7 + j), none⟩) hgb).trans (hcs _ u ((flatR_at ys k j Y hY hj).trans hu))
     have CALL : Hid (∀ W1, Below w.heap.size w W1 -> Calls Tryz.prog 24 #[Y.expr.val] W1 (GivesTexts ns W1)) := fun W1 hb1 => by
      rw [hns]
      exact nm5_any _ W1 Y.expr r.expr (hE.under hb1) (Nat.le_refl _) (by have := HSM.out r (List.mem_of_getElem? hr); omega)
     clear hk hr hns hcs hY hE
     go_wp2_with fail
     refine HF1.out.mono ?_
     rintro e w2 ⟨rfl, hb2⟩
     have HRI2 := hh9 (HRI1.out.below hb2)
     have e1 := CX w2 HRI2.out.bel 1 _ (by omega) rfl
     have e2 := CX w2 HRI2.out.bel 2 _ (by omega) rfl
     have e3 := CX w2 HRI2.out.bel 3 _ (by omega) rfl
     have e4 := CX w2 HRI2.out.bel 4 _ (by omega) rfl
     have e5 := CX w2 HRI2.out.bel 5 _ (by omega) rfl
     have e6 := CX w2 HRI2.out.bel 6 _ (by omega) rfl
     rw [<- Nat.add_assoc] at e1 e2 e3 e4 e5 e6
     have HCX := hh9 CX
     clear CX hb2
     unfold XV.val at CALL
     go_wp2_with fail
     refine (CALL.out w2 HRI2.out.bel).mono ?_
     rintro e w3 ⟨nv, rfl, hnv, hb3⟩
     obtain ⟨na, nc, rfl, hnk⟩ := NKeep.start hnv HRI2.out.row
     have HNK := hh9 hnk
     have HRI3 := hh9 (HRI2.out.below hb3)
     obtain ⟨nn, hnn⟩ : ∃ nn, nn = ns.length := ⟨_, rfl⟩
     rw [<- hnn]
     have HNN := hh9 hnn
     have hnn6 : nn <= 1000000 := by
      rw [hnn]
      exact HLN.out
     clear hnv hb3 hnk hnn
     go_wp2_with fail
     obtain ⟨wo, hwo⟩ : ∃ y : World, y = wr := ⟨_, rfl⟩
     subst hwo
     go_loopw [5, 9] (fun s v wr => ∃ (j Lc cg cc : Nat) (cur : List (List Int)), s = .slice (some ⟨cg, 0, none⟩) Lc cc /\ v = .int .i64 j /\ j <= nn /\ Lc <= 1000001 /\ i + 1 <= Lc /\ Hid (cur.length = Lc) /\ Hid (cur = addU out (ns.take j)) /\ Hid (RI w g wr (.slice (some ⟨cg, 0, none⟩) Lc cc) cur) /\ Hid (NKeep wr na ns (.slice (some ⟨cg, 0, none⟩) Lc cc))) (fun _ v _ => nn - (intOf v).toNat)
     case atStart => exact ⟨0, L, og, oc, out, rfl, rfl, by omega, by omega, by omega, HL, rfl, HRI3, HNK⟩
     case round =>
      obtain ⟨j, Lc, cg, cc, cur, rfl, rfl, hj, hLc, hiLc, HLC, HCUR, HRIC, HNKC⟩ := hrel
      by_cases hltj : j < nn
      ·obtain ⟨nj, hnj⟩ : ∃ y, ns[j]? = some y := ⟨_, List.getElem?_eq_getElem (by rw [<- HNN.out]; exact hltj)⟩
       obtain ⟨gN, rfl, hgN, hneN, hcN⟩ := HNKC.out (by rw [<- HNN.out]; omega)
       have f0 : wr.cell? ⟨gN, j, none⟩ = some (.string (strOf nj)) := hcN j _ (by unfold scells; rw [List.getElem?_map, hnj]; rfl)
       have HNJ := hh9 hnj
       have HNJU := hh9 (HNU.out nj (List.mem_of_getElem? hnj))
       obtain ⟨Sj, hSj⟩ : ∃ Sj, Sj = strOf nj := ⟨_, rfl⟩
       rw [<- hSj] at f0
       have HSJ := hh9 hSj
       have HF0N := hh9 f0
       have HTJ := hh9 (HTN.out nj (List.mem_of_getElem? hnj))
       obtain ⟨wm, hwm⟩ : ∃ y : World, y = wr := ⟨_, rfl⟩
       subst hwm
       have HB0 := hh9 (Below.refl wm.heap.size wm)
       have hgc := (row_base (HLC.out ▸ HRIC.out.row : wm.ownsRow w.heap.size 9 1 (.slice (some ⟨cg, 0, none⟩) Lc cc) Lc (scells cur))).2.2.2
       have HGC := hh9 hgc
       have HGN := hh9 hgN
       clear hnj hcN hneN hSj hgc hgN
       go_wp2_with fail
       go_loopw [10, 11] (fun hd v wr => ∃ (q : Nat) (b : Bool), hd = .bool b /\ v = .int .i64 q /\ q <= Lc /\ Hid (b = decide (nj ∈ cur.take q)) /\ Hid (Below wm.heap.size wm wr)) (fun _ v _ => Lc - (intOf v).toNat)
       case atStart => exact ⟨0, false, rfl, rfl, by omega, by unfold Hid; simp, HB0⟩
       case round =>
        obtain ⟨q, b, rfl, rfl, hq, HB, HBW⟩ := hrel
        by_cases hltq : q < Lc
        ·obtain ⟨y, hy⟩ : ∃ y, cur[q]? = some y := ⟨_, List.getElem?_eq_getElem (by rw [HLC.out]; exact hltq)⟩
         have e0 : wr.cell? ⟨cg, q, none⟩ = some (.string (strOf y)) := by
          have hr := HRIC.out.row
          rw [HLC.out] at hr
          have h := row_cell hr (j := q) (u := .string (strOf y)) (by unfold scells; rw [List.getElem?_map, hy]; rfl)
          exact (HBW.out.cell (p := ⟨cg, q, none⟩) HGC.out).trans h
         have f1 : wr.cell? ⟨gN, j, none⟩ = some (.string Sj) := (HBW.out.cell (p := ⟨gN, j, none⟩) HGN.out).trans HF0N.out
         have hst := had_step (x := nj) hy
         rw [<- HB.out] at hst
         have hbq := str_beqL (HRIC.out.ok y (List.mem_of_getElem? hy)) HTJ.out
         rw [<- HSJ.out] at hbq
         obtain ⟨bb, hbb⟩ : ∃ bb, bb = decide (y = nj) := ⟨_, rfl⟩
         rw [<- hbb] at hst hbq
         obtain ⟨T, hT⟩ : ∃ T, T = strOf y := ⟨_, rfl⟩
         rw [<- hT] at e0 hbq
         have HST := hh9 hst
         clear hT hbb hst hy
         cases b with
         | true =>
          go_wp2_with fail
          go_quiet (fail)
          go_wp2_with fail
          go_roundw
          case rel => exact ⟨q + 1, true, rfl, by go_num, by omega, by unfold Hid; rw [HST.out]; rfl, below_drawn HBW.out _⟩
          case measure => simp [intOf]; omega
         | false =>
          go_wp2_with fail
          go_quiet (fail)
          go_wp2_with fail
          go_roundw
          case rel => exact ⟨q + 1, bb, rfl, by go_num, by omega, by unfold Hid; rw [HST.out]; rfl, below_drawn HBW.out _⟩
          case measure => simp [intOf]; omega
        ·obtain rfl : q = Lc := by omega
         have HB2 : Hid (b = decide (nj ∈ cur)) := by
          have h := HB.out
          rw [List.take_of_length_le (by rw [HLC.out]; exact Nat.le_refl _)] at h
          exact h
         cases b with
         | true =>
          have HC2 : Hid (cur = addU out (ns.take (j + 1))) := by
           unfold Hid
           rw [addU_take HNJ.out, <- HCUR.out, if_pos (of_decide_eq_true HB2.out.symm)]
          go_wp2_with fail
          go_roundw
          case rel => exact ⟨j + 1, q, cg, cc, cur, rfl, by go_num, by omega, by omega, by omega, HLC, HC2, HRIC.out.below HBW.out, HNKC.out.below HBW.out⟩
          case measure => simp [intOf]; omega
         | false =>
          have HNI : Hid (nj ∉ cur) := of_decide_eq_false HB2.out.symm
          have HC2 : Hid (cur ++ [nj] = addU out (ns.take (j + 1))) := by
           unfold Hid
           rw [addU_take HNJ.out, <- HCUR.out, if_neg HNI.out]
          have f1 : wr.cell? ⟨gN, j, none⟩ = some (.string Sj) := (HBW.out.cell (p := ⟨gN, j, none⟩) HGN.out).trans HF0N.out
          have hb5 : Below wm.heap.size wm (wr.alloc (.cells #[.string Sj] 9)) := HBW.out.alloc HBW.out.size _
          have HB5 := hh9 hb5
          have HRI5 := hh9 (HRIC.out.below hb5)
          have HNK5 := hh9 (HNKC.out.below hb5)
          have h5 := heap_alloc_new wr (.cells #[.string Sj] 9)
          have HC5 : Hid ((wr.alloc (.cells #[.string Sj] 9)).cell? ⟨wr.heap.size, 0, none⟩ = some (.string (strOf nj))) := by
           unfold Hid World.cell?
           simp only [h5]
           rw [HSJ.out]
           rfl
          have HLE : Hid (cur.length <= 100000000) := by unfold Hid; rw [HLC.out]; omega
          have HBS : Hid (w.heap.size <= (wr.alloc (.cells #[.string Sj] 9)).heap.size) := Nat.le_trans HRI5.out.bel.size (Nat.le_refl _)
          have HRW5 : Hid ((wr.alloc (.cells #[.string Sj] 9)).ownsRow w.heap.size 9 1 (.slice (some ⟨cg, 0, none⟩) q cc) cur.length (scells cur)) := HRI5.out.row
          clear hb5 h5
          go_wp2_with (at_builtin; go_loud (refine push_text rfl _ _ rfl w.heap.size wr.heap.size 1 _ cur nj rfl rfl HRW5.out HC5.out HLE.out HBS.out ?_); intro v' w6 hown hgrow hat; have HOWN := hh9 hown; have HGROW : Hid (World.grownBy _ w6 (some cg)) := hgrow; have HAT : Hid (v'.ownBlock = some cg \/ _) := hat; clear hown hgrow hat)
          have hob : wm.heap.size <= wm.heap.size := Nat.le_refl _
          have hl6 : (cur ++ [nj]).length = q + 1 := by rw [List.length_append, HLC.out]; rfl
          have hown6 := HOWN.out
          rcases row_forms hown6 with ⟨rfl, h0⟩ | ⟨cg2, cc2, rfl⟩
          ·omega
          ·have hok : ∀ y ∈ cur ++ [nj], TextOk y := fun y hy => by
            rcases List.mem_append.1 hy with h | h
            ·exact HRIC.out.ok y h
            ·simp at h
             subst h
             exact HTJ.out
           have hfew : (cur ++ [nj]).length + lacks (universe5 g) (cur ++ [nj]) <= 1000001 := Nat.le_trans (lacks_push HNJU.out HNI.out) HRIC.out.few
           have hcg := own_le HRW5.out cg rfl
           have hbel : Below w.heap.size w w6 := HRI5.out.bel.grown HGROW.out HBS.out (fun b e => by have := Option.some.inj e; omega)
           have HRI6 : Hid (RI w g w6 (.slice (some ⟨cg2, 0, none⟩) (q + 1) cc2) (cur ++ [nj])) := ⟨by rw [hl6] at hown6 ⊢; exact hown6, hbel, hok, hfew⟩
           have HNK6 : Hid (NKeep w6 (some ⟨gN, 0, none⟩) ns (.slice (some ⟨cg2, 0, none⟩) (q + 1) cc2)) := HNK5.out.push HGROW.out HAT.out
           have hq6 : q + 1 <= 1000001 := by omega
           refine ⟨⟨j + 1, q + 1, cg2, cc2, cur ++ [nj], by rw [hl6], by go_num, by omega, hq6, by omega, hl6, HC2, HRI6, HNK6⟩, ?_⟩
           simp [intOf]
           omega
      ·obtain rfl : j = nn := by omega
       have HRX3 : Hid (Reaches g n' (i + 1) cur R) := by
        have h := HCUR.out
        rw [List.take_of_length_le (by rw [<- HNN.out]; exact Nat.le_refl _)] at h
        unfold Hid
        rw [h]
        exact HRX2.out
       go_wp2_with fail
       go_roundw
       case rel => exact ⟨i + 1, n', Lc, cg, cc, cur, rfl, by go_num, by omega, by omega, hLc, HLC, HRX3, HRIC⟩
       case measure => simp [intOf]; omega
   ·obtain rfl : i = L := by omega
    have HFIN : Hid (out = R) := by
     have h := HRX.out
     cases h with
     | done => rfl
     | step h1 => have h2 := (List.getElem?_eq_some_iff.1 h1).1; have := HL.out; omega
    go_wp2_with fail
    go_ret
    refine ⟨_, R, rfl, .inr ⟨HNO.out, nt, HRE.out⟩, ?_, ?_, HRI1.out.bel⟩
    ·rw [<- HFIN.out]
     exact HRI1.out.row
    ·rw [<- HFIN.out]
     exact HRI1.out.ok
end Go.Proofs.YtpopgjgngbiofaaGreatDoor
