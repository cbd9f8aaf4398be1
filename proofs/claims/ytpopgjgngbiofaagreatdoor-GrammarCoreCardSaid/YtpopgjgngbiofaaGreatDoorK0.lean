/- What the laws of the grammar rest on, more of it, part 0: made by tools/merge5.py out of GBase GNms GNm5 GAlts GFrame GDraw GCore5. No condition but those that each says. -/
import Derived.Test.YtpopgjgngbiofaaGreatDoorM0
import Derived.Test.YtpopgjgngbiofaaGreatDoorM1
import Derived.Test.YtpopgjgngbiofaaGreatDoorM2
import Derived.Test.YtpopgjgngbiofaaGreatDoorM3
import Derived.Test.YtpopgjgngbiofaaGreatDoorM4
import Derived.Test.YtpopgjgngbiofaaGreatDoorM5
import Derived.Test.YtpopgjgngbiofaaGreatDoorM6
import Derived.Test.YtpopgjgngbiofaaGreatDoorM7
import Derived.Test.YtpopgjgngbiofaaGreatDoorM8
import Derived.Test.YtpopgjgngbiofaaGreatDoorM9
import Derived.Test.YtpopgjgngbiofaaGreatDoorM10
import Derived.Test.YtpopgjgngbiofaaGreatDoorM11
import Derived.Test.YtpopgjgngbiofaaGreatDoorM12
import Derived.Test.YtpopgjgngbiofaaGreatDoorM13
import Derived.Test.YtpopgjgngbiofaaGreatDoorM14
import Derived.Test.YtpopgjgngbiofaaGreatDoorM15
import Derived.Test.YtpopgjgngbiofaaGreatDoorM16
import Derived.Test.YtpopgjgngbiofaaGreatDoorM17
import Derived.Test.YtpopgjgngbiofaaGreatDoorM18
import Derived.Test.YtpopgjgngbiofaaGreatDoorM19
import Derived.Test.YtpopgjgngbiofaaGreatDoorM20
import Derived.Test.YtpopgjgngbiofaaGreatDoorM21
import Derived.Test.YtpopgjgngbiofaaGreatDoorM22
import Derived.Test.YtpopgjgngbiofaaGreatDoorM23
import Derived.Test.YtpopgjgngbiofaaGreatDoorM24
import Derived.Test.YtpopgjgngbiofaaGreatDoorM25
import Derived.Test.YtpopgjgngbiofaaGreatDoorM26
import Derived.Test.YtpopgjgngbiofaaGreatDoorM27
import Derived.Test.YtpopgjgngbiofaaGreatDoorM28
import Derived.Test.YtpopgjgngbiofaaGreatDoorM29
import Derived.Test.YtpopgjgngbiofaaGreatDoorM30
import Derived.Test.YtpopgjgngbiofaaGreatDoorM31
import Derived.Test.YtpopgjgngbiofaaGreatDoorM32
import Derived.Test.YtpopgjgngbiofaaGreatDoorM33
import Derived.Test.YtpopgjgngbiofaaGreatDoorM34
import Derived.Test.YtpopgjgngbiofaaGreatDoorM35
import Derived.Test.YtpopgjgngbiofaaGreatDoorM36
import Derived.Test.YtpopgjgngbiofaaGreatDoorM37
import Derived.Maps.AppendAt
import Derived.Laws.AppendOwnNone
import Derived.Test.YtpopgjgngbiofaaGreatDoorCards
import Derived.Test.YtpopgjgngbiofaaGreatDoorTie
import Derived.ProofKit
import Derived.OpenShut
import Derived.LaidMore
import Derived.Lay
import Derived.Carry
import Derived.ChangeSlices
import Derived.ChangeMaps5
import Derived.SevenTiedAt
import Derived.Stop.Joined
import Derived.LaidSub
import Derived.Lib.LaidTab
import Derived.Orders
set_option linter.unusedVariables false
set_option linter.unusedSimpArgs false
set_option maxRecDepth 100000
set_option maxHeartbeats 8000000
namespace Go.Proofs.YtpopgjgngbiofaaGreatDoor
open Go.RowKit
theorem find5_any {w : World} {v : Value} {ys : List RV} {g : List GR} {x : List Int} (h : RulesE w v ys g) (hx : TextOk x) : Calls Tryz.prog 15 #[v, .string (strOf x)] w (SaysN (findI g x) w) := by
 obtain ⟨h1, h2, h3⟩ := h
 have H2 := hh9 h2
 have H3 := hh9 h3
 have HX := hh9 hx
 obtain ⟨n, hnn⟩ : ∃ n, n = g.length := ⟨_, rfl⟩
 obtain ⟨N, hN⟩ : ∃ N, N = findI g x := ⟨_, rfl⟩
 obtain ⟨s, hs⟩ : ∃ s, s = strOf x := ⟨_, rfl⟩
 rw [<- hnn] at h1
 rw [<- hN, <- hs]
 have HNN := hh9 hnn
 have HN := hh9 hN
 have HS := hh9 hs
 clear h2 h3 hnn hN hs hx
 rcases h1 with ⟨h0, a, cap, rfl⟩ | ⟨b, off, cap, rfl, g1, g2, g3, g4⟩
 ·obtain rfl : g = [] := List.length_eq_zero_iff.1 (by rw [<- HNN.out]; exact h0)
  subst h0
  obtain rfl : N = -1 := by rw [HN.out]; rfl
  go_enter Tryz.func15, Tryz.ntmps15
  go_wp2_with fail
  go_loop [5] (fun v => v = .int .i64 0) (fun _ => 0)
  case atStart => rfl
  case round =>
   subst hrel
   go_wp2_with fail
   go_ret
   exact ⟨rfl, Below.refl _ _⟩
 ·have G4 := hh9 g4
  unfold maxLen at g2
  clear g4
  have HB0 := hh9 (Below.refl w.heap.size w)
  go_enter Tryz.func15, Tryz.ntmps15
  go_wp2_with fail
  go_loopw [5] (fun v wr => ∃ i : Nat, v = .int .i64 i /\ i <= n /\ Hid (∀ (j : Nat) (u : GR), j < i -> g[j]? = some u -> u.name ≠ x) /\ Hid (Below w.heap.size w wr)) (fun v _ => n - (intOf v).toNat)
  case atStart => exact ⟨0, rfl, by omega, fun j u hj => by omega, HB0⟩
  case round =>
   obtain ⟨i, rfl, hi, HNO, HBEL⟩ := hrel
   by_cases hlt : i < n
   ·obtain ⟨Y, hY⟩ : ∃ y, ys[i]? = some y := ⟨_, List.getElem?_eq_getElem (by rw [H2.out, <- HNN.out]; exact hlt)⟩
    obtain ⟨t, ht⟩ : ∃ y, g[i]? = some y := ⟨_, List.getElem?_eq_getElem (by rw [<- HNN.out]; exact hlt)⟩
    have e0 : wr.cell? ⟨b, off + (i * 7 + 0), none⟩ = some (.string Y.name) :=
     (HBEL.out.cell (p := ⟨b, off + (i * 7 + 0), none⟩) g3).trans (G4.out _ _ ((flatR_at ys i 0 Y hY (by omega)).trans rfl))
    obtain ⟨en, hto, _⟩ := H3.out i Y t hY ht
    rw [Nat.add_zero] at e0
    rw [en] at e0
    have hq := str_beqL hto HX.out
    rw [<- HS.out] at hq
    obtain ⟨T, hT⟩ : ∃ T, T = strOf t.name := ⟨_, rfl⟩
    rw [<- hT] at e0 hq
    clear hT
    by_cases hc : t.name = x
    ·rw [decide_eq_true hc] at hq
     have HV := hh9 (show N = i by rw [HN.out]; exact findI_hit ht hc HNO.out)
     clear hY ht hto en hc
     go_wp2_with fail
     go_ret
     exact ⟨by rw [HV.out]; rfl, HBEL.out⟩
    ·rw [decide_eq_false hc] at hq
     have HNO2 : Hid (∀ (j : Nat) (u : GR), j < i + 1 -> g[j]? = some u -> u.name ≠ x) := fun j u hj hu => by
      by_cases hji : j < i
      ·exact HNO.out j u hji hu
      ·obtain rfl : j = i := by omega
       rw [ht] at hu
       rw [<- Option.some.inj hu]
       exact hc
     clear hY ht hto en hc
     go_wp2_with fail
     go_roundw
     case rel => exact ⟨i + 1, by go_num, by omega, HNO2, HBEL⟩
     case measure => simp [intOf]; omega
   ·obtain rfl : i = n := by omega
    obtain rfl : N = -1 := by rw [HN.out]; exact findI_miss (fun j u hj => HNO.out j u (by rw [HNN.out]; exact hj))
    go_wp2_with fail
    go_ret
    exact ⟨rfl, HBEL.out⟩
end Go.Proofs.YtpopgjgngbiofaaGreatDoor
namespace Go.Proofs.YtpopgjgngbiofaaGreatDoor
open Go.RowKit Go.Shelf
theorem scells_len (l : List (List Int)) : (scells l).length = l.length := by unfold scells; simp
end Go.Proofs.YtpopgjgngbiofaaGreatDoor
namespace Go.Proofs.YtpopgjgngbiofaaGreatDoor
open Go.RowKit
theorem push_texts {w : World} {ops : Array Oper} {rest : List Oper} {o : Oper} {a : Act} {Q : Exit -> Act -> World -> Prop} (hgd : o.guard = none) (sx xx : Operand)
  (ho : o.op = .call { callee := .builtin .append, args := #[sx, xx], argTypes := #[34, 34] }) (base b2 : Nat) (v v2 : Value) (L L2 : List (List Int)) (hs : a.eval sx = v) (hx : a.eval xx = v2)
  (h : w.ownsRow base 9 1 v L.length (scells L)) (h2 : w.ownsRow b2 9 1 v2 L2.length (scells L2)) (hle : L.length + L2.length <= 1000000000) (hbase : base <= w.heap.size)
  (K : ∀ v' w', w'.ownsRow base 9 1 v' (L ++ L2).length (scells (L ++ L2)) -> w.grownBy w' v.ownBlock -> wpList Tryz.prog ops Q rest (a.put o.dst v') w') : wpList Tryz.prog ops Q (o :: rest) a w := by
 obtain ⟨i0, hi0, hz0, hz1, hz2⟩ := info_parts infoString
 rcases row_forms h2 with ⟨rfl, h0⟩ | ⟨g, cap, rfl⟩
 ·have e : L2 = [] := List.length_eq_zero_iff.1 h0
  subst e
  exact wpList_append_own_none hgd sx xx 34 ho base 9 i0 1 Tryz.underlying34 hi0 v _ _ hs h hx (K v w (by simpa using h) (grown_refl _ _))
 ·refine wpList_append_own_at _ hgd sx xx 34 ho base 9 i0 _ 1 16 Tryz.underlying34 hi0 hz0 hz1 hz2 rfl (by decide) v L.length (scells L) hs h ⟨g, 0, none⟩ L2.length cap (scells L2) hx (by rw [scells_len]; omega) (fun j u hj => ?_) ?_ (by unfold maxLen; omega) (by omega) hbase ?_
  ·have := row_cell h2 hj
   cases j <;> simpa [Addr.add] using this
  ·intro u hu
   unfold scells at hu
   rw [List.mem_map] at hu
   obtain ⟨x, _, rfl⟩ := hu
   rfl
  ·intro v' w' hown hgrow _ _
   have e : scells (L ++ L2) = scells L ++ scells L2 := by simp [scells]
   exact K v' w' (by rw [List.length_append, e]; exact hown) hgrow
theorem RowAny.at7 {W : World} {c : Option Addr} {n cap : Nat} {xs : List Value} (h : RowAny W (.slice c n cap) n xs) (hn : 0 < n) : ∃ g off, c = some ⟨g, off, none⟩ /\ n <= cap /\ g < W.heap.size /\ ∀ (j : Nat) (u : Value), xs[j]? = some u -> W.cell? ⟨g, off + j, none⟩ = some u := by
 rcases h with ⟨h0, _⟩ | ⟨g, off, cap', hv, h1, _, h3, h4⟩
 ·omega
 ·simp at hv
  obtain ⟨rfl, rfl⟩ := hv
  exact ⟨g, off, rfl, h1, h3, h4⟩
theorem ETree.kidsE {W : World} {X : XV} {t : Tree} (h : ETree W X t) : ∃ (x ns : List Int) (kids : List Tree) (vs : List XV), t = .mk X.kind x ns X.lo X.hi kids /\ X.text = strOf x /\ TextOk x /\ RowAny W X.ks kids.length (vs.flatMap XV.cells) /\ vs.length = kids.length /\ (∀ (i : Nat) (y : XV) (t : Tree), vs[i]? = some y -> kids[i]? = some t -> ETree W y t) /\ X.ns.oneCell' = true := by
 cases h with
 | mk vs h0 hl h1 h2 h3 h4 => exact ⟨_, _, _, vs, rfl, rfl, ⟨h0, hl⟩, h2, h3, h4, h1.one⟩
theorem nm5_any : ∀ (k : Nat) (w : World) (X : XV) (t : Tree), ETree w X t -> t.tw <= k -> (namesM t).length <= 100000000 -> Calls Tryz.prog 24 #[X.val] w (GivesTexts (namesM t) w) := by
 intro k
 induction k using Nat.strongRecOn with
 | _ k ih =>
 intro w X t hE hk hlen
 obtain ⟨x, ns, kids, vs, rfl, htx, hto, h1, h2, h3, hns⟩ := hE.kidsE
 have HTW : Hid ((Tree.mk X.kind x ns X.lo X.hi kids).tw = 1 + x.length + ns.length + (kids.map Tree.tw).sum) := by unfold Hid; rw [Tree.tw]
 have hnm := namesM_mk X.kind X.lo X.hi x ns kids
 obtain ⟨kk, tx, nv, lo, hi, kv⟩ := X
 simp only [] at htx hns h1 HTW hnm hk hlen
 simp only [] at hE
 have H2 := hh9 h2
 have H3 := hh9 h3
 have IH := hh9 ih
 have HK := hh9 hk
 have HLEN := hh9 hlen
 obtain ⟨n, hn⟩ : ∃ n, n = kids.length := ⟨_, rfl⟩
 rw [<- hn] at h1
 have HN := hh9 hn
 obtain ⟨NM, hNM⟩ : ∃ NM, NM = namesM (Tree.mk kk x ns lo hi kids) := ⟨_, rfl⟩
 have HNM := hh9 (hNM.trans hnm)
 have HNM0 := hh9 hNM
 rw [<- hNM]
 obtain ⟨ka, kc, hkv⟩ : ∃ ka kc, kv = .slice ka n kc := by
  obtain ⟨a, c, h, _⟩ := h1.slice
  exact ⟨a, c, h⟩
 have hnmax : n <= 9223372036854775807 := by
  obtain ⟨_, _, _, h⟩ := h1.slice
  exact h
 subst hkv
 have HR := hh9 h1
 have HTX := hh9 htx
 have hb0 : Below w.heap.size w (w.alloc (xobj kk lo hi tx nv (.slice ka n kc))) := (Below.refl _ _).alloc (Nat.le_refl _) _
 have HB0 := hh9 hb0
 have HX0 : Hid (BoxX (w.alloc (xobj kk lo hi tx nv (.slice ka n kc))) w.heap.size ⟨kk, tx, nv, lo, hi, .slice ka n kc⟩) := heap_alloc_new w (xobj kk lo hi tx nv (.slice ka n kc))
 clear hE h1 h2 h3 ih hk hlen hn hNM hnm htx hb0
 have hlw : (w.alloc (xobj kk lo hi tx nv (.slice ka n kc))).heap.size = w.heap.size + 1 := by simp
 obtain ⟨b0, b1, b2, b3, b4, b5⟩ := HX0.out.cells
 simp only [] at b0 b1 b2 b3 b4 b5
 show Calls Tryz.prog 24 #[.agg #[.int .i64 kk, .string tx, nv, .int .i64 lo, .int .i64 hi, .slice ka n kc]] w _
 unfold xobj at HX0 HB0 b0 b1 b2 b3 b4 b5 hlw
 by_cases hk4 : kk = 4
 ·rw [if_pos hk4] at HNM
  obtain ⟨HD, hHD⟩ : ∃ HD, HD = [x] := ⟨_, rfl⟩
  rw [<- hHD] at HNM
  have HHD := hh9 hHD
  subst hk4
  clear hHD
  have HROWN : Hid (((w.alloc (.cells #[.int .i64 4, .string tx, nv, .int .i64 lo, .int .i64 hi, .slice ka n kc] 27)).alloc (.cells #[.string tx] 9)).ownsRow (w.heap.size + 1) 9 1 (.slice (some ⟨w.heap.size + 1, 0, none⟩) 1 1) HD.length (scells HD)) := by
   rw [HHD.out, HTX.out]
   refine row_of_block (cs := #[.string (strOf x)]) (Nat.le_refl _) ?_ (by unfold maxLen; simp) (by simp)
   have h := heap_alloc_new (w.alloc (.cells #[.int .i64 4, .string (strOf x), nv, .int .i64 lo, .int .i64 hi, .slice ka n kc] 27)) (.cells #[.string (strOf x)] 9)
   rw [World.size_alloc] at h
   exact h
  go_enter Tryz.func24, Tryz.ntmps24
  go_wp2_with (at_builtin; go_loud (refine push_texts rfl _ _ rfl (w.heap.size + 1) (w.heap.size + 1) _ _ [] HD rfl rfl (World.ownsRow_nil _ _ _ _) HROWN.out (by rw [HHD.out]; simp) (by simp <;> omega) ?_); intro v' w1 hown hgrow; have HOWN := hh9 hown; have HGROW : Hid (World.grownBy _ w1 none) := hgrow; clear hown hgrow)
  have hbx1 : BoxX w1 w.heap.size ⟨4, tx, nv, lo, hi, .slice ka n kc⟩ := (HGROW.out.block _ (by simp <;> omega) (fun e => by cases e)).trans (heap_old5 _ _ HX0.out)
  have hbw1 : Below w.heap.size w w1 := (HB0.out.alloc (by simp) _).grown HGROW.out (by simp <;> omega) (fun b hb => by cases hb)
  obtain ⟨c0, c1, c2, c3, c4, c5⟩ := hbx1.cells
  simp only [] at c0 c1 c2 c3 c4 c5
  go_loopw [3, 4] (fun s v wr => ∃ (i : Nat) (u : Value), s = u /\ v = .int .i64 i /\ i <= n /\ Hid (wr.ownsRow (w.heap.size + 1) 9 1 u (HD ++ ((kids.take i).map namesM).flatten).length (scells (HD ++ ((kids.take i).map namesM).flatten))) /\ Hid (Below w.heap.size w wr) /\ Hid (BoxX wr w.heap.size ⟨4, tx, nv, lo, hi, .slice ka n kc⟩)) (fun _ v _ => n - (intOf v).toNat)
  case atStart => exact ⟨0, _, rfl, rfl, Nat.zero_le _, (by have := HOWN.out; simpa [Hid] using this), hbw1, hbx1⟩
  case round =>
   obtain ⟨i, u, rfl, rfl, hi', HROW, HBEL, HBX⟩ := hrel
   obtain ⟨b0, b1, b2, b3, b4, b5⟩ := HBX.out.cells
   simp only [] at b0 b1 b2 b3 b4 b5
   by_cases hlt : i < n
   ·obtain ⟨Y, hY⟩ : ∃ y, vs[i]? = some y := ⟨_, List.getElem?_eq_getElem (by rw [H2.out, <- HN.out]; exact hlt)⟩
    obtain ⟨t, ht⟩ : ∃ y, kids[i]? = some y := ⟨_, List.getElem?_eq_getElem (by rw [<- HN.out]; exact hlt)⟩
    obtain ⟨g, off, rfl, hnc, hgl, hcs⟩ := HR.out.at7 (Nat.lt_of_le_of_lt (Nat.zero_le _) hlt)
    have CX : ∀ (j : Nat) (u : Value), j < 6 -> Y.cells[j]? = some u -> wr.cell? ⟨g, off + (i * 6 + j), none⟩ = some u := fun j u hj hu =>
     (HBEL.out.cell (p := ⟨g, off + (i * 6 + j), none⟩) hgl).trans (hcs _ u ((flat_at vs i j Y hY hj).trans hu))
    have hEY := (H3.out i Y t hY ht).under HBEL.out
    have htk := flat_take ht
    have hfl := flat_take_le kids (i + 1)
    rw [htk, List.length_append] at hfl
    have hNL : NM.length = HD.length + ((kids.map namesM).flatten).length := by rw [HNM.out, List.length_append]
    have hLE := HLEN.out
    rw [<- HNM0.out] at hLE
    have hmem : t ∈ kids := List.mem_of_getElem? ht
    have htm := tw_mem hmem
    have hki := HK.out
    rw [HTW.out] at hki
    have HNX := hh9 (IH.out t.tw (by omega) wr Y t hEY (Nat.le_refl _) (by omega))
    have HLT : Hid ((HD ++ ((kids.take i).map namesM).flatten).length + (namesM t).length <= 1000000000) := by unfold Hid; rw [List.length_append]; omega
    have HTK : Hid (HD ++ ((kids.take (i + 1)).map namesM).flatten = (HD ++ ((kids.take i).map namesM).flatten) ++ namesM t) := by unfold Hid; rw [htk, List.append_assoc]
    obtain ⟨k2, s2, nv2, lo2, hi2, kv2⟩ := Y
    have e0 := CX 0 _ (by omega) rfl
    have e1 := CX 1 _ (by omega) rfl
    have e2 := CX 2 _ (by omega) rfl
    have e3 := CX 3 _ (by omega) rfl
    have e4 := CX 4 _ (by omega) rfl
    have e5 := CX 5 _ (by omega) rfl
    rw [<- Nat.add_assoc] at e0 e1 e2 e3 e4 e5
    rw [Nat.add_zero] at e0
    simp only [] at e0 e1 e2 e3 e4 e5
    unfold XV.val at HNX
    simp only [] at HNX
    clear CX hY ht hEY htk hfl hNL hLE hmem htm hki hcs hgl
    go_wp2_with (first
     | (go_at_call 24; refine HNX.out.mono ?_; rintro e w2 ⟨v2, rfl, hrow2, hb2⟩; have HB2 := hh9 hb2; have HR2 := hh9 hrow2; have HRW2 := hh9 (own_below HROW.out hb2); clear hb2 hrow2)
     | (at_builtin; refine push_texts rfl _ _ rfl (w.heap.size + 1) wr.heap.size _ _ (HD ++ ((kids.take i).map namesM).flatten) (namesM t) rfl rfl HRW2.out HR2.out HLT.out (by have h1 := HBX.out; have h2 := (Array.getElem?_eq_some_iff.1 h1).1; have h3 := HB2.out.size; omega) ?_; intro v' w3 hown hgrow; have HOWN := hh9 hown; have HGROW := hh9 hgrow; clear hown hgrow))
    have hbx2 : BoxX w2 w.heap.size ⟨4, tx, nv, lo, hi, .slice (some ⟨g, off, none⟩) n kc⟩ := (HB2.out.block _ (Array.getElem?_eq_some_iff.1 HBX.out).1).trans HBX.out
    have hown2 := own_le HRW2.out
    have hbx3 : BoxX w3 w.heap.size ⟨4, tx, nv, lo, hi, .slice (some ⟨g, off, none⟩) n kc⟩ := (HGROW.out.block _ (Array.getElem?_eq_some_iff.1 hbx2).1 (fun e => by have := hown2 _ e.symm; omega)).trans hbx2
    go_roundw
    case rel => exact ⟨i + 1, v', rfl, by go_num, by omega, by rw [HTK.out]; exact HOWN, (below_then HBEL.out HB2.out).grown HGROW.out (Nat.le_trans HBEL.out.size HB2.out.size) (fun b hb => by have := hown2 b hb; omega), hbx3⟩
    case measure => simp [intOf]; omega
   ·obtain rfl : i = n := by omega
    have HEND := HROW.out
    rw [List.take_of_length_le (by have := HN.out; omega), <- HNM.out] at HEND
    go_wp2_with fail
    go_ret
    exact ⟨_, rfl, own_mono HEND (by omega), HBEL.out⟩
 ·rw [if_neg hk4] at HNM
  obtain ⟨HD, hHD⟩ : ∃ HD : List (List Int), HD = [] := ⟨_, rfl⟩
  rw [<- hHD] at HNM
  have HHD := hh9 hHD
  have hk5 : (kk == 4) = false := by simpa using hk4
  clear hHD hk4
  go_enter Tryz.func24, Tryz.ntmps24
  go_wp2_with fail
  go_loopw [3, 4] (fun s v wr => ∃ (i : Nat) (u : Value), s = u /\ v = .int .i64 i /\ i <= n /\ Hid (wr.ownsRow (w.heap.size + 1) 9 1 u (HD ++ ((kids.take i).map namesM).flatten).length (scells (HD ++ ((kids.take i).map namesM).flatten))) /\ Hid (Below w.heap.size w wr) /\ Hid (BoxX wr w.heap.size ⟨kk, tx, nv, lo, hi, .slice ka n kc⟩)) (fun _ v _ => n - (intOf v).toNat)
  case atStart => exact ⟨0, _, rfl, rfl, Nat.zero_le _, (by rw [HHD.out]; exact World.ownsRow_nil _ _ _ _), HB0, HX0⟩
  case round =>
   obtain ⟨i, u, rfl, rfl, hi', HROW, HBEL, HBX⟩ := hrel
   obtain ⟨b0, b1, b2, b3, b4, b5⟩ := HBX.out.cells
   simp only [] at b0 b1 b2 b3 b4 b5
   by_cases hlt : i < n
   ·obtain ⟨Y, hY⟩ : ∃ y, vs[i]? = some y := ⟨_, List.getElem?_eq_getElem (by rw [H2.out, <- HN.out]; exact hlt)⟩
    obtain ⟨t, ht⟩ : ∃ y, kids[i]? = some y := ⟨_, List.getElem?_eq_getElem (by rw [<- HN.out]; exact hlt)⟩
    obtain ⟨g, off, rfl, hnc, hgl, hcs⟩ := HR.out.at7 (Nat.lt_of_le_of_lt (Nat.zero_le _) hlt)
    have CX : ∀ (j : Nat) (u : Value), j < 6 -> Y.cells[j]? = some u -> wr.cell? ⟨g, off + (i * 6 + j), none⟩ = some u := fun j u hj hu =>
     (HBEL.out.cell (p := ⟨g, off + (i * 6 + j), none⟩) hgl).trans (hcs _ u ((flat_at vs i j Y hY hj).trans hu))
    have hEY := (H3.out i Y t hY ht).under HBEL.out
    have htk := flat_take ht
    have hfl := flat_take_le kids (i + 1)
    rw [htk, List.length_append] at hfl
    have hNL : NM.length = HD.length + ((kids.map namesM).flatten).length := by rw [HNM.out, List.length_append]
    have hLE := HLEN.out
    rw [<- HNM0.out] at hLE
    have hmem : t ∈ kids := List.mem_of_getElem? ht
    have htm := tw_mem hmem
    have hki := HK.out
    rw [HTW.out] at hki
    have HNX := hh9 (IH.out t.tw (by omega) wr Y t hEY (Nat.le_refl _) (by omega))
    have HLT : Hid ((HD ++ ((kids.take i).map namesM).flatten).length + (namesM t).length <= 1000000000) := by unfold Hid; rw [List.length_append]; omega
    have HTK : Hid (HD ++ ((kids.take (i + 1)).map namesM).flatten = (HD ++ ((kids.take i).map namesM).flatten) ++ namesM t) := by unfold Hid; rw [htk, List.append_assoc]
    obtain ⟨k2, s2, nv2, lo2, hi2, kv2⟩ := Y
    have e0 := CX 0 _ (by omega) rfl
    have e1 := CX 1 _ (by omega) rfl
    have e2 := CX 2 _ (by omega) rfl
    have e3 := CX 3 _ (by omega) rfl
    have e4 := CX 4 _ (by omega) rfl
    have e5 := CX 5 _ (by omega) rfl
    rw [<- Nat.add_assoc] at e0 e1 e2 e3 e4 e5
    rw [Nat.add_zero] at e0
    simp only [] at e0 e1 e2 e3 e4 e5
    unfold XV.val at HNX
    simp only [] at HNX
    clear CX hY ht hEY htk hfl hNL hLE hmem htm hki hcs hgl
    go_wp2_with (first
     | (go_at_call 24; refine HNX.out.mono ?_; rintro e w2 ⟨v2, rfl, hrow2, hb2⟩; have HB2 := hh9 hb2; have HR2 := hh9 hrow2; have HRW2 := hh9 (own_below HROW.out hb2); clear hb2 hrow2)
     | (at_builtin; refine push_texts rfl _ _ rfl (w.heap.size + 1) wr.heap.size _ _ (HD ++ ((kids.take i).map namesM).flatten) (namesM t) rfl rfl HRW2.out HR2.out HLT.out (by have h1 := HBX.out; have h2 := (Array.getElem?_eq_some_iff.1 h1).1; have h3 := HB2.out.size; omega) ?_; intro v' w3 hown hgrow; have HOWN := hh9 hown; have HGROW := hh9 hgrow; clear hown hgrow))
    have hbx2 : BoxX w2 w.heap.size ⟨kk, tx, nv, lo, hi, .slice (some ⟨g, off, none⟩) n kc⟩ := (HB2.out.block _ (Array.getElem?_eq_some_iff.1 HBX.out).1).trans HBX.out
    have hown2 := own_le HRW2.out
    have hbx3 : BoxX w3 w.heap.size ⟨kk, tx, nv, lo, hi, .slice (some ⟨g, off, none⟩) n kc⟩ := (HGROW.out.block _ (Array.getElem?_eq_some_iff.1 hbx2).1 (fun e => by have := hown2 _ e.symm; omega)).trans hbx2
    go_roundw
    case rel => exact ⟨i + 1, v', rfl, by go_num, by omega, by rw [HTK.out]; exact HOWN, (below_then HBEL.out HB2.out).grown HGROW.out (Nat.le_trans HBEL.out.size HB2.out.size) (fun b hb => by have := hown2 b hb; omega), hbx3⟩
    case measure => simp [intOf]; omega
   ·obtain rfl : i = n := by omega
    have HEND := HROW.out
    rw [List.take_of_length_le (by have := HN.out; omega), <- HNM.out] at HEND
    go_wp2_with fail
    go_ret
    exact ⟨_, rfl, own_mono HEND (by omega), HBEL.out⟩
end Go.Proofs.YtpopgjgngbiofaaGreatDoor
namespace Go.Proofs.YtpopgjgngbiofaaGreatDoor
open Go.RowKit
theorem push_exprs {w : World} {ops : Array Oper} {rest : List Oper} {o : Oper} {a : Act} {Q : Exit -> Act -> World -> Prop} (hgd : o.guard = none) (sx xx : Operand)
  (ho : o.op = .call { callee := .builtin .append, args := #[sx, xx], argTypes := #[25, 25] }) (base : Nat) (v x : Value) (vs vs2 : List XV) (hs : a.eval sx = v) (hx : a.eval xx = x)
  (h : w.ownsRow base 27 6 v vs.length (vs.flatMap XV.cells)) (h2 : RowAny w x vs2.length (vs2.flatMap XV.cells)) (h0 : 0 < vs2.length) (h1 : ∀ u ∈ vs2.flatMap XV.cells, u.oneCell' = true) (hle : vs.length + vs2.length <= 100000000) (hbase : base <= w.heap.size)
  (K : ∀ v' w', w'.ownsRow base 27 6 v' (vs ++ vs2).length ((vs ++ vs2).flatMap XV.cells) -> w.grownBy w' v.ownBlock -> (v'.ownBlock = v.ownBlock \/ v'.ownBlock = some w.heap.size) -> wpList Tryz.prog ops Q rest (a.put o.dst v') w') : wpList Tryz.prog ops Q (o :: rest) a w := by
 obtain ⟨i0, hi0, hz0, hz1, hz2⟩ := info_parts infoExpr5
 rcases h2 with ⟨h3, _⟩ | ⟨g, off, cap, rfl, g1, g2, g3, g4⟩
 ·omega
 ·refine wpList_append_own_at _ hgd sx xx 25 ho base 27 i0 _ 6 88 Tryz.underlying25 hi0 hz0 hz1 hz2 rfl (by decide) v vs.length (vs.flatMap XV.cells) hs h ⟨g, off, none⟩ vs2.length cap (vs2.flatMap XV.cells) hx (flat_len vs2) (fun j u hj => ?_) h1 (by unfold maxLen; omega) (by omega) hbase ?_
  ·have e : (⟨g, off, none⟩ : Addr).add j = ⟨g, off + j, none⟩ := by cases j <;> simp [Addr.add]
   rw [e]
   exact g4 j u hj
  ·intro v' w' hown hgrow _ hat
   exact K v' w' (by rw [List.length_append, List.flatMap_append]; exact hown) hgrow hat
theorem ways_any {w : World} {a : Option Addr} {n c : Nat} : Calls Tryz.prog 29 #[.slice a n c] w (fun e w' => e = .returned (.agg #[.int .i64 1, .string ⟨#[]⟩, .slice none 0 0, .int .i64 0, .int .i64 0, .slice a n c]) /\ Below w.heap.size w w') := by
 have HRES := hh9 (res_new w)
 have hb : Below w.heap.size w ((w.alloc (.cells #[.int .i64 0, .string ⟨#[]⟩, .slice none 0 0, .int .i64 0, .int .i64 0, .slice none 0 0] 27)).setRow w.heap.size (XV.arr ⟨1, ⟨#[]⟩, .slice none 0 0, 0, 0, .slice a n c⟩)) := by
  have h := (Below.refl w.heap.size w).alloc (Nat.le_refl _) (.cells #[.int .i64 0, .string ⟨#[]⟩, .slice none 0 0, .int .i64 0, .int .i64 0, .slice none 0 0] 27)
  exact ⟨h.os, h.tape, h.output, by simp [World.setRow], fun k hk => (setRow_other _ _ _ _ (by omega)).trans (h.block k hk)⟩
 have HB := hh9 hb
 clear hb
 go_enter Tryz.func29, Tryz.ntmps29
 go_wp2_with (refine store_res rfl _ _ rfl w.heap.size ⟨1, ⟨#[]⟩, .slice none 0 0, 0, 0, .slice a n c⟩ rfl rfl HRES.out rfl rfl ?_)
 exact bodyPost_ret_by (run_res rfl _ _ w.heap.size ⟨1, ⟨#[]⟩, .slice none 0 0, 0, 0, .slice a n c⟩ rfl HRES.out) rfl ⟨rfl, HB.out⟩
end Go.Proofs.YtpopgjgngbiofaaGreatDoor
namespace Go.Proofs.YtpopgjgngbiofaaGreatDoor
open Go.ChangeShapes Go.WideShapes Go.ChangeAt Go.RowKit
theorem str_any (s : ByteArray) : ∃ x : List Int, s = strOf x /\ (∀ c ∈ x, 0 <= c /\ c <= 255) /\ x.length = s.size := by
 refine ⟨s.data.toList.map fun b => (b.toNat : Int), ?_, ?_, ?_⟩
 ·apply ByteArray.ext
  unfold strOf
  have : (s.data.toList.map fun b => (b.toNat : Int)).map byt = s.data.toList := by
   rw [List.map_map]
   have : (byt ∘ fun b : UInt8 => (b.toNat : Int)) = id := by funext b; unfold byt; simp
   rw [this, List.map_id]
  rw [this]
 ·intro c hc
  rw [List.mem_map] at hc
  obtain ⟨b, _, rfl⟩ := hc
  have := b.toNat_lt
  omega
 ·rw [List.length_map]; rfl
section
variable {H : Type} {enc : TypeId × Value → H}
end
end Go.Proofs.YtpopgjgngbiofaaGreatDoor
namespace Go.Proofs.YtpopgjgngbiofaaGreatDoor
open Go.RowKit
section
variable {P : Program} {ops : Array Oper} {Q : Exit → Act → World → Prop} {md : Region.Mode}
theorem ready_iff {listed : Array Bool} {i : Nat} : i ∈ Region.ready md ops listed ↔ i < ops.size /\ listed.getD i true = false /\ ∃ o, ops[i]? = some o /\ ∀ e ∈ o.after, Region.binds md e = true -> listed.getD e.on false = true := by
 unfold Region.ready
 rw [List.mem_filter, List.mem_range]
 refine and_congr_right fun hi => ?_
 rw [Array.getElem?_eq_getElem hi]
 simp only [Option.map_some, Option.getD_some, Bool.and_eq_true, Bool.not_eq_true', Array.all_eq_true_iff_forall_mem, Bool.or_eq_true]
 refine and_congr_right fun _ => ⟨fun h => ⟨_, rfl, fun e he hb => (h e he).resolve_left (by simp [hb])⟩, fun ⟨o, ho, h⟩ e he => ?_⟩
 have e1 := Option.some.inj ho
 subst e1
 cases hb : Region.binds md e with
 | false => exact .inl rfl
 | true => exact .inr (h e he hb)
theorem count_set : ∀ (l : List Bool) (i : Nat), l[i]? = some false -> (l.set i true).count false + 1 = l.count false
 | [], i, h => by simp at h
 | b :: l, 0, h => by
  simp at h
  subst h
  simp
 | b :: l, i + 1, h => by
  simp at h
  have := count_set l i h
  simp only [List.set_cons_succ, List.count_cons]
  omega
theorem wpAny_inv {J : Array Bool -> Act -> World -> Prop} (hstep : ∀ (listed : Array Bool) (a : Act) (w : World) (i : Nat), listed.size = ops.size -> J listed a w -> i ∈ Region.ready md ops listed -> wpOp P ops Q i (J (listed.setIfInBounds i true)) a w)
  (hdone : ∀ (listed : Array Bool) (a : Act) (w : World), listed.size = ops.size -> J listed a w -> Region.ready md ops listed = [] -> Q .normal a w) :
  ∀ (fuel : Nat) (listed : Array Bool) (a : Act) (w : World), listed.size = ops.size -> listed.toList.count false <= fuel -> J listed a w -> wpAny P md ops Q fuel listed a w
 | 0, listed, a, w, hs, hc, hJ => by
  have hr : Region.ready md ops listed = [] := by
   rw [List.eq_nil_iff_forall_not_mem]
   intro i hi
   obtain ⟨h1, h2, _⟩ := ready_iff.1 hi
   have hl : i < listed.size := by omega
   rw [Array.getD_eq_getD_getElem?, Array.getElem?_eq_getElem hl] at h2
   have hm : false ∈ listed.toList := by
    rw [<- show listed[i] = false from h2]
    exact Array.getElem_mem_toList hl
   have := List.count_pos_iff.2 hm
   omega
  exact ⟨hr, hdone _ _ _ hs hJ hr⟩
 | fuel + 1, listed, a, w, hs, hc, hJ => by
  refine ⟨hdone _ _ _ hs hJ, fun i hi => wpOp_mono (fun a' w' h => wpAny_inv hstep hdone fuel _ a' w' (by simpa using hs) ?_ h) (hstep _ _ _ i hs hJ hi)⟩
  obtain ⟨h1, h2, _⟩ := ready_iff.1 hi
  have hl : i < listed.size := by omega
  rw [Array.getD_eq_getD_getElem?, Array.getElem?_eq_getElem hl] at h2
  have h3 := count_set listed.toList i (by rw [Array.getElem?_toList, Array.getElem?_eq_getElem hl]; exact congrArg some h2)
  rw [Array.toList_setIfInBounds]
  omega
theorem all_listed {listed : Array Bool} (hacy : ∀ (i : Nat) (o : Oper), ops[i]? = some o -> ∀ e ∈ o.after, e.on < i) (hs : listed.size = ops.size) (hr : Region.ready md ops listed = []) : ∀ i, i < ops.size -> listed.getD i false = true := by
 intro i
 induction i using Nat.strongRecOn with
 | _ i ih =>
 intro hi
 cases hl : listed.getD i false with
 | true => rfl
 | false =>
  have hm : i ∈ Region.ready md ops listed := ready_iff.2 ⟨hi, by rw [Array.getD_eq_getD_getElem?, Array.getElem?_eq_getElem (by omega)] at hl ⊢; exact hl, ops[i], Array.getElem?_eq_getElem hi, fun e he _ => ih e.on (hacy i _ (Array.getElem?_eq_getElem hi) e he) (by have := hacy i _ (Array.getElem?_eq_getElem hi) e he; omega)⟩
  rw [hr] at hm
  cases hm
theorem wp_region_inv {id : Nat} {a : Act} {w : World} (J : Array Bool -> Act -> World -> Prop) (hm : P.follows .mixedOrders = true)
  (h0 : J (Array.replicate ops.size false) a { w with drawn := w.drawn + 1 })
  (hstep : ∀ (listed : Array Bool) (a : Act) (w : World) (i : Nat), listed.size = ops.size -> J listed a w -> i ∈ Region.ready .any ops listed -> wpOp P ops Q i (J (listed.setIfInBounds i true)) a w)
  (hdone : ∀ (listed : Array Bool) (a : Act) (w : World), listed.size = ops.size -> J listed a w -> Region.ready .any ops listed = [] -> Q .normal a w) : (Code.region id ops true).wp P Q a w :=
 wp_region_any hm (wpAny_inv hstep hdone ops.size _ a _ (by simp) (by simp) h0)
end
end Go.Proofs.YtpopgjgngbiofaaGreatDoor
namespace Go.Proofs.YtpopgjgngbiofaaGreatDoor
open Go.RowKit
theorem ETP.under {W W' : World} {X : XV} {t : Tree} (h : ETP W (fun _ => True) X t) (hb : Below W.heap.size W W') : ETP W' (fun _ => True) X t := h.kept (M := fun _ => False) (KeepsC.below hb) (fun b _ _ => ⟨id, trivial⟩)
def RuleX5 (W : World) (y : RV) (r : GR) : Prop := y.name = strOf r.name /\ TextOk r.name /\ ETP W (fun _ => True) y.expr r.expr
theorem RuleX5.under {W W' : World} {y : RV} {r : GR} (h : RuleX5 W y r) (hb : Below W.heap.size W W') : RuleX5 W' y r := ⟨h.1, h.2.1, h.2.2.under hb⟩
def GivesX (t : Tree) (w : World) (e : Ending) (w' : World) : Prop := ∃ k tx lo hi a1 n1 c1 a2 n2 c2, e = .returned (.agg #[.int .i64 k, .string tx, .slice a1 n1 c1, .int .i64 lo, .int .i64 hi, .slice a2 n2 c2]) /\ ETP w' (fun _ => True) ⟨k, tx, .slice a1 n1 c1, lo, hi, .slice a2 n2 c2⟩ t /\ Below w.heap.size w w'
theorem below_res {w : World} {g : Nat} (hg : w.heap.size <= g) {W : World} (hb : Below w.heap.size w W) (X : XV) : Below w.heap.size w (W.setRow g (XV.arr X)) :=
 ⟨hb.os, hb.tape, hb.output, by have := hb.size; simp [World.setRow]; omega, fun k hk => (setRow_other _ _ _ _ (by omega)).trans (hb.block k hk)⟩
theorem leaf_tree {W : World} {k : Int} {x : List Int} (h : TextOk x) : ETP W (fun _ => True) ⟨k, strOf x, .slice none 0 0, 0, 0, .slice none 0 0⟩ (.mk k x [] 0 0 []) :=
 ETP.mk (nums := []) (kids := []) [] h.1 h.2 (.inl ⟨rfl, _, _, rfl⟩) (.inl ⟨rfl, _, _, rfl⟩) rfl (fun i y t h => by simp at h)
theorem ref5_any {w : World} {S : ByteArray} {x : List Int} (hS : S = strOf x) (hx : TextOk x) : Calls Tryz.prog 28 #[.string S] w (GivesX (rfT x) w) := by
 have HRES := hh9 (res_new w)
 have HB := hh9 (below_res (Nat.le_refl _) ((Below.refl w.heap.size w).alloc (Nat.le_refl _) (.cells #[.int .i64 0, .string ⟨#[]⟩, .slice none 0 0, .int .i64 0, .int .i64 0, .slice none 0 0] 27)) ⟨4, S, .slice none 0 0, 0, 0, .slice none 0 0⟩)
 have HS := hh9 hS
 clear hS
 go_enter Tryz.func28, Tryz.ntmps28
 go_wp2_with (refine store_res rfl _ _ rfl w.heap.size ⟨4, S, .slice none 0 0, 0, 0, .slice none 0 0⟩ rfl rfl HRES.out rfl rfl ?_)
 exact bodyPost_ret_by (run_res rfl _ _ w.heap.size ⟨4, S, .slice none 0 0, 0, 0, .slice none 0 0⟩ rfl HRES.out) rfl ⟨_, _, _, _, _, _, _, _, _, _, rfl, by rw [HS.out]; exact leaf_tree hx, HB.out⟩
theorem nums_tree {W : World} {k : Int} {b : Nat} {cs : Array Value} {ns : List Int} (h : W.heap[b]? = some (.cells cs 3 (0, 0))) (hc : cs.toList = icells ns) (hn : ns.length <= 1000) : ETP W (fun _ => True) ⟨k, ⟨#[]⟩, .slice (some ⟨b, 0, none⟩) ns.length ns.length, 0, 0, .slice none 0 0⟩ (.mk k [] ns 0 0 []) := by
 refine ETP.mk (x := []) (kids := []) [] (by simp) (by simp) (.inr ⟨b, 0, ns.length, rfl, Nat.le_refl _, by unfold maxLen; omega, ⟨_, _, by unfold KT; decide, h⟩, trivial, fun j u hj => ?_⟩) (.inl ⟨rfl, _, _, rfl⟩) rfl (fun i y t h => by simp at h)
 unfold World.cell?
 simp only [h, Nat.zero_add]
 rw [<- hc] at hj
 simpa using hj
theorem one5_any {w : World} {n : Int} : Calls Tryz.prog 31 #[.int .i64 n] w (GivesX (nuT n) w) := by
 have HRES := hh9 ((res_new w).kept (Below.heap_alloc (w.alloc (.cells #[.int .i64 0, .string ⟨#[]⟩, .slice none 0 0, .int .i64 0, .int .i64 0, .slice none 0 0] 27)) (.cells #[.int .i64 n] 3) w.heap.size (by simp)))
 have hb : Below w.heap.size w ((w.alloc (.cells #[.int .i64 0, .string ⟨#[]⟩, .slice none 0 0, .int .i64 0, .int .i64 0, .slice none 0 0] 27)).alloc (.cells #[.int .i64 n] 3)) := ((Below.refl _ _).alloc (Nat.le_refl _) _).alloc (by simp) _
 have hn := heap_alloc_new (w.alloc (.cells #[.int .i64 0, .string ⟨#[]⟩, .slice none 0 0, .int .i64 0, .int .i64 0, .slice none 0 0] 27)) (.cells #[.int .i64 n] 3)
 rw [World.size_alloc] at hn
 have HB := hh9 (below_res (Nat.le_refl _) hb ⟨6, ⟨#[]⟩, .slice (some ⟨w.heap.size + 1, 0, none⟩) 1 1, 0, 0, .slice none 0 0⟩)
 have HT := hh9 (nums_tree (W := (((w.alloc (.cells #[.int .i64 0, .string ⟨#[]⟩, .slice none 0 0, .int .i64 0, .int .i64 0, .slice none 0 0] 27)).alloc (.cells #[.int .i64 n] 3)).setRow w.heap.size (XV.arr ⟨6, ⟨#[]⟩, .slice (some ⟨w.heap.size + 1, 0, none⟩) 1 1, 0, 0, .slice none 0 0⟩))) (k := 6) (ns := [n]) ((setRow_other _ _ _ _ (by omega)).trans hn) rfl (by simp))
 clear hb hn
 go_enter Tryz.func31, Tryz.ntmps31
 go_wp2_with (refine store_res rfl _ _ rfl w.heap.size ⟨6, ⟨#[]⟩, .slice (some ⟨w.heap.size + 1, 0, none⟩) 1 1, 0, 0, .slice none 0 0⟩ rfl rfl HRES.out rfl rfl ?_)
 exact bodyPost_ret_by (run_res rfl _ _ w.heap.size ⟨6, ⟨#[]⟩, .slice (some ⟨w.heap.size + 1, 0, none⟩) 1 1, 0, 0, .slice none 0 0⟩ rfl HRES.out) rfl ⟨_, _, _, _, _, _, _, _, _, _, rfl, HT.out, HB.out⟩
theorem span5_any {w : World} {n m : Int} : Calls Tryz.prog 30 #[.int .i64 n, .int .i64 m] w (GivesX (spT n m) w) := by
 have HRES := hh9 ((res_new w).kept (Below.heap_alloc (w.alloc (.cells #[.int .i64 0, .string ⟨#[]⟩, .slice none 0 0, .int .i64 0, .int .i64 0, .slice none 0 0] 27)) (.cells #[.int .i64 n, .int .i64 m] 3) w.heap.size (by simp)))
 have hb : Below w.heap.size w ((w.alloc (.cells #[.int .i64 0, .string ⟨#[]⟩, .slice none 0 0, .int .i64 0, .int .i64 0, .slice none 0 0] 27)).alloc (.cells #[.int .i64 n, .int .i64 m] 3)) := ((Below.refl _ _).alloc (Nat.le_refl _) _).alloc (by simp) _
 have hn := heap_alloc_new (w.alloc (.cells #[.int .i64 0, .string ⟨#[]⟩, .slice none 0 0, .int .i64 0, .int .i64 0, .slice none 0 0] 27)) (.cells #[.int .i64 n, .int .i64 m] 3)
 rw [World.size_alloc] at hn
 have HB := hh9 (below_res (Nat.le_refl _) hb ⟨7, ⟨#[]⟩, .slice (some ⟨w.heap.size + 1, 0, none⟩) 2 2, 0, 0, .slice none 0 0⟩)
 have HT := hh9 (nums_tree (W := (((w.alloc (.cells #[.int .i64 0, .string ⟨#[]⟩, .slice none 0 0, .int .i64 0, .int .i64 0, .slice none 0 0] 27)).alloc (.cells #[.int .i64 n, .int .i64 m] 3)).setRow w.heap.size (XV.arr ⟨7, ⟨#[]⟩, .slice (some ⟨w.heap.size + 1, 0, none⟩) 2 2, 0, 0, .slice none 0 0⟩))) (k := 7) (ns := [n, m]) ((setRow_other _ _ _ _ (by omega)).trans hn) rfl (by simp))
 clear hb hn
 go_enter Tryz.func30, Tryz.ntmps30
 go_wp2_with (refine store_res rfl _ _ rfl w.heap.size ⟨7, ⟨#[]⟩, .slice (some ⟨w.heap.size + 1, 0, none⟩) 2 2, 0, 0, .slice none 0 0⟩ rfl rfl HRES.out rfl rfl ?_)
 exact bodyPost_ret_by (run_res rfl _ _ w.heap.size ⟨7, ⟨#[]⟩, .slice (some ⟨w.heap.size + 1, 0, none⟩) 2 2, 0, 0, .slice none 0 0⟩ rfl HRES.out) rfl ⟨_, _, _, _, _, _, _, _, _, _, rfl, HT.out, HB.out⟩
def KidsE5 (W : World) (v : Value) (vs : List XV) (l : List Tree) : Prop := RowP W (fun _ => True) v l.length (vs.flatMap XV.cells) /\ vs.length = l.length /\ ∀ (i : Nat) (y : XV) (t : Tree), vs[i]? = some y -> l[i]? = some t -> ETP W (fun _ => True) y t
theorem KidsE5.under {W W' : World} {v : Value} {vs : List XV} {l : List Tree} (h : KidsE5 W v vs l) (hb : Below W.heap.size W W') : KidsE5 W' v vs l := ⟨h.1.kept (M := fun _ => False) (KeepsC.below hb) (fun b _ _ => ⟨id, trivial⟩), h.2.1, fun i y t hy ht => (h.2.2 i y t hy ht).under hb⟩
theorem KidsE5.tree {W : World} {v : Value} {vs : List XV} {l : List Tree} (h : KidsE5 W v vs l) (k lo hi : Int) : ETP W (fun _ => True) ⟨k, ⟨#[]⟩, .slice none 0 0, lo, hi, v⟩ (.mk k [] [] lo hi l) :=
 ETP.mk (x := []) (nums := []) vs (by simp) (by simp) (.inl ⟨rfl, _, _, rfl⟩) h.1 h.2.1 h.2.2
theorem ways5_any {w : World} {a : Option Addr} {n c : Nat} {vs : List XV} {l : List Tree} (h : KidsE5 w (.slice a n c) vs l) : Calls Tryz.prog 29 #[.slice a n c] w (GivesX (alT l) w) :=
 ways_any.mono fun e w' ⟨he, hb⟩ => ⟨_, _, _, _, _, _, _, _, _, _, he, (h.under hb).tree 1 0 0, hb⟩
def foldX (c : Int) : XV := ⟨5, strOf [c], .slice none 0 0, 0, 0, .slice none 0 0⟩
def hexX (X : XV) (i : Nat) : List XV := X :: (List.range i).map fun (j : Nat) => foldX (97 + (j : Int))
def hexL (i : Nat) : List Tree := rfT nDigit :: (List.range i).map fun (j : Nat) => foT [97 + (j : Int)]
theorem hexX_push (X : XV) (i : Nat) : hexX X (i + 1) = hexX X i ++ [foldX (97 + (i : Int))] := by
 unfold hexX
 rw [List.range_succ, List.map_append, List.cons_append]
 rfl
theorem hexL_len (i : Nat) : (hexL i).length = i + 1 := by simp [hexL]
theorem hexX_len (X : XV) (i : Nat) : (hexX X i).length = i + 1 := by simp [hexX]
theorem hex_kids {W : World} {X : XV} {v : Value} {base i : Nat} (hi : i <= 20) (hX : ETP W (fun _ => True) X (rfT nDigit)) (hr : W.ownsRow base 27 6 v (i + 1) ((hexX X i).flatMap XV.cells)) : KidsE5 W v (hexX X i) (hexL i) := by
 refine ⟨by rw [hexL_len]; exact RowP.of_own (by unfold KT; decide) hr (fun _ _ => trivial), by rw [hexX_len, hexL_len], fun j y t hy ht => ?_⟩
 cases j with
 | zero =>
  simp [hexX, hexL] at hy ht
  subst hy ht
  exact hX
 | succ j =>
  simp only [hexX, hexL, List.getElem?_cons_succ, List.getElem?_map] at hy ht
  cases hj : (List.range i)[j]? with
  | none => rw [hj] at hy; cases hy
  | some q =>
   rw [hj] at hy ht
   have e1 := Option.some.inj hy
   have e2 := Option.some.inj ht
   subst e1 e2
   have hq := List.mem_of_getElem? hj
   rw [List.mem_range] at hq
   exact leaf_tree ⟨fun c hc => by simp at hc; subst hc; omega, by simp⟩
theorem rf_any {W W' : World} {X : XV} {x : List Int} (h : ETP W (fun _ => True) X (rfT x)) : ETP W' (fun _ => True) X (rfT x) := by
 unfold rfT at h ⊢
 generalize ht : Tree.mk 4 x [] 0 0 [] = t at h
 cases h with
 | mk vs h0 hl h1 h2 h3 h4 =>
  simp only [Tree.mk.injEq] at ht
  obtain ⟨rfl, rfl, rfl, rfl, rfl, rfl⟩ := ht
  refine .mk vs h0 hl ?_ ?_ h3 (fun i y t hy ht => by simp at ht)
  ·rcases h1 with h | ⟨g, off, cap, e, _⟩
   ·exact .inl h
   ·exact .inl ⟨rfl, _, _, e⟩
  ·rcases h2 with h | ⟨g, off, cap, e, _⟩
   ·exact .inl h
   ·exact .inl ⟨rfl, _, _, e⟩
end Go.Proofs.YtpopgjgngbiofaaGreatDoor
