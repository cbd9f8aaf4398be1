/- What the laws of the grammar rest on, part 37: made by tools/merge5.py out of GAwake GFrame GLinesP. No condition but those that each says. -/
import Derived.Test.YtpopgjgngbiofaaGreatDoorM0
import Derived.Test.YtpopgjgngbiofaaGreatDoorM23
import Derived.Test.YtpopgjgngbiofaaGreatDoorM27
import Derived.Test.YtpopgjgngbiofaaGreatDoorM36
import Derived.Test.YtpopgjgngbiofaaGreatDoorCards
import Derived.Test.YtpopgjgngbiofaaGreatDoorTie
import Derived.ProofKit
import Derived.OpenShut
import Derived.LaidMore
import Derived.Lay
import Derived.Carry
import Derived.ChangeSlices
import Derived.ChangeMaps5
import Derived.SevenTiedAt
import Derived.Stop.Joined
import Derived.LaidSub
import Derived.Lib.LaidTab
set_option linter.unusedVariables false
set_option linter.unusedSimpArgs false
set_option maxRecDepth 100000
set_option maxHeartbeats 8000000
namespace Go.Proofs.YtpopgjgngbiofaaGreatDoor
open Go.RowKit
def OkR (l : List Rule) : Prop := ∀ r ∈ l, okF 60 r.expr = true /\ TextOk r.name
theorem LinesAt.linesE {W : World} {base : Nat} {v : Value} {l : List Rule} (h : LinesAt W base v l) (hok : OkR l) : ∃ ys, LinesE W v ys l := by
 obtain ⟨ys, h1, h2, h3⟩ := h
 refine ⟨ys, row_any_of_own h2, h1, fun i y r hy hr => ?_⟩
 obtain ⟨g1, g2, g3⟩ := h3 i y r hy hr
 obtain ⟨o1, o2⟩ := hok r (List.mem_of_getElem? hr)
 exact ⟨g1, o2.1, o2.2, g2, (g3.etp 60 o1).any⟩
theorem yread_told {w : World} {S : ByteArray} {X : List Int} {l : List Rule} (hS : S = strOf X) (hans : ∀ r, Answer (strOf X) r -> ∃ q, r = .ok l q) (hsz : X.length <= 1000000) (hok : OkR l) :
  Calls Tryz.prog 26 #[.string S] w (fun e w' => ∃ v ys, e = .returned (.tuple #[v, .int .i64 0]) /\ LinesE w' v ys l /\ Below w.heap.size w w') := by
 subst hS
 refine (yread_any (strOf X) w (by rw [strOf_size]; unfold maxLen; omega)).mono ?_
 rintro e w' ⟨r, ha, hb, h⟩
 obtain ⟨q, rfl⟩ := hans r ha
 obtain ⟨v, rfl, hl⟩ := h
 obtain ⟨ys, hys⟩ := hl.linesE hok
 exact ⟨v, ys, rfl, hys, hb⟩
theorem lineN_okF : ∀ n, n < 11 -> (okF 60 (lineN n).expr && (lineN n).name.all (fun c => decide (0 <= c) && decide (c <= 255)) && decide ((lineN n).name.length <= 1000)) = true := by decide +kernel
theorem linesN_ok (p : List Nat) : OkR (linesN p) := by
 intro r hr
 unfold linesN at hr
 obtain ⟨n, hn, rfl⟩ := List.mem_map.1 hr
 have h2 := lineN_okF (n % 11) (Nat.mod_lt _ (by omega))
 simp only [Bool.and_eq_true, List.all_eq_true, decide_eq_true_eq] at h2
 exact ⟨h2.1.1, h2.1.2, by omega⟩
theorem core_tws : ∀ r ∈ coreM, r.expr.tw <= 20 := by
 intro r h
 unfold coreM at h
 simp only [List.mem_cons, List.not_mem_nil, or_false] at h
 rcases h with rfl | rfl | rfl | rfl | rfl | rfl | rfl | rfl | rfl | rfl | rfl | rfl | rfl | rfl | rfl | rfl <;> simp [alT, seT, spT, foT, nuT, rfT, Tree.tw, nCr, nLf, nDigit, nWsp, nCrlf, nSp, nHtab]
theorem add_tws {g g' : List GR} {x : List Int} (h : addM g x = some g') : tws g' + 20 * g.length <= tws g + 20 * g'.length := by
 unfold addM at h
 cases hf : findM g x with
 | some i =>
  rw [hf] at h
  have e := Option.some.inj h
  subst e
  omega
 | none =>
  rw [hf] at h
  simp only [] at h
  cases hc : findM coreM x with
  | none => rw [hc] at h; cases h
  | some c =>
   rw [hc] at h
   obtain ⟨⟨r, h1, h2⟩, _⟩ := findM_some.1 hc
   simp only [h1, Option.map_some] at h
   have e := Option.some.inj h
   subst e
   have := core_tws r (List.mem_of_getElem? h1)
   rw [tws_push, List.length_append]
   simp only [List.length_cons, List.length_nil]
   omega
theorem adds_tws : ∀ {xs : List (List Int)} {g g' : List GR}, addAll g xs = some g' -> tws g' + 20 * g.length <= tws g + 20 * g'.length
 | [], g, g', h => by
  have e := Option.some.inj h
  subst e
  omega
 | x :: xs, g, g', h => by
  change (addM g x).bind (fun g' => addAll g' xs) = some g' at h
  cases hm : addM g x with
  | none => rw [hm] at h; cases h
  | some g1 =>
   rw [hm] at h
   have h1 := add_tws hm
   have h2 := adds_tws (xs := xs) (g := g1) (g' := g') h
   omega
theorem Compl.bounds {n i : Nat} {g : List GR} {R : Option (List GR)} (h : Compl n i g R) : ∀ g', R = some g' -> g'.length + missing g' <= g.length + missing g /\ tws g' + 20 * g.length <= tws g + 20 * g'.length := by
 induction h with
 | done h =>
  intro g' e
  have e := Option.some.inj e
  subst e
  omega
 | fail => intro g' e; cases e
 | step h1 h2 _ ih =>
  intro g' e
  have a := ih g' e
  have b := addAll_bound h2
  have c := adds_tws h2
  omega
theorem JoinsTo.small {l : List Rule} {g : List GR} {e : Int} (h : JoinsTo l g e) (ht : twl l <= 9000) : g.length <= 9016 /\ (∀ r ∈ g, dep r.expr <= 9000 /\ (namesM r.expr).length <= 1000000) /\ (universe5 g).length <= 1000000 := by
 have zero : ∀ g : List GR, g = [] -> g.length <= 9016 /\ (∀ r ∈ g, dep r.expr <= 9000 /\ (namesM r.expr).length <= 1000000) /\ (universe5 g).length <= 1000000 := fun g h => by
  subst h
  simp [universe5]
 rcases h with ⟨_, hg, _⟩ | ⟨_, ⟨_, hg, _⟩ | ⟨g0, n, R, h1, h2, ⟨_, hg, _⟩ | ⟨h3, _⟩⟩⟩
 ·exact zero g hg
 ·exact zero g hg
 ·exact zero g hg
 ·have hj := takes_tws h1
  have h5 := twl_len l
  obtain ⟨t, hgt, _⟩ := h2.gives g h3
  have hb : g.length + missing g <= g0.length + missing g0 /\ tws g + 20 * g0.length <= tws g0 + 20 * g.length := h2.bounds g h3
  have hm := missing_le g0
  simp only [tws, List.map_nil, List.sum_nil, List.length_nil] at hj hb
  have hgl : g.length <= 9016 := by omega
  have hl0 : g0.length <= g.length := by rw [hgt, List.length_append]; omega
  have htw : tws g <= 9400 := by unfold tws; omega
  refine ⟨hgl, fun r hr => ?_, ?_⟩
  ·have h6 := h2.mem g h3 r hr
   rcases h6 with h6 | h6
   ·have h7 := tws_mem h6
    have h8 := dep_tw r.expr.tw r.expr (Nat.le_refl _)
    unfold tws at h7
    omega
   ·obtain ⟨i, hi⟩ := List.getElem?_of_mem h6
    exact core_small i r hi
  ·have : ∀ g : List GR, (universe5 g).length <= tws g := fun g => by
    induction g with
    | nil => simp [universe5]
    | cons u g ih =>
     have h8 := (dep_tw u.expr.tw u.expr (Nat.le_refl _)).2
     simp only [universe5, tws, List.map_cons, List.flatten_cons, List.length_append, List.sum_cons] at ih ⊢
     omega
   have := this g
   omega
theorem awk_line {w : World} {b : Nat} (h : w.heap[b]? = some (.cells #[.string ⟨#[97]⟩, .bool false, .int .i64 4, .string ⟨#[98]⟩, .slice none 0 0, .int .i64 0, .int .i64 0, .slice none 0 0] 44 (0, 0))) :
  LinesE w (.slice (some ⟨b, 0, none⟩) 1 1) [⟨⟨#[97]⟩, false, ⟨4, ⟨#[98]⟩, .slice none 0 0, 0, 0, .slice none 0 0⟩⟩] awkL2 := by
 refine ⟨.inr ⟨b, 0, 1, rfl, Nat.le_refl _, by unfold maxLen; omega, (Array.getElem?_eq_some_iff.1 h).1, fun j u hj => ?_⟩, rfl, fun i y r hy hr => ?_⟩
 ·unfold World.cell?
  simp only [h, Nat.zero_add]
  have e : ∀ (l : List Value) (a : Array Value), l = a.toList -> l[j]? = some u -> (if (none : Option Nat).isSome = true then none else a[j]?) = some u := fun l a h1 h2 => by subst h1; simpa using h2
  exact e _ _ rfl hj
 ·cases i with
  | zero =>
   simp [awkL2] at hy hr
   subst hy hr
   refine ⟨rfl, by simp, by simp, rfl, ?_⟩
   exact ETree.mk (x := [98]) (nums := []) (kids := []) [] (by simp) (by simp) (.inl ⟨rfl, _, _, rfl⟩) (.inl ⟨rfl, _, _, rfl⟩) rfl (fun i y t h => by simp at h)
  | succ i => simp at hy
theorem texts_at {w : World} {b : Nat} {L : List (List Int)} {cs : Array Value} (h : w.heap[b]? = some (.cells cs 9 (0, 0))) (hc : cs.toList = scells L) (hn : L.length <= 1000000) : RowAny w (.slice (some ⟨b, 0, none⟩) L.length L.length) L.length (scells L) := by
 refine .inr ⟨b, 0, L.length, rfl, Nat.le_refl _, by unfold maxLen; omega, (Array.getElem?_eq_some_iff.1 h).1, fun j u hj => ?_⟩
 unfold World.cell?
 simp only [h, Nat.zero_add]
 rw [<- hc] at hj
 simpa using hj
theorem awake_any {w : World} (hT : Tabs w) : Calls Tryz.prog 11 #[] w (GivesBool true w) := by
 have HT := hh9 hT
 have hans : ∀ r, Answer (strOf awkT) r -> ∃ q, r = .ok awkL q := fun r hr => by
  rw [<- awk_text] at hr
  obtain ⟨q, hq⟩ := lines_answer (p := [0, 2]) (by simp) hr
  rw [awk_lines] at hq
  exact ⟨q, hq⟩
 have hok : OkR awkL := by rw [<- awk_lines]; exact linesN_ok _
 have htw : twl awkL <= 9000 := by
  have := linesN_tw [0, 2]
  rw [awk_lines] at this
  simp at this
  omega
 have htw2 : twl awkL2 <= 9000 := by simp [awkL2, twl, rfT, Tree.tw]
 have HR := hh9 (fun (S : ByteArray) (hS : S = strOf awkT) => yread_told (w := w) hS hans (by simp [awkT]) hok)
 clear hT hans hok
 go_enter Tryz.func11, Tryz.ntmps11
 go_wp2_with fail
 refine (HR.out _ (by kernel_rfl)).mono ?_
 rintro e w1 ⟨v1, ys1, rfl, hl1, hb1⟩
 have HB1 := hh9 hb1
 have HJ1 := hh9 (join_any hl1 (HT.out.below hb1) htw)
 obtain ⟨a1, c1, hv1⟩ : ∃ a c, v1 = .slice a 2 c := by
  obtain ⟨a, c, h, _⟩ := hl1.1.slice
  exact ⟨a, c, h⟩
 subst hv1
 clear hb1 hl1
 go_wp2_with fail
 refine HJ1.out.mono ?_
 rintro e w2 ⟨v2, ys2, g2, er2, rfl, hJ2, hR2, hb2⟩
 obtain ⟨rfl, rfl⟩ := hJ2.one awk_joins
 have HB2 := hh9 (below_then HB1.out hb2)
 have HR2 := hh9 hR2
 obtain ⟨b, off, c2, hv2, hb0, hcs⟩ : ∃ b off c, v2 = .slice (some ⟨b, off, none⟩) 2 c /\ b < w2.heap.size /\ ∀ (j : Nat) (u : Value), (ys2.flatMap RV.cells)[j]? = some u -> w2.cell? ⟨b, off + j, none⟩ = some u := by
  rcases hR2.1 with ⟨h0, _⟩ | ⟨b, off, cap, h1, _, _, h3, h4⟩
  ·cases h0
  ·exact ⟨b, off, cap, h1, h3, h4⟩
 obtain ⟨Y0, Y1, rfl⟩ : ∃ Y0 Y1, ys2 = [Y0, Y1] := by
  have h := hR2.2.1
  match ys2, h with
  | [Y0, Y1], _ => exact ⟨_, _, rfl⟩
 subst hv2
 have HCS := hh9 hcs
 have hn1 := (hR2.2.2 1 Y1 ⟨nDigit, spT 48 57⟩ rfl rfl).1
 have hE0 := (hR2.2.2 0 Y0 ⟨[97], alT [foT [120], rfT nDigit]⟩ rfl rfl).2.2
 obtain ⟨⟨na, nn, nc, hns⟩, ka, kn, kc, hks⟩ := hE0.slices
 obtain ⟨nm0, ⟨k, tx, nv, lo, hi, kv⟩⟩ := Y0
 obtain ⟨nm1, X1⟩ := Y1
 simp only [] at hns hks hn1
 subst hns hks
 have hn1 : nm1 = ⟨#[100, 105, 103, 105, 116]⟩ := hn1.trans (by kernel_rfl)
 subst hn1
 have HE0 := hh9 hE0
 clear hJ2 hR2 hb2 hcs hE0
 have hb3 : Below w2.heap.size w2 (w2.alloc (.cells #[.string ⟨#[97]⟩, .bool false, .int .i64 4, .string ⟨#[98]⟩, .slice none 0 0, .int .i64 0, .int .i64 0, .slice none 0 0] 44)) := (Below.refl _ _).alloc (Nat.le_refl _) _
 have HB3 := hh9 (below_then HB2.out hb3)
 have HJ3 := hh9 (join_any (awk_line (heap_alloc_new w2 _)) (HT.out.below HB3.out) htw2)
 have HB23 := hh9 hb3
 clear hb3
 go_wp2_with fail
 refine HJ3.out.mono ?_
 rintro e w4 ⟨v4, ys4, g4, er4, rfl, hJ4, hR4, hb4⟩
 obtain ⟨rfl, rfl⟩ := hJ4.one awk_joins2
 have HB4 := hh9 (below_then HB3.out hb4)
 have HB24 := hh9 (below_then HB23.out hb4)
 have HR4 := hh9 (HR2.out.below HB24.out)
 obtain ⟨a4, c4, hv4⟩ : ∃ a c, v4 = .slice a 0 c := by
  obtain ⟨a, c, h, _⟩ := hR4.1.slice
  exact ⟨a, c, h⟩
 subst hv4
 have c7 : w4.cell? ⟨b, off + 7, none⟩ = some (.string ⟨#[100, 105, 103, 105, 116]⟩) := (HB24.out.cell (p := ⟨b, off + 7, none⟩) hb0).trans (HCS.out 7 _ rfl)
 have hdig : TextOk nDigit := by unfold TextOk; decide
 have ha1 : TextOk [97] := by unfold TextOk; decide
 have ed : (⟨#[100, 105, 103, 105, 116]⟩ : ByteArray) = strOf nDigit := by kernel_rfl
 have ea : (⟨#[97]⟩ : ByteArray) = strOf [97] := by kernel_rfl
 have HF := hh9 (find_any HR4.out.rules hdig)
 rw [findI_some awk_find2, <- ed] at HF
 clear hJ4 hR4 hb4
 go_wp2_with fail
 refine HF.out.mono ?_
 rintro e w5 ⟨rfl, hb5⟩
 have HB5 := hh9 (below_then HB4.out hb5)
 have HB25 := hh9 (below_then HB24.out hb5)
 have hsmall := awk_joins.small htw
 have HRE := hh9 (reach_any (x := [97]) (HR2.out.below HB25.out) ha1 (by omega) hsmall.2.1 hsmall.2.2)
 rw [<- ea] at HRE
 clear hb5 hsmall
 go_wp2_with fail
 refine HRE.out.mono ?_
 rintro e w6 ⟨v6, R6, rfl, hR6, hrow6, _, hb6⟩
 obtain rfl := hR6.one awk_reach
 have HB6 := hh9 (below_then HB5.out hb6)
 have HB26 := hh9 (below_then HB25.out hb6)
 have hba : Below w6.heap.size w6 (w6.alloc (.cells #[.string ⟨#[97]⟩, .string ⟨#[100, 105, 103, 105, 116]⟩] 9)) := (Below.refl _ _).alloc (Nat.le_refl _) _
 have HS1 := hh9 (sameT_any (w := w6.alloc (.cells #[.string ⟨#[97]⟩, .string ⟨#[100, 105, 103, 105, 116]⟩] 9)) (L := [[97], nDigit]) ((row_any_of_own hrow6).below hba) (texts_at (heap_alloc_new w6 _) (by kernel_rfl) (by simp)))
 have HBA := hh9 hba
 obtain ⟨a6, c6, hv6⟩ : ∃ a c, v6 = .slice a 2 c := own_slice5 hrow6
 subst hv6
 clear hR6 hrow6 hb6 hba
 go_wp2_with fail
 refine HS1.out.mono ?_
 rintro e w7 ⟨rfl, hb7⟩
 have HB7 := hh9 (below_then (below_then HB6.out HBA.out) hb7)
 have HB27 := hh9 (below_then (below_then HB26.out HBA.out) hb7)
 have HCW := hh9 (fun (j : Nat) (u : Value) (hj : ([(⟨nm0, ⟨k, tx, .slice na nn nc, lo, hi, .slice ka kn kc⟩⟩ : RV), ⟨⟨#[100, 105, 103, 105, 116]⟩, X1⟩].flatMap RV.cells)[j]? = some u) => (HB27.out.cell (p := ⟨b, off + j, none⟩) hb0).trans (HCS.out j u hj))
 have e1 := HCW.out 1 _ rfl
 have e2 := HCW.out 2 _ rfl
 have e3 := HCW.out 3 _ rfl
 have e4 := HCW.out 4 _ rfl
 have e5 := HCW.out 5 _ rfl
 have e6 := HCW.out 6 _ rfl
 have hE7 := HE0.out.kept (M := fun _ => False) (P' := fun _ => True) (KeepsC.below HB27.out) (fun b _ _ => ⟨id, trivial⟩)
 have hdn := dep_tw (alT [foT [120], rfT nDigit]).tw _ (Nat.le_refl _)
 have htwa : (alT [foT [120], rfT nDigit]).tw <= 100 := by simp [alT, foT, rfT, Tree.tw, nDigit]
 have HNM := hh9 (nms_any hE7 (by omega) (by omega))
 rw [awk_names] at HNM
 unfold XV.val at HNM
 simp only [] at HNM
 clear hb7 hE7 hdn htwa
 go_wp2_with fail
 refine HNM.out.mono ?_
 rintro e w8 ⟨v8, rfl, hrow8, hb8⟩
 have HB8 := hh9 (below_then HB7.out hb8)
 have hba8 : Below w8.heap.size w8 (w8.alloc (.cells #[.string ⟨#[100, 105, 103, 105, 116]⟩] 9)) := (Below.refl _ _).alloc (Nat.le_refl _) _
 have HS2 := hh9 (sameT_any (w := w8.alloc (.cells #[.string ⟨#[100, 105, 103, 105, 116]⟩] 9)) (L := [nDigit]) ((row_any_of_own hrow8).below hba8) (texts_at (heap_alloc_new w8 _) (by kernel_rfl) (by simp)))
 have HBA8 := hh9 hba8
 obtain ⟨a8, c8, hv8⟩ : ∃ a c, v8 = .slice a 1 c := own_slice5 hrow8
 subst hv8
 clear hrow8 hb8 hba8
 go_wp2_with fail
 refine HS2.out.mono ?_
 rintro e w9 ⟨rfl, hb9⟩
 have HB9 := hh9 (below_then (below_then HB8.out HBA8.out) hb9)
 clear hb9
 go_wp2_with fail
 go_ret
 exact ⟨rfl, HB9.out⟩
end Go.Proofs.YtpopgjgngbiofaaGreatDoor
namespace Go.Proofs.YtpopgjgngbiofaaGreatDoor
open Go.ChangeShapes Go.WideShapes Go.ChangeAt Go.RowKit
theorem laidOutP : laidOutB Tryz.prog = true := by kernel_rfl
theorem cellsByte : Tryz.prog.cellsOf 5 = 1 := by kernel_rfl
theorem bounds_u8 {x : Int} (h : (Lit.int .u8 x).wf = true) : 0 <= x /\ x <= 255 := by simpa [Lit.wf, IntKind.min, IntKind.max, IntKind.signed, IntKind.bits] using h
def BytesAt (W : World) (v : Value) (zs : List Int) : Prop :=
 ∃ a cap, v = .slice a zs.length cap /\ zs.length <= cap /\ zs.length <= maxLen /\ (∀ z ∈ zs, 0 <= z /\ z <= 255) /\
  (0 < zs.length -> ∃ b off, a = some ⟨b, off, none⟩ /\ b < W.heap.size /\ ∀ (i : Nat) (z : Int), zs[i]? = some z -> W.cell? ⟨b, off + i, none⟩ = some (.int .u8 z))
theorem BytesAt.below {W W' : World} {v : Value} {zs : List Int} (h : BytesAt W v zs) (hb : Below W.heap.size W W') : BytesAt W' v zs := by
 obtain ⟨a, cap, h1, h2, h3, h4, h5⟩ := h
 refine ⟨a, cap, h1, h2, h3, h4, fun hn => ?_⟩
 obtain ⟨b, off, ha, hlt, hc⟩ := h5 hn
 exact ⟨b, off, ha, Nat.lt_of_lt_of_le hlt hb.size, fun i z hz => (hb.cell (p := ⟨b, off + i, none⟩) hlt).trans (hc i z hz)⟩
def bruijnTab : List Int := [0, 1, 56, 2, 57, 49, 28, 3, 61, 58, 42, 50, 38, 29, 17, 4, 62, 47, 59, 36, 45, 43, 51, 22, 53, 39, 33, 30, 24, 18, 12, 5, 63, 55, 48, 27, 60, 41, 37, 16, 46, 35, 44, 21, 52, 32, 23, 11, 54, 26, 40, 15, 34, 20, 31, 10, 25, 14, 19, 9, 13, 8, 7, 6]
theorem tabs_of_laid {l : List (String × DataW Unit)} {W : World} (h : laidMetH Tryz.prog l W) (hp : laidMetH Tryz.prog l W = laidMet Tryz.prog l W)
  (e1 : l.filter (fun x => x.1 == "math/bits.deBruijn64tab") = [("math/bits.deBruijn64tab", Lib.tabData .u8 bruijnTab)])
  (e2 : l.filter (fun x => x.1 == "internal/strconv.uint64pow10") = [("internal/strconv.uint64pow10", Lib.tabData .u64 Lib.pow10Tab)]) : Tabs W := by
 rw [hp] at h
 have h1 := laidMet.filter (fun x => x.1 == "math/bits.deBruijn64tab") h
 have h2 := laidMet.filter (fun x => x.1 == "internal/strconv.uint64pow10") h
 rw [e1] at h1
 rw [e2] at h2
 have t1 := Lib.tabIs_of_head (g := 6) (t := 206) (e := 5) (n := 64) (by kernel_rfl) (by kernel_rfl) Tryz.underlying206 Tryz.underlying5 (by kernel_rfl) (by kernel_rfl) h1
 have t2 := Lib.tabIs_of_head (g := 2) (t := 188) (e := 174) (n := 20) (by kernel_rfl) (by kernel_rfl) Tryz.underlying188 Tryz.underlying174 (by kernel_rfl) (by kernel_rfl) h2
 exact ⟨Lib.TabIs.cell t1 (by kernel_rfl) 15 (by decide), t2⟩
section
variable {H : Type} {enc : TypeId × Value → H}
theorem open_bytes {W : World} {base : Nat} {v : Value} {d : DataW H} {p : List MemPlace} (hval : Value.okWide Tryz.prog W .any base 40 v) (h : DataW.Trod enc Tryz.prog W 0 (fun _ => true) true 40 v d p) :
  ∃ zs, BytesAt W v zs := by
 obtain ⟨a0, len, cap, rfl⟩ := okWide_slice Tryz.underlying40 hval
 obtain ⟨fuel, hf⟩ := h
 rcases open_ints Tryz.underlying40 Tryz.underlying5 cellsByte hf with ⟨hcs, hx⟩ | ⟨a, len', cap', zs, hcs, _, hl, hm, hz, hx, hc, hw⟩
 ·simp [Value.cells] at hcs
  obtain ⟨rfl, rfl, rfl⟩ := hcs
  exact ⟨[], none, 0, rfl, Nat.le_refl _, Nat.zero_le _, fun z hz => by simp at hz, fun h => by simp at h⟩
 ·simp [Value.cells] at hcs
  obtain ⟨rfl, rfl, rfl⟩ := hcs
  simp only [if_true] at hz

  have hlen : (zs.take len).length = len := by rw [List.length_take]; omega
  refine ⟨zs.take len, some a, cap, by rw [hlen], by omega, Nat.le_trans (by omega : (zs.take len).length <= cap) hm, fun z hz => bounds_u8 (hw z (List.mem_of_mem_take hz)), fun hn => ?_⟩
  obtain ⟨b, off, spot⟩ := a
  have h0 := hc 0 (by omega)
  have hspot : spot = none := by simpa [Addr.add] using World.cell?_spot h0
  subst hspot
  have hlt : b < W.heap.size := by
   have := World.block_lt_of_cell? W _ h0
   simpa [Addr.add] using this
  refine ⟨b, off, rfl, hlt, fun i z hzi => ?_⟩
  have hi : i < len := by
   have := (List.getElem?_eq_some_iff.1 hzi).1
   omega
  have hci := hc i (by omega)
  rw [List.getElem?_take_of_lt hi] at hzi
  have e : (⟨b, off, none⟩ : Addr).add i = ⟨b, off + i, none⟩ := by cases i <;> simp [Addr.add]
  rw [e, List.getD_eq_getElem?_getD, hzi] at hci
  exact hci
theorem post_of_old {P : Program} {f : Func} {s : ChangeSpec} {fresh handsOn : Bool} {W W' : World} {args : Array Value} {v : Value} {ds gs : List (DataW H)} {before pa pv : List MemPlace}
  (hW : DataW.Whole enc P f.params.toList s.vars false W args.toList ds gs before)
  (hres : ∀ (b : Nat) (sp : Nat -> Bool) (hd : Bool), DataW.TrodAll enc P W' b sp hd f.resultTypes.toList (v.resultList f.resultTypes.size) (s.fn H (ds ++ gs)).results [])
  (hargs : DataW.TrodAll enc P W' 0 (fun b => decide (b < W.heap.size)) true f.params.toList args.toList (s.fn H (ds ++ gs)).args pa)
  (hvars : ∀ sp : Nat -> Bool, DataW.TrodVars enc P W' sp s.vars (s.fn H (ds ++ gs)).vars pv)
  (hps : before = pa ++ pv) (hb : Below W.heap.size W W') :
  s.post enc P f false fresh handsOn false W args v W' := by
 refine ⟨ds, gs, before, [], pa, pv, hW, hres _ _ _, hargs, hvars _, World.keptBut_mono (fun p hp => ⟨hp, ?_⟩) (hb.frame _), fun h => by cases h⟩
 rw [hps, List.mem_append] at hp
 exact Or.inr hp
end
end Go.Proofs.YtpopgjgngbiofaaGreatDoor
namespace Go.Proofs.YtpopgjgngbiofaaGreatDoor
open Go.RowKit
def pickT : List (List Int) := (List.range 11).map textN
theorem pickT_at (n : Nat) (h : n < 11) : pickT[n]? = some (textN n) := by
 unfold pickT
 rw [List.getElem?_map, List.getElem?_range h]
 rfl
theorem list_cell {w : World} {b : Nat} {cs : Array Value} {L : List (List Int)} {j : Nat} {x : List Int} (h : w.heap[b]? = some (.cells cs 9 (0, 0))) (hc : cs.toList = scells L) (hx : L[j]? = some x) : w.cell? ⟨b, j, none⟩ = some (.string (strOf x)) := by
 rw [cell_of_row _ _ _ _ _ _ h, <- Array.getElem?_toList, hc]
 unfold scells
 rw [List.getElem?_map, hx]
 rfl
theorem linesL_any {w : World} : Calls Tryz.prog 39 #[] w (fun e w' => ∃ b, e = .returned (.slice (some ⟨b, 0, none⟩) 11 11) /\ b < w'.heap.size /\ (∀ (j : Nat) (x : List Int), pickT[j]? = some x -> w'.cell? ⟨b, j, none⟩ = some (.string (strOf x))) /\ Below w.heap.size w w') := by
 go_enter Tryz.func39, Tryz.ntmps39
 go_wp2_with fail
 go_ret
 refine ⟨w.heap.size, rfl, by simp, fun j x hj => ?_, by go_grown⟩
 refine list_cell (L := pickT) (heap_alloc_new w _) (by kernel_rfl) hj
def takenN (k : Nat) (zs : List Int) : List Nat := (zs.take k).map Int.toNat
theorem takenN_len (k : Nat) (zs : List Int) : (takenN k zs).length <= k := by unfold takenN; simp; omega
theorem takenN_step {zs : List Int} {i : Nat} {z : Int} (h : zs[i]? = some z) : takenN (i + 1) zs = takenN i zs ++ [z.toNat] := by
 unfold takenN
 rw [List.take_add_one, h]
 simp
theorem linesT_push (p : List Nat) (n : Nat) : linesT (p ++ [n]) = linesT p ++ (textN (n % 11) ++ [10]) := by
 unfold linesT
 simp
def GivesLines (w : World) (e : Ending) (w' : World) : Prop := ∃ v ys p, e = .returned v /\ p.length <= 10 /\ LinesE w' v ys (linesN p) /\ Below w.heap.size w w'
theorem lawlines_any {w : World} {v : Value} {zs : List Int} (h : BytesAt w v zs) : Calls Tryz.prog 21 #[v] w (GivesLines w) := by
 obtain ⟨a, cap, hv, hcap, hmx, hz, hcs⟩ := h
 obtain ⟨n, hn⟩ : ∃ n, n = zs.length := ⟨_, rfl⟩
 rw [<- hn] at hv hcap hmx hcs
 subst hv
 have HZ := hh9 hz
 have HCS := hh9 hcs
 have HN := hh9 hn
 unfold maxLen at hmx
 clear hz hcs hn
 go_enter Tryz.func21, Tryz.ntmps21
 go_wp2_with (go_at_call 39; refine linesL_any.mono ?_; rintro e w1 ⟨b, rfl, hbl, hpc, hb1⟩; have HPC := hh9 hpc; have HB1 := hh9 hb1; clear hpc hb1)
 go_loopw [4, 5] (fun s v wr => ∃ (i : Nat) (T : ByteArray), s = .string T /\ v = .int .i64 i /\ i <= n /\ i <= 10 /\ T.size <= 31 * i /\ Hid (T = strOf (linesT (takenN i zs))) /\ Hid (Below w1.heap.size w1 wr)) (fun _ v _ => 10 - (intOf v).toNat)
 case atStart => exact ⟨0, ⟨#[]⟩, rfl, rfl, by omega, by omega, by simp [ByteArray.size], rfl, Below.refl _ _⟩
 case round =>
  obtain ⟨i, T, rfl, rfl, hi, hi10, hT, HT, HB⟩ := hrel
  by_cases hlt : i < n /\ i < 10
  ·obtain ⟨hl1, hl2⟩ := hlt
   obtain ⟨gb, off, ha, hgl, hcz⟩ := HCS.out (by omega)
   subst ha
   obtain ⟨z, hzi⟩ : ∃ z, zs[i]? = some z := ⟨_, List.getElem?_eq_getElem (by rw [<- HN.out]; exact hl1)⟩
   have hzb := HZ.out z (List.mem_of_getElem? hzi)
   have c1 : wr.cell? ⟨gb, off + i, none⟩ = some (.int .u8 z) := ((below_then HB1.out HB.out).cell (p := ⟨gb, off + i, none⟩) hgl).trans (hcz i z hzi)
   have c2 : wr.cell? ⟨b, (z % 11).toNat, none⟩ = some (.string (strOf (textN (z.toNat % 11)))) := by
    rw [show (z % 11).toNat = z.toNat % 11 by omega]
    exact (HB.out.cell (p := ⟨b, z.toNat % 11, none⟩) hbl).trans (HPC.out _ _ (pickT_at _ (Nat.mod_lt _ (by omega))))
   have hq1 : decide ((i : Int) < (n : Int)) = true := decide_eq_true (by omega)
   have hq2 : decide ((i : Int) < 10) = true := decide_eq_true (by omega)
   have hzw : wrap64 z = z := by unfold wrap64 at *; omega
   obtain ⟨X, hX⟩ : ∃ X, X = strOf (textN (z.toNat % 11)) := ⟨_, rfl⟩
   have hok := lineN_ok (z.toNat % 11) (Nat.mod_lt _ (by omega))
   simp only [Bool.and_eq_true, decide_eq_true_eq] at hok
   have hXs : X.size <= 30 := by rw [hX, strOf_size]; exact hok.1.2
   rw [<- hX] at c2
   have HX := hh9 hX
   have HNX : Hid ((T ++ X) ++ (⟨#[10]⟩ : ByteArray) = strOf (linesT (takenN (i + 1) zs))) := by
    unfold Hid
    rw [takenN_step hzi, linesT_push, HT.out, hX, str_app4, show (⟨#[10]⟩ : ByteArray) = strOf [10] from rfl, str_app4, List.append_assoc]
   clear hX hok hcz hzi
   go_wp2_with fail
   go_roundw
   case rel => exact ⟨i + 1, (T ++ X) ++ (⟨#[10]⟩ : ByteArray), rfl, by go_num, by omega, by omega, (by rw [ByteArray.size_append, ByteArray.size_append]; show T.size + X.size + 1 <= _; omega), HNX, HB⟩
   case measure => (simp [intOf] <;> omega)
  ·obtain ⟨p, hp⟩ : ∃ p, p = takenN i zs := ⟨_, rfl⟩
   have hpl : p.length <= 10 := by rw [hp]; have := takenN_len i zs; omega
   have HP := hh9 (show T = strOf (linesT p) by rw [hp]; exact HT.out)
   have HR := hh9 (yread_told (w := wr) (X := linesT p) (l := linesN p) HP.out (fun r hr => lines_answer (by omega) hr) (by have := linesT_len p; omega) (linesN_ok p))
   clear hp
   rcases Nat.lt_or_ge i n with h1 | h1
   ·obtain rfl : i = 10 := by omega
    have hq1 : decide (((10 : Nat) : Int) < (n : Int)) = true := decide_eq_true (by omega)
    go_wp2_with (go_at_call 26; refine HR.out.mono ?_; rintro e w3 ⟨v3, ys3, rfl, hl3, hb3⟩; have HL3 := hh9 hl3; have HB3 := hh9 (below_then (below_then HB1.out HB.out) hb3); clear hl3 hb3)
    go_ret
    exact ⟨_, ys3, p, rfl, hpl, HL3.out, HB3.out⟩
   ·have hq1 : decide ((i : Int) < (n : Int)) = false := decide_eq_false (by omega)
    go_wp2_with (go_at_call 26; refine HR.out.mono ?_; rintro e w3 ⟨v3, ys3, rfl, hl3, hb3⟩; have HL3 := hh9 hl3; have HB3 := hh9 (below_then (below_then HB1.out HB.out) hb3); clear hl3 hb3)
    go_ret
    exact ⟨_, ys3, p, rfl, hpl, HL3.out, HB3.out⟩
end Go.Proofs.YtpopgjgngbiofaaGreatDoor
