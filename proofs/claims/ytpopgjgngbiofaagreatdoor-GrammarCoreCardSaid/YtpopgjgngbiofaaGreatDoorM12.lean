/- What the laws of the grammar rest on, part 12: made by tools/merge5.py out of GNms GNm5 GMap GRow. No condition but those that each says. -/
import Derived.Test.YtpopgjgngbiofaaGreatDoorM11
import Derived.Maps.AppendAt
import Derived.Laws.AppendOwnNone
import Derived.Maps.OwnSet
import Derived.Deep.AppendLies
import Derived.Deep.RegionLaw
set_option linter.unusedVariables false
set_option linter.unusedSimpArgs false
set_option maxRecDepth 100000
set_option maxHeartbeats 8000000
namespace Go.Proofs.YtpopgjgngbiofaaGreatDoor
open Go.RowKit Go.Shelf
attribute [local go_sem] Oper.semAt_some
theorem keepsC_t {M : Nat -> Prop} {X Y Z : World} (h : KeepsC M X Y) (k : KeepsC M Y Z) : KeepsC M X Z := h.trans k
theorem own_mono {W : World} {base base' size n : Nat} {e : TypeId} {v : Value} {xs : List Value} (h : W.ownsRow base e size v n xs) (hb : base' <= base) : W.ownsRow base' e size v n xs := by
 refine ⟨h.1, ?_⟩
 rcases h.2 with hn | ⟨g, cap, cur, hv, hg, rest⟩
 ·exact .inl hn
 ·exact .inr ⟨g, cap, cur, hv, by omega, rest⟩
def scells (l : List (List Int)) : List Value := l.map fun x => .string (strOf x)
theorem infoString : (Tryz.prog.info? 9).map (fun i => (i.zero, i.size, i.bytes)) = some (some (.string ⟨#[]⟩), 1, 16) := by kernel_rfl
theorem collects {W w1 : World} {n₀ base B : Nat} {t e : TypeId} {size k m : Nat} {v v' : Value} {xs ys : List Value} {tmp : Obj}
  (hv : Go.Boxed W B t v) (hte : t ≠ e) (hkt : ¬ KT t) (hke : ¬ KT e) (hrow : W.ownsRow base e size v k xs) (hn₀ : n₀ <= B) (hB : B < base) (hW : base <= W.heap.size)
  (hown' : w1.ownsRow base e size v' m ys) (hgrow : (W.alloc tmp).grownBy w1 v.ownBlock) :
  Go.Boxed w1 B t v /\ Go.Boxed (w1.setCell ⟨B, 0, none⟩ v') B t v' /\ (w1.setCell ⟨B, 0, none⟩ v').ownsRow base e size v' m ys /\ KeepsOthers W (w1.setCell ⟨B, 0, none⟩ v') /\ KeepsC (fun _ => False) W (w1.setCell ⟨B, 0, none⟩ v') /\ Below n₀ W (w1.setCell ⟨B, 0, none⟩ v') := by
 obtain ⟨hv1, hv2, _, hk2, hb2⟩ := hv.appended (n₀ := n₀) hte (own_mono hrow (by omega)) (by omega) hn₀ (own_mono hown' (by omega)) hgrow
 refine ⟨hv1, hv2, hown'.kept (grownBy_setCell' w1 B v') (.inr (hv1.not_row hte hown').symm), hk2, ⟨hk2.size, fun b c t' z _ ht hb => ?_⟩, hb2⟩
 have hne : b ≠ B := fun h => by
  subst h
  have e := Option.some.inj (hb.symm.trans hv)
  simp at e
  exact hkt (e.2.1 ▸ ht)
 have hlt := (Array.getElem?_eq_some_iff.1 hb).1
 refine (Below.heap_setCell _ _ _ _ hne).trans ((hgrow.block b (by simp; omega) ?_).trans ((Below.heap_alloc _ _ _ hlt).trans hb))
 rcases hrow.2 with ⟨rfl, _⟩ | ⟨g, cap, cur, rfl, hg, hgb, _⟩
 ·simp [Value.ownBlock]
 ·intro h
  simp [Value.ownBlock] at h
  subst h
  have e := Option.some.inj (hb.symm.trans hgb)
  simp at e
  exact hke (e.2.1 ▸ ht)
def GivesTexts (l : List (List Int)) (w : World) (e : Ending) (w' : World) : Prop :=
 ∃ v, e = .returned v /\ w'.ownsRow w.heap.size 9 1 v l.length (scells l) /\ Below w.heap.size w w'
theorem names_in {w : World} {P : Nat -> Prop} {X : XV} {t : Tree} (hE : ETP w P X t) (hd : dep t <= 9000) (hlen : (namesM t).length <= 1000000000) :
  CallsIn Fence.wide 6 Tryz.prog 23 #[X.val] w (GivesTexts (namesM t) w) := by
 obtain ⟨NM, hNM⟩ : ∃ NM, NM = namesM t := ⟨_, rfl⟩
 rw [<- hNM] at hlen ⊢
 have HNM := hh9 hNM
 clear hNM
 obtain ⟨i0, hi0, hz0, hz1, hz2⟩ := info_parts infoString
 have hX : X = ⟨X.kind, X.text, X.ns, X.lo, X.hi, X.ks⟩ := rfl
 obtain ⟨na, nn, nc, hns⟩ : ∃ a n c, X.ns = .slice a n c := by
  cases hE with
  | mk vs h0 hl h1 h2 h3 h4 =>
   rcases h1 with ⟨_, a, cap, h⟩ | ⟨g', o', cap', h, _⟩
   ·exact ⟨_, _, _, h⟩
   ·exact ⟨_, _, _, h⟩
 obtain ⟨ka, kn, kc, hks⟩ : ∃ a n c, X.ks = .slice a n c := by
  cases hE with
  | mk vs h0 hl h1 h2 h3 h4 =>
   rcases h2 with ⟨_, a, cap, h⟩ | ⟨g', o', cap', h, _⟩
   ·exact ⟨_, _, _, h⟩
   ·exact ⟨_, _, _, h⟩
 obtain ⟨k, tx, nv, lo, hi, kv⟩ := X
 simp only [] at hns hks
 subst hns hks
 have HX := hh9 (fun W => names_any (w := W) ⟨k, tx, .slice na nn nc, lo, hi, .slice ka kn kc⟩ rfl rfl)
 have hb0 : Below w.heap.size w (((w.alloc (xobj k lo hi tx (.slice na nn nc) (.slice ka kn kc))).alloc (.cells #[.slice none 0 0] 34)).alloc (xobj k lo hi tx (.slice na nn nc) (.slice ka kn kc))) := by go_grown
 have bO := Boxed.new (w.alloc (xobj k lo hi tx (.slice na nn nc) (.slice ka kn kc))) 34 (.slice none 0 0)
 rw [World.size_alloc] at bO
 have bO2 := bO.alloc (xobj k lo hi tx (.slice na nn nc) (.slice ka kn kc))
 have bX : BoxX (((w.alloc (xobj k lo hi tx (.slice na nn nc) (.slice ka kn kc))).alloc (.cells #[.slice none 0 0] 34)).alloc (xobj k lo hi tx (.slice na nn nc) (.slice ka kn kc))) (w.heap.size + 1 + 1) ⟨k, tx, .slice na nn nc, lo, hi, .slice ka kn kc⟩ := by
  have h := heap_alloc_new ((w.alloc (xobj k lo hi tx (.slice na nn nc) (.slice ka kn kc))).alloc (.cells #[.slice none 0 0] 34)) (xobj k lo hi tx (.slice na nn nc) (.slice ka kn kc))
  rw [World.size_alloc, World.size_alloc] at h
  exact h
 have hstop := names1_stops (Bs := w.heap.size + 1 + 1) (M := fun _ => False) (P := P) (fun _ h => h.elim) (fun _ _ h => h) (fun h => h) (hE.kept (P' := P) (KeepsC.below (M := fun _ => False) hb0) (fun b hb _ => ⟨fun h => h, hb⟩)) bX hd
 rw [<- HNM.out] at hstop
 have hszw : (((w.alloc (xobj k lo hi tx (.slice na nn nc) (.slice ka kn kc))).alloc (.cells #[.slice none 0 0] 34)).alloc (xobj k lo hi tx (.slice na nn nc) (.slice ka kn kc))).heap.size = w.heap.size + 3 := by simp
 unfold xobj at HX hb0 bO2 hstop hszw
 clear bO bX hE
 refine callsIn_of_wp_marks Tryz.func23 rfl trivial ?_ rfl
 simp only [XV.val, Tryz.ntmps23, List.size_toArray, List.length_cons, List.length_nil, Nat.reduceAdd, Nat.reduceSub, Array.replicate_succ, Array.replicate_zero, List.push_toArray, List.append_toArray, List.nil_append, List.cons_append]
 gi_wp2_with (refine ⟨trivial, ?_⟩; gi_at_call 36; refine (callsIn_wide.2 (HX.out _)).mono ?_; rintro e w' ⟨rfl, rfl⟩)
 refine wpIn_rangeFunc_ownG rfl (by omega) (gf := 53) (lb := #[.pointer (some ⟨w.heap.size + 1 + 1, 0, none⟩)]) rfl trivial (enters_of Tryz.func53 (by kernel_rfl) rfl)
  hstop keepsC_t (fun W l o o' _ h ho _ => KeepsC.put W l o o' h ho) (Below.refl _ _) (fun _ => rfl)
  (fun pre W => ((∃ v, Go.Boxed W (w.heap.size + 1) 34 v /\ W.ownsRow (w.heap.size + 3) 9 1 v pre.length (scells (NX.vals pre)) /\ True) /\ w.heap.size + 3 <= W.heap.size) /\ Below w.heap.size w W)
  (fun _ _ _ => False)
  (OwnFrom.and (OwnFrom.and (Own.from (holdsRow_own (w.heap.size + 3) (w.heap.size + 1) 34 9 1 (fun pre : List NX => pre.length) (fun pre => scells (NX.vals pre)) (fun _ _ => True)) _) (fun _ _ _ _ hs hg _ => Nat.le_trans hs hg.size)) (ownFrom_below (Nat.le_refl _) (by simp; omega)))
  (fun _ _ _ _ _ hs _ _ => hs)
  ⟨⟨⟨_, bO2, World.ownsRow_nil _ _ _ _, trivial⟩, by simp⟩, hb0⟩
  (fun x => { tmps := #[.agg #[.int .i64 k, .string tx, .slice na nn nc, .int .i64 lo, .int .i64 hi, .slice ka kn kc], .pointer (some ⟨w.heap.size, 0, none⟩), .slice none 0 0, .pointer (some ⟨w.heap.size + 1, 0, none⟩), .string (strOf x.1), .agg #[.int .i64 k, .string tx, .slice na nn nc, .int .i64 lo, .int .i64 hi, .slice ka kn kc], .func (.func 53) #[] #[.pointer (some ⟨w.heap.size + 1 + 1, 0, none⟩)], .string (strOf x.1), undef, undef, undef, undef, undef], defers := [] }) ?assign ?body ?done ?stop
 case assign =>
  intro l x W K hK
  gi_wp2
  exact hK
 case body =>
  rintro l pre ⟨x, hx⟩ W ⟨⟨⟨v, hv, hrow, _⟩, hsz⟩, hB⟩ hlt
  have hc := hv.cell
  have hf := hv.frozen
  rcases row_forms hrow with ⟨rfl, h0⟩ | ⟨g, cap, rfl⟩
  ·skip
   obtain rfl : pre = [] := List.length_eq_zero_iff.1 h0
   clear h0
   gi_wp2_with (gi_at_builtin; refine wpListIn_append_own _ rfl _ _ 34 rfl (w.heap.size + 3) 9 i0 (.string ⟨#[]⟩) 1 16 Tryz.underlying34 hi0 hz0 hz1 hz2 rfl (by decide) _ _ _ rfl (hrow.alloc _) ⟨W.heap.size, 0, none⟩ 1 1 [.string (strOf x)] rfl rfl (cell_one_new _ _ _) (by simp [Value.oneCell']) (by unfold maxLen; omega) (by omega) (by simp; omega) ?_; intro v' w1 hown' hgrow _; obtain ⟨g', cap', rfl⟩ := ownsRow_succ hown'; obtain ⟨hv1, hv2, hr2, hk2, hx2, hb2⟩ := collects (n₀ := w.heap.size) hv (by decide) (by unfold KT; decide) (by unfold KT; decide) hrow (by omega) (by omega) hsz hown' hgrow; have hc1 := hv1.cell; have hf1 := hv1.frozen)
   refine ⟨hk2.from _, hx2, ⟨⟨_, hv2, ?_⟩, Nat.le_trans hsz hk2.size⟩, hB.trans hb2⟩
   simpa [scells, NX.vals] using hr2
  ·skip
   gi_wp2_with (gi_at_builtin; refine wpListIn_append_own _ rfl _ _ 34 rfl (w.heap.size + 3) 9 i0 (.string ⟨#[]⟩) 1 16 Tryz.underlying34 hi0 hz0 hz1 hz2 rfl (by decide) _ _ _ rfl (hrow.alloc _) ⟨W.heap.size, 0, none⟩ 1 1 [.string (strOf x)] rfl rfl (cell_one_new _ _ _) (by simp [Value.oneCell']) (by unfold maxLen; omega) (by omega) (by simp; omega) ?_; intro v' w1 hown' hgrow _; obtain ⟨g', cap', rfl⟩ := ownsRow_succ hown'; obtain ⟨hv1, hv2, hr2, hk2, hx2, hb2⟩ := collects (n₀ := w.heap.size) hv (by decide) (by unfold KT; decide) (by unfold KT; decide) hrow (by omega) (by omega) hsz hown' hgrow; have hc1 := hv1.cell; have hf1 := hv1.frozen)
   refine ⟨hk2.from _, hx2, ⟨⟨_, hv2, ?_⟩, Nat.le_trans hsz hk2.size⟩, hB.trans hb2⟩
   simpa [scells, NX.vals] using hr2
 case done =>
  rintro D ys W hD hys ⟨⟨⟨v, hv, hrow, _⟩, hsz⟩, hB⟩ hK
  have hc := hv.cell
  have hl : ys.length = NM.length := by rw [<- hys]; simp [NX.vals]
  rw [hys, hl] at hrow
  gi_wp2
  refine ⟨by simp, .inl ⟨_, _, rfl, run_takeDeferred hK, ?_⟩⟩
  exact ⟨_, results_tmp rfl _ _ _, v, rfl, own_mono (ownsRow_putObj hrow _ hK rfl) (by omega), hB.trans (belowK_b (w := w) (Nat.le_refl _) W D _ _ (by simp at hD; omega) hK rfl rfl)⟩
 case stop =>
  rintro D c pre W _ _ h _
  exact h.elim
theorem nms_any {w : World} {P : Nat -> Prop} {X : XV} {t : Tree} (hE : ETP w P X t) (hd : dep t <= 9000) (hlen : (namesM t).length <= 1000000000) :
  Calls Tryz.prog 23 #[X.val] w (GivesTexts (namesM t) w) := (callsIn_wide (n := 6)).1 (names_in hE hd hlen)
end Go.Proofs.YtpopgjgngbiofaaGreatDoor
namespace Go.Proofs.YtpopgjgngbiofaaGreatDoor
open Go.RowKit
theorem own_below {W W' : World} {base size n : Nat} {e : TypeId} {v : Value} {xs : List Value} (h : W.ownsRow base e size v n xs) (hb : Below W.heap.size W W') : W'.ownsRow base e size v n xs := by
 refine ⟨h.1, ?_⟩
 rcases h.2 with hn | ⟨g, cap, cur, hv, hb', hg, rest⟩
 ·exact .inl hn
 ·exact .inr ⟨g, cap, cur, hv, hb', (hb.block g (Array.getElem?_eq_some_iff.1 hg).1).trans hg, rest⟩
theorem own_le {W : World} {base size n : Nat} {e : TypeId} {v : Value} {xs : List Value} (h : W.ownsRow base e size v n xs) : ∀ b, v.ownBlock = some b -> base <= b := fun b hb => by
 rcases row_forms h with ⟨rfl, _⟩ | ⟨g', cap, rfl⟩
 ·simp [Value.ownBlock] at hb
 ·have := (row_base h).1
  simp [Value.ownBlock] at hb
  omega
end Go.Proofs.YtpopgjgngbiofaaGreatDoor
namespace Go.Proofs.YtpopgjgngbiofaaGreatDoor
open Go.RowKit Go.Maps
theorem lawStr : Keyed Tryz.prog 9 := string_keyed Tryz.underlying9
theorem zeroInt (w : World) : (zeroValue 3).run Tryz.prog w = .ok (.int .i64 0) w := by kernel_rfl
def keyT (x : List Int) : Lit := .string (strOf x).data.toList
theorem key_text {x : List Int} (h : TextOk x) : keyOf Tryz.prog 9 (.string (strOf x)) = some (keyT x) := WideMaps.keyOf_string_mk Tryz.underlying9 (by rw [strOf_size]; unfold maxLen; have := h.2; omega)
theorem keyT_inj {x y : List Int} (hx : TextOk x) (hy : TextOk y) (h : keyT x = keyT y) : x = y := by
 unfold keyT at h
 injection h with h
 refine strOf_inj hx.1 hy.1 ?_
 exact ByteArray.ext (Array.toList_inj.1 h)
theorem wf_place (n : Nat) (h : n <= 1000000000) : (Lit.int .i64 (n : Int)).wf = true := by
 simp only [Lit.wf, IntKind.min, IntKind.max, IntKind.signed, IntKind.bits, Bool.and_eq_true, decide_eq_true_eq]
 constructor <;> simp <;> omega
def MapG (D : DataW Unit) (g : List GR) : Prop := ∀ x, TextOk x -> Maps.has D (keyT x) = (findM g x).isSome /\ ∀ i, findM g x = some i -> D.atKey (keyT x) (.lit (.int .i64 0)) = .lit (.int .i64 (i : Int))
theorem MapG.start : MapG (.map []) [] := fun x _ => ⟨rfl, fun i h => by simp [findM] at h⟩
theorem MapG.push {D : DataW Unit} {g : List GR} {r : GR} (h : MapG D g) (ht : Maps.Tidy D) (hr : TextOk r.name) (hno : findM g r.name = none) : MapG (D.put (keyT r.name) (.lit (.int .i64 (g.length : Int)))) (g ++ [r]) := by
 have hkl : WideAt.IsKeyLit (keyT r.name) := by unfold keyT; trivial
 intro x hx
 rw [findM_append]
 by_cases e : x = r.name
 ·subst e
  rw [hno, Maps.has_put_same ht.isMap hkl, Maps.atKey_put_same ht.isMap hkl]
  refine ⟨by simp [findM], fun i hi => ?_⟩
  simp [findM] at hi
  rw [<- hi]
 ·have hk : keyT x ≠ keyT r.name := fun h => e (keyT_inj hx hr h)
  rw [Maps.has_put_other hk, Maps.atKey_put_other hk]
  have h2 := h x hx
  cases hf : findM g x with
  | some i =>
   rw [hf] at h2
   exact ⟨h2.1, fun j hj => h2.2 j hj⟩
  | none =>
   rw [hf] at h2
   have e2 : findM [r] x = none := by unfold findM; rw [if_neg (fun h => e h.symm)]; rfl
   rw [e2]
   exact ⟨h2.1, fun j hj => by cases hj⟩
structure GAt (W : World) (base R m : Nat) (v : Value) (ys : List RV) (g : List GR) : Prop where
 blk : W.heap[R]? = some (.cells #[v, .map (some m)] 77 (0, 0))
 row : W.ownsRow base 29 7 v g.length (ys.flatMap RV.cells)
 len : ys.length = g.length
 map : ∃ D : DataW Unit, W.ownsMap Tryz.prog 9 (plainElem Tryz.prog 3) m g.length D /\ MapG D g
 name : ∀ (i : Nat) (y : RV) (r : GR), ys[i]? = some y -> g[i]? = some r -> y.name = strOf r.name /\ TextOk r.name
theorem GAt.cells {W : World} {base R m : Nat} {v : Value} {ys : List RV} {g : List GR} (h : GAt W base R m v ys g) : W.cell? ⟨R, 0, none⟩ = some v /\ W.cell? ⟨R, 1, none⟩ = some (.map (some m)) /\ R < W.heap.size := by
 have hb := h.blk
 refine ⟨?_, ?_, (Array.getElem?_eq_some_iff.1 hb).1⟩ <;> (unfold World.cell?; simp only [hb]; rfl)
theorem GAt.frozen {W : World} {base R m : Nat} {v : Value} {ys : List RV} {g : List GR} (h : GAt W base R m v ys g) (j : Nat) : W.frozen? ⟨R, j, none⟩ = false := by
 have hb := h.blk
 simp [World.frozen?, hb]
theorem GAt.below {W W' : World} {base R m : Nat} {v : Value} {ys : List RV} {g : List GR} (h : GAt W base R m v ys g) (hb : Below W.heap.size W W') : GAt W' base R m v ys g := by
 obtain ⟨D, h1, h2⟩ := h.map
 refine ⟨(hb.block R h.cells.2.2).trans h.blk, own_below h.row hb, h.len, ⟨D, ?_, h2⟩, h.name⟩
 have hlt := h1.lt
 obtain ⟨es, clock, hh, r⟩ := h1
 exact ⟨es, clock, (hb.block m hlt).trans hh, r⟩
theorem own_grown {W W' : World} {base size n m : Nat} {e : TypeId} {v : Value} {xs : List Value} (h : W.ownsRow base e size v n xs) (hg : W.grownBy W' (some m)) (hm : m < base) : W'.ownsRow base e size v n xs := by
 refine ⟨h.1, ?_⟩
 rcases h.2 with hn | ⟨g, cap, cur, hv, hb, hg', rest⟩
 ·exact .inl hn
 ·exact .inr ⟨g, cap, cur, hv, hb, (hg.block g (Array.getElem?_eq_some_iff.1 hg').1 (fun e => by have := Option.some.inj e; omega)).trans hg', rest⟩
theorem cells7_new (w : World) (cs : Array Value) (t : TypeId) (l : List Value) (hl : l = cs.toList) : ∀ j u, l[j]? = some u -> (w.alloc (.cells cs t)).cell? ((⟨w.heap.size, 0, none⟩ : Addr).add j) = some u := by
 intro j u hj
 subst hl
 have h := heap_alloc_new w (.cells cs t)
 have e : (⟨w.heap.size, 0, none⟩ : Addr).add j = ⟨w.heap.size, j, none⟩ := by cases j <;> simp [Addr.add]
 rw [e]
 unfold World.cell?
 simp only [h]
 simpa using hj
theorem map_kept {W W' : World} {P : Program} {t : TypeId} {R : Value -> Option (DataW Unit × List MemPlace)} {b m : Nat} {D : DataW Unit} (h : W.ownsMap P t R b m D) (hb : W'.heap[b]? = W.heap[b]?) : W'.ownsMap P t R b m D := by
 obtain ⟨es, clock, hh, r⟩ := h
 exact ⟨es, clock, hb.trans hh, r⟩
theorem keepsC_grown {W W' : World} {row : Option Nat} (hg : W.grownBy W' row) (hr : ∀ b, row = some b -> ∀ c t z, W.heap[b]? = some (.cells c t z) -> ¬ KT t) : KeepsC (fun _ => False) W W' :=
 ⟨hg.size, fun b c t z _ ht hb => (hg.block b (Array.getElem?_eq_some_iff.1 hb).1 (fun e => hr b e.symm c t z hb ht)).trans hb⟩
theorem keepsC_drew (W : World) : KeepsC (fun _ => False) W W.drew := KeepsC.below (below_drawn (Below.refl _ _) 1)
theorem keepsC_alloc (W : World) (o : Obj) : KeepsC (fun _ => False) W (W.alloc o) := KeepsC.below ((Below.refl _ _).alloc (Nat.le_refl _) _)
theorem own_type {W : World} {base size n b : Nat} {e : TypeId} {v : Value} {xs : List Value} (h : W.ownsRow base e size v n xs) (hb : v.ownBlock = some b) {c : Array Value} {t : TypeId} {z : Nat × Nat} (hc : W.heap[b]? = some (.cells c t z)) : t = e := by
 rcases h.2 with ⟨rfl, _⟩ | ⟨g, cap, cur, rfl, _, hg, _⟩
 ·simp [Value.ownBlock] at hb
 ·simp [Value.ownBlock] at hb
  subst hb
  have := Option.some.inj (hc.symm.trans hg)
  simp at this
  exact this.2.1
theorem infoRule : (Tryz.prog.info? 29).map (fun i => (i.zero, i.size, i.bytes)) = some (some (.agg #[.string ⟨#[]⟩, .int .i64 0, .string ⟨#[]⟩, .slice none 0 0, .int .i64 0, .int .i64 0, .slice none 0 0]), 7, 104) := by kernel_rfl
theorem add_any {w : World} {base R m : Nat} {v : Value} {ys : List RV} {g : List GR} (h : GAt w base R m v ys g) (hR : R < base) (hm : m < base) (hne : R ≠ m) (hbase : base <= w.heap.size) (Y : RV) (r : GR) (hn : Y.name = strOf r.name /\ TextOk r.name) (hno : findM g r.name = none) (hlen : g.length <= 1000000)
  (h1 : Y.expr.ns.oneCell' = true) (h2 : Y.expr.ks.oneCell' = true) :
  Calls Tryz.prog 63 #[.pointer (some ⟨R, 0, none⟩), Y.val] w
   (fun e w' => e = .returned (.tuple #[]) /\ ∃ v', GAt w' base R m v' (ys ++ [Y]) (g ++ [r]) /\ KeepsC (fun _ => False) w w' /\ (∀ b, b < w.heap.size -> b ≠ R -> b ≠ m -> v.ownBlock ≠ some b -> w'.heap[b]? = w.heap[b]?) /\ (v'.ownBlock = v.ownBlock \/ ∃ k, v'.ownBlock = some k /\ w.heap.size <= k) /\ ∀ n0, n0 <= R -> n0 <= m -> n0 <= base -> Below n0 w w') := by
 obtain ⟨nm, ⟨k, tx, nv, lo, hi, kv⟩⟩ := Y
 obtain ⟨D, hD, hMG⟩ := h.map
 simp only [] at hn h1 h2
 obtain ⟨va, vc, rfl⟩ : ∃ va vc, v = .slice va g.length vc := by
  rcases row_forms h.row with ⟨rfl, h0⟩ | ⟨b, cap, rfl⟩
  ·exact ⟨none, 0, by rw [h0]⟩
  ·exact ⟨_, _, rfl⟩
 obtain ⟨hn1, hn2⟩ := hn
 subst hn1
 have hval : plainElem (H := Unit) Tryz.prog 3 (.int .i64 (g.length : Int)) = some (.lit (.int .i64 (g.length : Int)), []) := plainElem_int Tryz.underlying3 (wf_place _ (by omega))
 have hD1 := (hD.alloc (.cells #[.string (strOf r.name), .int .i64 k, .string tx, nv, .int .i64 lo, .int .i64 hi, kv] 29)).drew
 obtain ⟨w1, hrun, hD2, hg1⟩ := hD1.update lawStr Tryz.underlying59 (by unfold maxLen; omega) (key_text hn2) hval
 obtain ⟨c0, c1, hRl⟩ := h.cells
 have a0 := cell_alloc c0 (.cells #[.string (strOf r.name), .int .i64 k, .string tx, nv, .int .i64 lo, .int .i64 hi, kv] 29)
 have a1 := cell_alloc c1 (.cells #[.string (strOf r.name), .int .i64 k, .string tx, nv, .int .i64 lo, .int .i64 hi, kv] 29)
 have hfr := h.frozen
 obtain ⟨S, hS⟩ : ∃ S, S = strOf r.name := ⟨_, rfl⟩
 rw [<- hS] at hrun a0 a1 hg1 hD1
 show Calls Tryz.prog 63 #[.pointer (some ⟨R, 0, none⟩), .agg #[.string (strOf r.name), .int .i64 k, .string tx, nv, .int .i64 lo, .int .i64 hi, kv]] w _
 rw [<- hS]
 have H := hh9 h
 have HD1 := hh9 hD1
 have HMG := hh9 hMG
 have HD2 := hh9 hD2
 have HG1 := hh9 hg1
 have HS := hh9 hS
 clear h hD hMG hD1 hD2 hS
 go_enter Tryz.func63, Tryz.ntmps63
 go_wp2_with fail
 go_region
 have hsz1 : (((w.alloc (.cells #[.string S, .int .i64 k, .string tx, nv, .int .i64 lo, .int .i64 hi, kv] 29)).drew).heap.size) = w.heap.size + 1 := by simp
 have hg1s := hg1.size
 rw [hsz1] at hg1s
 have hR1 : w1.heap[R]? = some (.cells #[.slice va g.length vc, .map (some m)] 77 (0, 0)) := (hg1.block R (by rw [hsz1]; omega) (fun e => by have := Option.some.inj e; omega)).trans ((Below.heap_alloc _ _ _ hRl).trans H.out.blk)
 have hX1 : w1.heap[w.heap.size]? = some (.cells #[.string S, .int .i64 k, .string tx, nv, .int .i64 lo, .int .i64 hi, kv] 29 (0, 0)) := (hg1.block w.heap.size (by rw [hsz1]; omega) (fun e => by have := Option.some.inj e; omega)).trans (heap_alloc_new w _)
 have r0 : w1.cell? ⟨R, 0, none⟩ = some (.slice va g.length vc) := by unfold World.cell?; simp only [hR1]; rfl
 have x0 : w1.cell? ⟨w.heap.size, 0, none⟩ = some (.string S) := by unfold World.cell?; simp only [hX1]; rfl
 have x1 : w1.cell? ⟨w.heap.size, 1, none⟩ = some (.int .i64 k) := by unfold World.cell?; simp only [hX1]; rfl
 have x2 : w1.cell? ⟨w.heap.size, 2, none⟩ = some (.string tx) := by unfold World.cell?; simp only [hX1]; rfl
 have x3 : w1.cell? ⟨w.heap.size, 3, none⟩ = some nv := by unfold World.cell?; simp only [hX1]; rfl
 have x4 : w1.cell? ⟨w.heap.size, 4, none⟩ = some (.int .i64 lo) := by unfold World.cell?; simp only [hX1]; rfl
 have x5 : w1.cell? ⟨w.heap.size, 5, none⟩ = some (.int .i64 hi) := by unfold World.cell?; simp only [hX1]; rfl
 have x6 : w1.cell? ⟨w.heap.size, 6, none⟩ = some kv := by unfold World.cell?; simp only [hX1]; rfl
 have hrow1 : w1.ownsRow base 29 7 (.slice va g.length vc) g.length (ys.flatMap RV.cells) := own_grown (own_below (own_below H.out.row ((Below.refl _ _).alloc (Nat.le_refl _) (.cells #[.string S, .int .i64 k, .string tx, nv, .int .i64 lo, .int .i64 hi, kv] 29))) (below_drawn (Below.refl _ _) 1)) hg1 hm
 have HROW := hh9 (show (((w1.drew).alloc (.cells #[.string S, .int .i64 k, .string tx, nv, .int .i64 lo, .int .i64 hi, kv] 29))).ownsRow base 29 7 (.slice va g.length vc) g.length (ys.flatMap RV.cells) from own_below (show w1.drew.ownsRow base 29 7 (.slice va g.length vc) g.length (ys.flatMap RV.cells) from hrow1) ((Below.refl _ _).alloc (Nat.le_refl _) _))
 have HR1 := hh9 hR1
 have hR1l := (Array.getElem?_eq_some_iff.1 hR1).1
 obtain ⟨i0, hi0, hz0, hz1, hz2⟩ := info_parts infoRule
 have HOWN0 := hh9 (own_le hrow1)
 clear hR1 hX1 hrow1 a0 a1 c0 c1 hrun hfr
 go_wp2_with fail
 go_region_law (refine step_append_lies _ (by rfl) _ _ _ (by rfl) base 29 i0 _ 7 104 Tryz.underlying22 hi0 hz0 hz1 hz2 rfl (by omega) (.slice va g.length vc) g.length (ys.flatMap RV.cells) (by rfl) HROW.out ⟨w1.heap.size, 0, none⟩ 1 1 [.string S, .int .i64 k, .string tx, nv, .int .i64 lo, .int .i64 hi, kv] (by rfl) (by rfl) (cells7_new _ _ _ _ rfl) (by intro u hu; simp at hu; rcases hu with rfl | rfl | rfl | rfl | rfl | rfl | rfl <;> first | rfl | assumption) (by omega) (by unfold maxLen; omega) (by omega) (by simp; omega) (w1.heap.size + 1) (by simp) ?_; intro gb cap w3 hown hgrow hat hlt3; have HOWN := hh9 hown; have HGROW := hh9 hgrow; have hR3 : w3.heap[R]? = some (.cells #[.slice va g.length vc, .map (some m)] 77 (0, 0)) := (hgrow.block R (by simp; omega) (fun e => by have := HOWN0.out R e.symm; omega)).trans ((Below.heap_alloc _ _ _ hR1l).trans HR1.out); have q0 : w3.cell? ⟨R, 0, none⟩ = some (.slice va g.length vc) := (by unfold World.cell?; simp only [hR3]; rfl); have q1 : w3.frozen? ⟨R, 0, none⟩ = false := (by simp [World.frozen?, hR3]); have HR3 := hh9 hR3; clear hown hgrow hR3)
 all_goals
  have hn3 : ∀ b, b < base -> b < w1.heap.size -> w3.heap[b]? = w1.heap[b]? := fun b hb hl => (HGROW.out.block b (by simp; omega) (fun e => by have := HOWN0.out b e.symm; omega)).trans (Below.heap_alloc _ _ _ hl)
  have hm1 : m < w1.heap.size := HD2.out.lt
  have hs3' : w1.heap.size + 1 <= w3.heap.size := by
   have := HGROW.out.size
   simpa using this
  go_end0
  refine ⟨rfl, .slice (some ⟨gb, 0, none⟩) (g.length + 1) cap, ⟨?_, ?_, by simp [H.out.len], ⟨_, ?_, HMG.out.push (HD1.out.tidy lawStr) hn2 hno⟩, ?_⟩, ?_, ?_, hat.elim (fun e => .inl (by rw [e]; rfl)) (fun e => .inr ⟨gb, rfl, by omega⟩), ?_⟩
  ·rw [heap_setCell_same w3 R 0 _ _ _ HR3.out]
   rfl
  ·have h := own_grown HOWN.out (grownBy_setCell' w3 R (.slice (some ⟨gb, 0, none⟩) (g.length + 1) cap)) hR
   simpa [RV.cells] using h
  ·have h := map_kept HD2.out (W' := w3.setCell ⟨R, 0, none⟩ (.slice (some ⟨gb, 0, none⟩) (g.length + 1) cap)) ((heap_setCell_other _ _ _ _ (Ne.symm hne)).trans (hn3 m hm hm1))
   simpa using h
  ·intro i y r' hy hr'
   by_cases hi : i < ys.length
   ·rw [List.getElem?_append_left hi] at hy
    rw [List.getElem?_append_left (by rw [<- H.out.len]; exact hi)] at hr'
    exact H.out.name i y r' hy hr'
   ·have hl : i = ys.length := by
     have := (List.getElem?_eq_some_iff.1 hy).1
     simp at this
     omega
    subst hl
    rw [List.getElem?_append_right (Nat.le_refl _)] at hy
    rw [List.getElem?_append_right (by rw [H.out.len]; exact Nat.le_refl _), H.out.len] at hr'
    simp at hy hr'
    subst hy hr'
    exact ⟨HS.out, hn2⟩
  ·have k1 : KeepsC (fun _ => False) w w1 := (keepsC_alloc w _).trans ((keepsC_drew _).trans (keepsC_grown HG1.out (fun b e c t z hb => by
    have e := Option.some.inj e
    subst e
    obtain ⟨es, clock, hh, _⟩ := HD1.out
    rw [hh] at hb
    cases hb)))
   refine k1.trans ((keepsC_alloc _ _).trans ((keepsC_drew _).trans ((keepsC_grown HGROW.out (fun b e c t z hb => ?_)).trans (keepsC_grown (grownBy_setCell' w3 R _) (fun b e c t z hb => ?_)))))
   ·have := own_type HROW.out e hb
    subst this
    unfold KT
    decide
   ·have e := Option.some.inj e
    subst e
    have := Option.some.inj (hb.symm.trans HR3.out)
    simp at this
    rw [this.2.1]
    unfold KT
    decide
  ·intro b hb hbR hbm hbv
   have hb1 : b < w1.heap.size := by omega
   exact (heap_setCell_other _ _ _ _ hbR).trans ((HGROW.out.block b (by simp; omega) (fun e => hbv e.symm)).trans ((Below.heap_alloc _ _ _ hb1).trans ((HG1.out.block b (by rw [hsz1]; omega) (fun e => hbm (Option.some.inj e))).trans (Below.heap_alloc _ _ _ hb))))
  ·intro n0 h1 h2 h3
   have b1 : Below n0 w w1 := (below_drawn ((Below.refl n0 w).alloc (by omega) _) 1).grown HG1.out (by show n0 <= (w.alloc _).heap.size; simp; omega) (fun b e => by have := Option.some.inj e; omega)
   have b3 : Below n0 w w3 := (below_drawn (b1.alloc (by omega) _) 1).grown HGROW.out (by show n0 <= (w1.alloc _).heap.size; simp; omega) (fun b e => by have := HOWN0.out b e; omega)
   exact b3.setCell (p := ⟨R, 0, none⟩) h1 _
end Go.Proofs.YtpopgjgngbiofaaGreatDoor
namespace Go.Proofs.YtpopgjgngbiofaaGreatDoor
open Go.RowKit
theorem own_cell {W : World} {base size n g cap : Nat} {e : TypeId} {xs : List Value} (h : W.ownsRow base e size (.slice (some ⟨g, 0, none⟩) n cap) n xs) {j : Nat} {u : Value} (hj : xs[j]? = some u) : W.cell? ⟨g, j, none⟩ = some u := row_cell h hj
theorem own_frozen {W : World} {base size n g cap : Nat} {e : TypeId} {xs : List Value} (h : W.ownsRow base e size (.slice (some ⟨g, 0, none⟩) n cap) n xs) (j : Nat) : W.frozen? ⟨g, j, none⟩ = false := by
 obtain ⟨hl, h2⟩ := h
 rcases h2 with ⟨h2, _⟩ | ⟨g', cap', cur, hv, _, hh, _, _, hsz, ht⟩
 ·cases h2
 ·obtain rfl : g = g' := by simp at hv; omega
  simp [World.frozen?, hh]
theorem own_set5 {W : World} {base size n g cap : Nat} {e : TypeId} {xs : List Value} (h : W.ownsRow base e size (.slice (some ⟨g, 0, none⟩) n cap) n xs) (j : Nat) (u : Value) :
  (W.setCell ⟨g, j, none⟩ u).ownsRow base e size (.slice (some ⟨g, 0, none⟩) n cap) n (xs.set j u) := by
 obtain ⟨hl, h2⟩ := h
 refine ⟨by simpa using hl, ?_⟩
 rcases h2 with ⟨h2, _⟩ | ⟨g', cap', cur, hv, hb, hh, hc, hm, hsz, ht⟩
 ·cases h2
 ·obtain ⟨rfl, rfl⟩ : g = g' /\ cap = cap' := by simp at hv; omega
  refine .inr ⟨g, cap, cur.setIfInBounds j u, rfl, hb, ?_, hc, hm, by simpa using hsz, ?_⟩
  ·obtain ⟨hlt, hk⟩ := Array.getElem?_eq_some_iff.1 hh
   show (W.heap.modify g _)[g]? = _
   rw [Array.getElem?_eq_getElem (by rw [Array.size_modify]; exact hlt), Array.getElem_modify_self, hk]
   rfl
  ·rw [Array.toList_setIfInBounds, List.take_set, ht]
theorem flat_set (vs : List XV) (i : Nat) (x : XV) (h : i < vs.length) :
  ((((((vs.flatMap XV.cells).set (i * 6) (.int .i64 x.kind)).set (i * 6 + 1) (.string x.text)).set (i * 6 + 2) x.ns).set (i * 6 + 3) (.int .i64 x.lo)).set (i * 6 + 4) (.int .i64 x.hi)).set (i * 6 + 5) x.ks = (vs.set i x).flatMap XV.cells := by
 induction vs generalizing i with
 | nil => simp at h
 | cons y vs ih =>
  cases i with
  | zero => simp [XV.cells]
  | succ i =>
   have ih := ih i (by simpa using h)
   have e : ∀ (j : Nat) (l : List Value) (u : Value), (y.cells ++ l).set ((i + 1) * 6 + j) u = y.cells ++ l.set (i * 6 + j) u := fun j l u => by
    rw [List.set_append, if_neg (by simp [XV.cells]; omega), show (i + 1) * 6 + j - y.cells.length = i * 6 + j by simp [XV.cells]; omega]
   have e0 := e 0
   simp only [Nat.add_zero] at e0
   simp only [List.flatMap_cons, List.set_cons_succ, e0, e]
   rw [ih]
def CopyOf (t : TypeId) (size n : Nat) (xs : List Value) (w : World) (e : Ending) (w' : World) : Prop := ∃ v, e = .returned v /\ w'.ownsRow w.heap.size t size v n xs /\ Below w.heap.size w w'
theorem infoInt5 : (Tryz.prog.info? 3).map (fun i => (i.zero, i.size, i.bytes)) = some (some (.int .i64 0), 1, 8) := by kernel_rfl
theorem infoExpr5 : (Tryz.prog.info? 27).map (fun i => (i.zero, i.size, i.bytes)) = some (some (.agg #[.int .i64 0, .string ⟨#[]⟩, .slice none 0 0, .int .i64 0, .int .i64 0, .slice none 0 0]), 6, 88) := by kernel_rfl
theorem eqlIn_nil {P : Program} (w : World) (d : Nat) (t e : TypeId) (a : Option Addr) (n c n' c' : Nat) (h : P.underlying t = some (.slice e)) :
  (Op.equalIn (d + 1) t (.slice a n c) (.slice none n' c')).run P w = .ok a.isNone w := by
 cases a <;> simp [Op.equalIn, run_underlying h]
theorem eql_nil {P : Program} (w : World) (t e : TypeId) (a : Option Addr) (n c n' c' : Nat) (h : P.underlying t = some (.slice e)) :
  (binOp .eql t (.slice a n c) (.slice none n' c')).run P w = .ok (.bool a.isNone) w := by
 simp only [binOp]
 simp [Op.equal, Op.maxDepth, eqlIn_nil w 9999 t e a n c n' c' h]
theorem row_empty (w : World) (t : TypeId) (size : Nat) : (w.alloc (.cells #[] t)).ownsRow w.heap.size t size (.slice (some ⟨w.heap.size, 0, none⟩) 0 0) 0 [] :=
 row_of_block (cs := #[]) (Nat.le_refl _) (heap_alloc_new w _) (by unfold maxLen; omega) (by simp)
theorem clone_expr {w : World} {v : Value} {n : Nat} {xs : List Value} (h : RowAny w v n xs) (hl : xs.length = n * 6) (h1 : ∀ u ∈ xs, u.oneCell' = true) (hn : n <= 100000000) : Calls Tryz.prog 85 #[v] w (CopyOf 27 6 n xs w) := by
 obtain ⟨i0, hi0, hz0, hz1, hz2⟩ := info_parts infoExpr5
 have hq := fun W a n c => eql_nil (P := Tryz.prog) W 25 27 a n c 0 0 Tryz.underlying25
 rcases h with ⟨h0, a, cap, rfl⟩ | ⟨g, off, cap, rfl, g1, g2, g3, g4⟩
 ·subst h0
  obtain rfl : xs = [] := List.length_eq_zero_iff.1 (by omega)
  cases a with
  | none =>
   go_enter Tryz.func85, Tryz.ntmps85
   go_wp2_with fail
   go_ret
   exact ⟨_, rfl, World.ownsRow_nil _ _ _ _, Below.refl _ _⟩
  | some a =>
   have HC : ∀ (j : Nat) (u : Value), ([] : List Value)[j]? = some u -> (w.alloc (.cells #[] 27)).cell? (a.add j) = some u := fun j u hj => by simp at hj
   go_enter Tryz.func85, Tryz.ntmps85
   go_wp2_with (at_builtin; go_loud (refine wpList_append_own_at _ rfl _ _ 25 rfl w.heap.size 27 i0 (.agg #[.int .i64 0, .string ⟨#[]⟩, .slice none 0 0, .int .i64 0, .int .i64 0, .slice none 0 0]) 6 88 Tryz.underlying25 hi0 hz0 hz1 hz2 rfl (by decide) _ 0 [] rfl (row_empty w _ _) a 0 cap [] rfl hl HC h1 (by unfold maxLen; omega) (by omega) (by simp) ?_); intro v' w' hown hgrow _ _; have HOWN := hh9 hown; have HG : Hid (World.grownBy _ w' (some w.heap.size)) := hgrow; clear hown hgrow)
   go_ret
   have hb : Below w.heap.size w w' := ((Below.refl _ _).alloc (Nat.le_refl _) _).grown HG.out (by simp) (fun b e => by have := Option.some.inj e; omega)
   have ho := HOWN.out
   rw [Nat.zero_add, List.nil_append] at ho
   exact ⟨_, rfl, ho, hb⟩
 ·have HC : ∀ (j : Nat) (u : Value), xs[j]? = some u -> (w.alloc (.cells #[] 27)).cell? ((⟨g, off, none⟩ : Addr).add j) = some u := fun j u hj => by
   have e : (⟨g, off, none⟩ : Addr).add j = ⟨g, off + j, none⟩ := by cases j <;> simp [Addr.add]
   rw [e]
   exact cell_alloc (g4 j u hj) _
  go_enter Tryz.func85, Tryz.ntmps85
  go_wp2_with (at_builtin; go_loud (refine wpList_append_own_at _ rfl _ _ 25 rfl w.heap.size 27 i0 (.agg #[.int .i64 0, .string ⟨#[]⟩, .slice none 0 0, .int .i64 0, .int .i64 0, .slice none 0 0]) 6 88 Tryz.underlying25 hi0 hz0 hz1 hz2 rfl (by decide) _ 0 [] rfl (row_empty w _ _) ⟨g, off, none⟩ n cap xs rfl hl HC h1 (by unfold maxLen; omega) (by omega) (by simp) ?_); intro v' w' hown hgrow _ _; have HOWN := hh9 hown; have HG : Hid (World.grownBy _ w' (some w.heap.size)) := hgrow; clear hown hgrow)
  go_ret
  have hb : Below w.heap.size w w' := ((Below.refl _ _).alloc (Nat.le_refl _) _).grown HG.out (by simp) (fun b e => by have := Option.some.inj e; omega)
  have ho := HOWN.out
  rw [Nat.zero_add, List.nil_append] at ho
  exact ⟨_, rfl, ho, hb⟩
theorem clone_int {w : World} {v : Value} {n : Nat} {xs : List Value} (h : RowAny w v n xs) (hl : xs.length = n * 1) (h1 : ∀ u ∈ xs, u.oneCell' = true) (hn : n <= 100000000) : Calls Tryz.prog 84 #[v] w (CopyOf 3 1 n xs w) := by
 obtain ⟨i0, hi0, hz0, hz1, hz2⟩ := info_parts infoInt5
 have hq := fun W a n c => eql_nil (P := Tryz.prog) W 24 3 a n c 0 0 Tryz.underlying24
 rcases h with ⟨h0, a, cap, rfl⟩ | ⟨g, off, cap, rfl, g1, g2, g3, g4⟩
 ·subst h0
  obtain rfl : xs = [] := List.length_eq_zero_iff.1 (by omega)
  cases a with
  | none =>
   go_enter Tryz.func84, Tryz.ntmps84
   go_wp2_with fail
   go_ret
   exact ⟨_, rfl, World.ownsRow_nil _ _ _ _, Below.refl _ _⟩
  | some a =>
   have HC : ∀ (j : Nat) (u : Value), ([] : List Value)[j]? = some u -> (w.alloc (.cells #[] 3)).cell? (a.add j) = some u := fun j u hj => by simp at hj
   go_enter Tryz.func84, Tryz.ntmps84
   go_wp2_with (at_builtin; go_loud (refine wpList_append_own_at _ rfl _ _ 24 rfl w.heap.size 3 i0 (.int .i64 0) 1 8 Tryz.underlying24 hi0 hz0 hz1 hz2 rfl (by decide) _ 0 [] rfl (row_empty w _ _) a 0 cap [] rfl hl HC h1 (by unfold maxLen; omega) (by omega) (by simp) ?_); intro v' w' hown hgrow _ _; have HOWN := hh9 hown; have HG : Hid (World.grownBy _ w' (some w.heap.size)) := hgrow; clear hown hgrow)
   go_ret
   have hb : Below w.heap.size w w' := ((Below.refl _ _).alloc (Nat.le_refl _) _).grown HG.out (by simp) (fun b e => by have := Option.some.inj e; omega)
   have ho := HOWN.out
   rw [Nat.zero_add, List.nil_append] at ho
   exact ⟨_, rfl, ho, hb⟩
 ·have HC : ∀ (j : Nat) (u : Value), xs[j]? = some u -> (w.alloc (.cells #[] 3)).cell? ((⟨g, off, none⟩ : Addr).add j) = some u := fun j u hj => by
   have e : (⟨g, off, none⟩ : Addr).add j = ⟨g, off + j, none⟩ := by cases j <;> simp [Addr.add]
   rw [e]
   exact cell_alloc (g4 j u hj) _
  go_enter Tryz.func84, Tryz.ntmps84
  go_wp2_with (at_builtin; go_loud (refine wpList_append_own_at _ rfl _ _ 24 rfl w.heap.size 3 i0 (.int .i64 0) 1 8 Tryz.underlying24 hi0 hz0 hz1 hz2 rfl (by decide) _ 0 [] rfl (row_empty w _ _) ⟨g, off, none⟩ n cap xs rfl hl HC h1 (by unfold maxLen; omega) (by omega) (by simp) ?_); intro v' w' hown hgrow _ _; have HOWN := hh9 hown; have HG : Hid (World.grownBy _ w' (some w.heap.size)) := hgrow; clear hown hgrow)
  go_ret
  have hb : Below w.heap.size w w' := ((Below.refl _ _).alloc (Nat.le_refl _) _).grown HG.out (by simp) (fun b e => by have := Option.some.inj e; omega)
  have ho := HOWN.out
  rw [Nat.zero_add, List.nil_append] at ho
  exact ⟨_, rfl, ho, hb⟩
end Go.Proofs.YtpopgjgngbiofaaGreatDoor
