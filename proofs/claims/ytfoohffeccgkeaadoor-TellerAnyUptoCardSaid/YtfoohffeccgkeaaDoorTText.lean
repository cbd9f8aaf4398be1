/- The program's teller: an expression's text. -/
import Derived.Test.YtfoohffeccgkeaaDoorTJoin
import Derived.Deep.RegionWith
namespace Go.Proofs.YtfoohffeccgkeaaDoor
open Go.RowKit
set_option linter.unusedVariables false
set_option linter.unusedSimpArgs false

/-- The call answers the text of every expression of at most this depth that may be. -/
def TextTo (d : Nat) : Prop := ∀ (W : World) (X : XV) (t : Tree), ETree W X t → rightF d t = true → Tabs W → (textF d t).length ≤ 1000000000000 → Calls Tryd.prog 30 #[X.val] W (GivesS (textF d t) W)

/-- Kinds as they lie where a closure holds them. -/
def EnclAt (W : World) (K : Nat) (xs : List Int) : Prop := ∃ v, W.cell? ⟨K, 0, none⟩ = some v ∧ RowAny W v xs.length (icells xs)
theorem EnclAt.below {W W' : World} {K : Nat} {xs : List Int} (h : EnclAt W K xs) (hb : Below W.heap.size W W') : EnclAt W' K xs := by
  obtain ⟨v, h1, h2⟩ := h
  exact ⟨v, cell_below h1 hb, h2.below hb⟩
def GivesEncl (xs : List Int) (w : World) (e : Ending) (w' : World) : Prop := ∃ K, e = .returned (.func (Fn.func 59) #[] #[.pointer (some ⟨K, 0, none⟩)]) ∧ EnclAt w' K xs ∧ Below w.heap.size w w'

set_option maxRecDepth 100000 in
theorem encl_any {xs : List Int} {v : Value} {w : World} (hv : RowAny w v xs.length (icells xs)) : Calls Tryd.prog 45 #[v] w (GivesEncl xs w) := by
  obtain ⟨a, cap, rfl, _⟩ := hv.slice
  have hb := (Below.refl w.heap.size w).alloc (Nat.le_refl _) (.cells #[.slice a xs.length cap] 26)
  have HE : Hid (EnclAt (w.alloc (.cells #[.slice a xs.length cap] 26)) w.heap.size xs) := ⟨.slice a xs.length cap, by simp only [World.cell?, heap_alloc_new]; rfl, hv.below hb⟩
  have HB := Lib.hid hb
  clear hb hv
  go_enter Tryd.func45, Tryd.ntmps45
  go_wp2_with fail
  go_ret
  exact ⟨w.heap.size, rfl, HE.out, HB.out⟩

theorem ETree.slices {W : World} {X : XV} {t : Tree} (h : ETree W X t) : ∃ a m ca c n cc, X.ns = .slice a m ca ∧ X.ks = .slice c n cc := by
  cases h with
  | mk vs h0 hl h1 h2 h3 h4 =>
    obtain ⟨a, ca, e1, _⟩ := h1.slice
    obtain ⟨c, cc, e2, _⟩ := h2.slice
    exact ⟨a, _, ca, c, _, cc, e1, e2⟩
theorem ETree.size {W : World} {X : XV} {t : Tree} (h : ETree W X t) : ∃ x ns lo hi kids, t = .mk X.kind x ns lo hi kids := by
  cases h with | mk vs h0 hl h1 h2 h3 h4 => exact ⟨_, _, _, _, _, rfl⟩

set_option maxRecDepth 100000 in
set_option maxHeartbeats 1000000 in
theorem encl1_any {d : Nat} (ih : TextTo d) {K : Nat} {xs : List Int} {W : World} {X : XV} {t : Tree} (h : ETree W X t) (hr : rightF d t = true) (hT : Tabs W) (hl : (textF d t).length ≤ 1000000000000) (hK : EnclAt W K xs) :
    Calls Tryd.prog 59 #[X.val, .pointer (some ⟨K, 0, none⟩)] W (GivesS (brT (inB xs t.kind) (textF d t)) W) := by
  obtain ⟨o1, o2⟩ := h.ones
  have ek : t.kind = X.kind := by obtain ⟨_, _, _, _, _, rfl⟩ := h.size; rfl
  rw [ek]
  have hb := (Below.refl W.heap.size W).alloc (Nat.le_refl _) (xobj X.kind X.lo X.hi X.text X.ns X.ks)
  obtain ⟨v, hk1, hk2⟩ := hK.below hb
  have hX := X6.new W X.kind X.lo X.hi X.text X.ns X.ks
  have HI := Lib.hid (fun (bb : Bool) (hbb : inB xs X.kind = bb) => isOf_is (X := X) hbb o1 o2 _ v hk2)
  have HTX := Lib.hid (fun W' (hb' : Below W.heap.size W W') => ih W' X t (h.under hb') hr (hT.below hb') hl)
  have hsz : (strOf (textF d t)).size ≤ 1000000000000 := by rw [strOf_size]; exact hl
  obtain ⟨S, hS⟩ : ∃ S, S = strOf (textF d t) := ⟨_, rfl⟩
  have HBR := Lib.hid (show ((⟨#[40]⟩ : ByteArray) ++ S) ++ ⟨#[41]⟩ = strOf (brT true (textF d t)) by
    rw [hS, show (⟨#[40]⟩ : ByteArray) = strOf [40] from rfl, show (⟨#[41]⟩ : ByteArray) = strOf [41] from rfl, str_app4, str_app4]; rfl)
  have HNB := Lib.hid (show S = strOf (brT false (textF d t)) by rw [hS]; rfl)
  have HTX2 : Hid (∀ W', Below W.heap.size W W' → Calls Tryd.prog 30 #[X.val] W' (fun e w' => e = .returned (.string S) ∧ Below W'.heap.size W' w')) := by rw [hS]; exact HTX
  rw [← hS] at hsz
  obtain ⟨k, s, nv, lo, hi, kv⟩ := X
  unfold xobj at hb hX HI hk1
  have HB := Lib.hid hb
  have HX := Lib.hid hX
  show Calls _ _ #[.agg #[.int .i64 k, .string s, nv, .int .i64 lo, .int .i64 hi, kv], .pointer (some ⟨K, 0, none⟩)] W _
  clear hb h hK hk2 hS hT hr hl ek HTX hX
  cases hp : inB xs k
  all_goals
    have HP := Lib.hid (HI.out _ hp)
    clear hp
    go_enter Tryd.func59, Tryd.ntmps59
    go_wp2_with fail
    refine HP.out.mono ?_
    rintro e w1 ⟨rfl, hb⟩
    have HB1 := Lib.hid (below_then HB.out hb)
    obtain ⟨a0, a1, a2, a3, a4, a5⟩ := (HX.out.under hb).cells
    clear hb
    go_wp2_with fail
    refine (HTX2.out _ HB1.out).mono ?_
    rintro e w2 ⟨rfl, hb⟩
    have HB2 := Lib.hid (below_then HB1.out hb)
    clear hb a0 a1 a2 a3 a4 a5
    go_wp2_with fail
    go_ret
    first
      | exact ⟨congrArg (fun u => Ending.returned (Value.string u)) HBR.out, HB2.out⟩
      | exact ⟨congrArg (fun u => Ending.returned (Value.string u)) HNB.out, HB2.out⟩

set_option maxRecDepth 100000 in
set_option maxHeartbeats 4000000 in
theorem joinX_any {d : Nat} (ih : TextTo d) {K : Nat} {xs : List Int} {w : World} {v : Value} {vs : List XV} {kids : List Tree} (h : KidsE w v vs kids) (hr : ∀ t ∈ kids, rightF d t = true) (hT : Tabs w) (hl : ∀ t ∈ kids, (textF d t).length ≤ 1000000000000)
    (s : List Int) (hs : (sepT s (kids.map fun t => brT (inB xs t.kind) (textF d t))).length ≤ 1000000000000) (hn1 : 1 ≤ kids.length) (hn : kids.length ≤ 2000000000000) (hK : EnclAt w K xs) :
    Calls Tryd.prog 44 #[v, .string (strOf s), .func (Fn.func 59) #[] #[.pointer (some ⟨K, 0, none⟩)]] w (GivesS (sepT s (kids.map fun t => brT (inB xs t.kind) (textF d t))) w) := by
  obtain ⟨h1, h2, h3⟩ := h
  rcases h1 with ⟨h0, _⟩ | ⟨g, off, cap, rfl, g1, g2, g3, g4⟩
  · omega
  · have HT := Lib.hid hT
    have G4 := Lib.hid g4
    have H2 := Lib.hid h2
    have H3 := Lib.hid h3
    have HR := Lib.hid hr
    have HL := Lib.hid hl
    have HK := Lib.hid hK
    have IH := Lib.hid ih
    have HS := Lib.hid hs
    obtain ⟨n, hnn⟩ : ∃ n, n = kids.length := ⟨_, rfl⟩
    rw [← hnn] at g1 hn1 hn ⊢
    have HNN := Lib.hid hnn
    unfold maxLen at g2
    clear hT g4 h2 h3 hr hl hK ih hs hnn
    have hmk := make_texts n (by omega) w
    have HB0 := Lib.hid ((Below.refl w.heap.size w).alloc (Nat.le_refl _) (.cells (tcells n []) 9))
    have HX0 : Hid (TX w.heap.size n [] (w.alloc (.cells (tcells n []) 9))) := heap_alloc_new w _
    obtain ⟨W0, hW0⟩ : ∃ W0, W0 = w.alloc (.cells (tcells n []) 9) := ⟨_, rfl⟩
    rw [← hW0] at hmk HB0 HX0
    clear hW0
    go_enter Tryd.func44, Tryd.ntmps44
    go_wp2_with fail
    go_loopw [15] (fun v wr => ∃ i : Nat, v = .int .i64 i ∧ i ≤ n ∧ Hid (Below w.heap.size w wr) ∧ Hid (TX w.heap.size n ((kids.take i).map fun t => brT (inB xs t.kind) (textF d t)) wr)) (fun v _ => n - (intOf v).toNat)
    case atStart => exact ⟨0, rfl, by omega, HB0, HX0⟩
    case round =>
      obtain ⟨i, rfl, hi, HBEL, HX⟩ := hrel
      clear hmk
      by_cases hlt : i < n
      · obtain ⟨Y, hY⟩ : ∃ y, vs[i]? = some y := ⟨_, List.getElem?_eq_getElem (by rw [H2.out, ← HNN.out]; exact hlt)⟩
        obtain ⟨t, ht⟩ : ∃ y, kids[i]? = some y := ⟨_, List.getElem?_eq_getElem (by rw [← HNN.out]; exact hlt)⟩
        have CX : ∀ (j : Nat) (u : Value), j < 6 → Y.cells[j]? = some u → wr.cell? ⟨g, off + (i * 6 + j), none⟩ = some u := fun j u hj hu =>
          (HBEL.out.cell (p := ⟨g, off + (i * 6 + j), none⟩) g3).trans (G4.out _ u ((flat_at vs i j Y hY hj).trans hu))
        obtain ⟨aa, am, ac, ca, cm, cc, en, ek⟩ := (H3.out i Y t hY ht).slices
        have HH := Lib.hid (fun W' (hb : Below w.heap.size w W') => encl1_any (K := K) (xs := xs) IH.out ((H3.out i Y t hY ht).under hb) (HR.out t (List.mem_of_getElem? ht)) (HT.out.below hb) (HL.out t (List.mem_of_getElem? ht)) (HK.out.below hb))
        have hlen : ((kids.take i).map fun t => brT (inB xs t.kind) (textF d t)).length = i := by rw [List.length_map, List.length_take, ← HNN.out]; omega
        have HTK := Lib.hid (show (kids.take (i + 1)).map (fun t => brT (inB xs t.kind) (textF d t)) = ((kids.take i).map fun t => brT (inB xs t.kind) (textF d t)) ++ [brT (inB xs t.kind) (textF d t)] by
          rw [List.take_add_one, ht]; simp)
        have HLEN := Lib.hid hlen
        obtain ⟨k, sx, nv, lo, hi', kv⟩ := Y
        simp only [] at en ek
        subst en ek
        have e0 := CX 0 _ (by omega) rfl
        have e1 := CX 1 _ (by omega) rfl
        have e2 := CX 2 _ (by omega) rfl
        have e3 := CX 3 _ (by omega) rfl
        have e4 := CX 4 _ (by omega) rfl
        have e5 := CX 5 _ (by omega) rfl
        rw [← Nat.add_assoc] at e0 e1 e2 e3 e4 e5
        rw [Nat.add_zero] at e0
        have hxb := HX.out.lt
        clear hY ht hlen CX
        have hne : wr.heap.size ≠ w.heap.size := by omega
        have HA := Lib.hid (below_new HBEL.out (xobj k lo hi' sx (.slice aa am ac) (.slice ca cm cc)))
        have HXA := Lib.hid (HX.out.under ((Below.refl wr.heap.size wr).alloc (Nat.le_refl _) (xobj k lo hi' sx (.slice aa am ac) (.slice ca cm cc))))
        unfold xobj at HA HXA
        go_wp2_with fail
        refine (HH.out _ HA.out).mono ?_
        rintro e w1 ⟨rfl, hb⟩
        have HB1 := Lib.hid (below_then HA.out hb)
        have hX1 := HXA.out.under hb
        have k0 := hX1.cell (by rw [HLEN.out]; exact hlt)
        have k1 := hX1.frozen i
        rw [HLEN.out] at k0
        have HX2 := Lib.hid (hX1.set (by rw [HLEN.out]; exact hlt) (brT (inB xs t.kind) (textF d t)))
        clear hb hX1 e0 e1 e2 e3 e4 e5
        go_wp2_with fail
        go_roundw
        case rel => exact ⟨i + 1, by go_num, by omega, HB1.out.setCell (Nat.le_refl _) _, by unfold Hid; have := HX2.out; rw [HLEN.out, ← HTK.out] at this; exact this⟩
        case measure => simp [intOf]; omega
      · have hin : i = n := by omega
        subst hin
        have HTX : Hid (TX w.heap.size (kids.map fun t => brT (inB xs t.kind) (textF d t)).length (kids.map fun t => brT (inB xs t.kind) (textF d t)) wr) := by
          have := HX.out
          rw [List.take_of_length_le (by rw [← HNN.out]; omega)] at this
          rw [Hid, List.length_map, ← HNN.out]
          exact this
        have hle : (kids.map fun t => brT (inB xs t.kind) (textF d t)).length = i := by rw [List.length_map, ← HNN.out]
        have HJ := Lib.hid (join_row HTX.out s HS.out (by rw [hle]; omega))
        rw [hle] at HJ
        clear hle
        go_wp2_with fail
        refine HJ.out.mono ?_
        rintro e w1 ⟨rfl, hb⟩
        have HB1 := Lib.hid (below_then HBEL.out hb)
        clear hb
        go_wp2_with fail
        go_ret
        exact ⟨rfl, HB1.out⟩

end Go.Proofs.YtfoohffeccgkeaaDoor
