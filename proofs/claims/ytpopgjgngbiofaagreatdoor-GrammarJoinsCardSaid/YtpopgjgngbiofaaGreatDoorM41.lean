/- What the laws of the grammar rest on, part 41: made by tools/merge5.py out of GJoinsW. No condition but those that each says. -/
import Derived.Test.YtpopgjgngbiofaaGreatDoorM38
import Derived.Test.YtpopgjgngbiofaaGreatDoorM40
set_option linter.unusedVariables false
set_option linter.unusedSimpArgs false
set_option maxRecDepth 100000
set_option maxHeartbeats 8000000
namespace Go.Proofs.YtpopgjgngbiofaaGreatDoor
open Go.RowKit
def wayL : List (List Int) := (List.range 6).map wayT
theorem wayL_at (n : Nat) (h : n < 6) : wayL[n]? = some (wayT n) := by
 unfold wayL
 rw [List.getElem?_map, List.getElem?_range h]
 rfl
theorem way_okF : ∀ n, n < 6 -> okF 59 (wayN n) = true := by decide +kernel
theorem okF_more : ∀ (d : Nat) (t : Tree), okF d t = true -> okF (d + 1) t = true
 | 0, t, h => by
  obtain ⟨k, x, ns, lo, hi, kids⟩ := t
  cases h
 | d + 1, t, h => by
  obtain ⟨k, x, ns, lo, hi, kids⟩ := t
  unfold okF at h ⊢
  simp only [Bool.and_eq_true, List.all_eq_true] at h ⊢
  exact ⟨h.1, fun u hu => okF_more d u (h.2 u hu)⟩
theorem wholeE_okF (q : List Nat) : okF 60 (wholeE q) = true := by
 unfold wholeE
 by_cases h : q = []
 ·subst h
  rw [if_pos rfl]
  decide +kernel
 ·rw [if_neg h]
  unfold alT okF
  simp only [Bool.and_eq_true, List.all_eq_true]
  refine ⟨⟨by simp, by simp⟩, fun u hu => ?_⟩
  rcases List.mem_cons.1 hu with rfl | hu
  ·decide +kernel
  ·obtain ⟨n, _, rfl⟩ := List.mem_map.1 hu
   exact way_okF _ (Nat.mod_lt _ (by omega))
theorem name_one (c : Int) (h : 0 <= c /\ c <= 255) : TextOk [c] := ⟨fun x hx => by simp at hx; subst hx; exact h, by simp⟩
theorem whole_ok (q : List Nat) : OkR (wholeL q) := by
 intro r hr
 unfold wholeL at hr
 simp at hr
 rcases hr with rfl | rfl | rfl
 ·exact ⟨wholeE_okF q, name_one _ (by omega)⟩
 ·exact ⟨by decide +kernel, name_one _ (by omega)⟩
 ·exact ⟨by decide +kernel, name_one _ (by omega)⟩
theorem parts_ok (q : List Nat) : OkR (partsL q) := by
 intro r hr
 unfold partsL at hr
 simp only [List.mem_append, List.mem_cons, List.not_mem_nil, or_false] at hr
 rcases hr with ((rfl | rfl) | hr) | rfl
 ·exact ⟨by decide +kernel, name_one _ (by omega)⟩
 ·exact ⟨by decide +kernel, name_one _ (by omega)⟩
 ·obtain ⟨n, _, rfl⟩ := List.mem_map.1 hr
  exact ⟨okF_more _ _ (way_okF _ (Nat.mod_lt _ (by omega))), name_one _ (by omega)⟩
 ·exact ⟨by decide +kernel, name_one _ (by omega)⟩
theorem wholeT_push (q : List Nat) (n : Nat) : wholeT (q ++ [n]) = wholeT q ++ ([32, 47, 32] ++ wayT (n % 6)) := by
 unfold wholeT
 simp
theorem moreT_push (q : List Nat) (n : Nat) : moreT (q ++ [n]) = moreT q ++ ([97, 32, 61, 47, 32] ++ wayT (n % 6) ++ [10]) := by
 unfold moreT
 simp
theorem whole_find (q : List Nat) : findM (wholeG q) [97] = some 0 := by
 unfold wholeG
 show findM (⟨[97], wholeE q⟩ :: _) [97] = _
 unfold findM
 rw [if_pos rfl]
theorem parts_find (q : List Nat) : findM (partsG q) [97] = some 1 := by
 unfold partsG
 show findM (⟨[98], foT [98]⟩ :: ⟨[97], wholeE q⟩ :: _) [97] = _
 unfold findM
 rw [if_neg (by decide)]
 unfold findM
 rw [if_pos rfl]
 rfl
theorem ways_len (q : List Nat) : (wholeG q).length = (partsG q).length /\ 2 <= (wholeG q).length /\ (wholeG q).length <= 4 := by
 unfold wholeG partsG digitG
 split <;> simp
theorem RulesX.at5 {W : World} {a : Option Addr} {n c i : Nat} {ys : List RV} {g : List GR} {r : GR} (h : RulesX W (.slice a n c) ys g) (hr : g[i]? = some r) :
  ∃ b off nm k tx lo hi a1 n1 c1 a2 n2 c2, a = some ⟨b, off, none⟩ /\ b < W.heap.size /\ (∀ (W' : World), Below W.heap.size W W' -> ∀ (j : Nat) (u : Value), (RV.cells ⟨nm, ⟨k, tx, .slice a1 n1 c1, lo, hi, .slice a2 n2 c2⟩⟩)[j]? = some u -> j < 7 -> W'.cell? ⟨b, off + (i * 7 + j), none⟩ = some u) /\ ETP W (fun _ => True) ⟨k, tx, .slice a1 n1 c1, lo, hi, .slice a2 n2 c2⟩ r.expr := by
 have hl := (List.getElem?_eq_some_iff.1 hr).1
 obtain ⟨b, off, ha, hb0, hcs⟩ : ∃ b off, a = some ⟨b, off, none⟩ /\ b < W.heap.size /\ ∀ (j : Nat) (u : Value), (ys.flatMap RV.cells)[j]? = some u -> W.cell? ⟨b, off + j, none⟩ = some u := by
  rcases h.1 with ⟨h0, _⟩ | ⟨b, off, cap, h1, _, _, h3, h4⟩
  ·omega
  ·injection h1 with h1
   exact ⟨b, off, h1, h3, h4⟩
 obtain ⟨Y, hY⟩ : ∃ y, ys[i]? = some y := ⟨_, List.getElem?_eq_getElem (by rw [h.2.1]; exact hl)⟩
 obtain ⟨e1, e2, e3⟩ := h.2.2 i Y r hY hr
 obtain ⟨⟨na, nn, nc, hns⟩, ka, kn, kc, hks⟩ := e3.slices
 obtain ⟨nm, ⟨k, tx, nv, lo, hi2, kv⟩⟩ := Y
 simp only [] at hns hks
 subst hns hks
 exact ⟨b, off, nm, k, tx, lo, hi2, _, _, _, _, _, _, ha, hb0, fun W' hW j u hu hj => (hW.cell (p := ⟨b, off + (i * 7 + j), none⟩) hb0).trans (hcs _ u ((flatR_at ys i j _ hY hj).trans hu)), e3⟩
theorem joinsW_any {w : World} {v : Value} {zs : List Int} (hT : Tabs w) (h : BytesAt w v zs) : Calls Tryz.prog 9 #[v] w (GivesBool true w) := by
 have HT := hh9 hT
 have HA := hh9 (awake_any hT)
 obtain ⟨a, cap, hv, hcap, hmx, hz, hcs⟩ := h
 obtain ⟨n, hn⟩ : ∃ n, n = zs.length := ⟨_, rfl⟩
 rw [<- hn] at hv hcap hmx hcs
 subst hv
 have HZ := hh9 hz
 have HCS := hh9 hcs
 have HN := hh9 hn
 unfold maxLen at hmx
 clear hz hcs hn hT
 go_enter Tryz.func9, Tryz.ntmps9
 go_wp2_with fail
 refine HA.out.mono ?_
 rintro e w1 ⟨rfl, hb1⟩
 have HB1 := hh9 hb1
 clear hb1
 go_wp2_with fail
 have HW6 : Hid (∀ (j : Nat) (x : List Int), wayL[j]? = some x -> (w1.alloc (.cells #[.string ⟨#[34, 120, 34]⟩, .string ⟨#[100, 105, 103, 105, 116]⟩, .string ⟨#[37, 120, 52, 49, 45, 52, 50]⟩, .string ⟨#[98, 32, 99]⟩, .string ⟨#[91, 98, 93]⟩, .string ⟨#[42, 99]⟩] 9)).cell? ⟨w1.heap.size, j, none⟩ = some (.string (strOf x))) := fun j x hj => list_cell (heap_alloc_new w1 _) (by kernel_rfl) hj
 have HBA : Hid (Below w1.heap.size w1 (w1.alloc (.cells #[.string ⟨#[34, 120, 34]⟩, .string ⟨#[100, 105, 103, 105, 116]⟩, .string ⟨#[37, 120, 52, 49, 45, 52, 50]⟩, .string ⟨#[98, 32, 99]⟩, .string ⟨#[91, 98, 93]⟩, .string ⟨#[42, 99]⟩] 9))) := (Below.refl _ _).alloc (Nat.le_refl _) _
 obtain ⟨W2, hW2⟩ : ∃ W2, W2 = (w1.alloc (.cells #[.string ⟨#[34, 120, 34]⟩, .string ⟨#[100, 105, 103, 105, 116]⟩, .string ⟨#[37, 120, 52, 49, 45, 52, 50]⟩, .string ⟨#[98, 32, 99]⟩, .string ⟨#[91, 98, 93]⟩, .string ⟨#[42, 99]⟩] 9)) := ⟨_, rfl⟩
 have hs2 : W2.heap.size = w1.heap.size + 1 := by rw [hW2]; simp
 rw [<- hW2] at HW6 HBA
 rw [<- hW2]
 clear hW2
 go_loopw [5, 6, 7] (fun s t v wr => ∃ (i : Nat) (P M : ByteArray), s = .string P /\ t = .string M /\ v = .int .i64 i /\ i <= n /\ i <= 6 /\ P.size <= 100 * i + 100 /\ M.size <= 100 * i + 100 /\ Hid (P = strOf (wholeT (takenN i zs)) /\ M = strOf (moreT (takenN i zs))) /\ Hid (Below W2.heap.size W2 wr)) (fun _ _ v _ => 6 - (intOf v).toNat)
 case atStart => exact ⟨0, ⟨#[97, 32, 61, 32, 34, 119, 34]⟩, ⟨#[97, 32, 61, 32, 34, 119, 34, 10]⟩, rfl, rfl, rfl, by omega, by omega, by decide, by decide, ⟨by kernel_rfl, by kernel_rfl⟩, Below.refl _ _⟩
 case round =>
  obtain ⟨i, P, M, rfl, rfl, rfl, hi, hi6, hP, hM, HPM, HB⟩ := hrel
  by_cases hlt : i < n /\ i < 6
  ·obtain ⟨hl1, hl2⟩ := hlt
   obtain ⟨gb, off, ha, hgl, hcz⟩ := HCS.out (by omega)
   subst ha
   obtain ⟨z, hzi⟩ : ∃ z, zs[i]? = some z := ⟨_, List.getElem?_eq_getElem (by rw [<- HN.out]; exact hl1)⟩
   have hzb := HZ.out z (List.mem_of_getElem? hzi)
   have c1 : wr.cell? ⟨gb, off + i, none⟩ = some (.int .u8 z) := ((below_then (below_then HB1.out HBA.out) HB.out).cell (p := ⟨gb, off + i, none⟩) hgl).trans (hcz i z hzi)
   have c2 : wr.cell? ⟨w1.heap.size, (z % 6).toNat, none⟩ = some (.string (strOf (wayT (z.toNat % 6)))) := by
    rw [show (z % 6).toNat = z.toNat % 6 by omega]
    exact (HB.out.cell (p := ⟨w1.heap.size, z.toNat % 6, none⟩) (by show w1.heap.size < W2.heap.size; omega)).trans (HW6.out _ _ (wayL_at _ (Nat.mod_lt _ (by omega))))
   have hq1 : decide ((i : Int) < (n : Int)) = true := decide_eq_true (by omega)
   have hq2 : decide ((i : Int) < 6) = true := decide_eq_true (by omega)
   have hzw : wrap64 z = z := by unfold wrap64 at *; omega
   obtain ⟨X, hX⟩ : ∃ X, X = strOf (wayT (z.toNat % 6)) := ⟨_, rfl⟩
   have hXs : X.size <= 10 := by rw [hX, strOf_size]; exact (way_at z.toNat).2.2.2.2.1
   rw [<- hX] at c2
   have HNX : Hid ((P ++ (⟨#[32, 47, 32]⟩ : ByteArray)) ++ X = strOf (wholeT (takenN (i + 1) zs)) /\ ((M ++ (⟨#[97, 32, 61, 47, 32]⟩ : ByteArray)) ++ X) ++ (⟨#[10]⟩ : ByteArray) = strOf (moreT (takenN (i + 1) zs))) := by
    unfold Hid
    rw [takenN_step hzi, wholeT_push, moreT_push, HPM.out.1, HPM.out.2, hX, show (⟨#[32, 47, 32]⟩ : ByteArray) = strOf [32, 47, 32] from rfl, show (⟨#[97, 32, 61, 47, 32]⟩ : ByteArray) = strOf [97, 32, 61, 47, 32] from rfl, show (⟨#[10]⟩ : ByteArray) = strOf [10] from rfl]
    simp only [str_app4, List.append_assoc]
    exact ⟨trivial, trivial⟩
   clear hX hcz hzi
   go_wp2_with fail
   go_roundw
   case rel => exact ⟨i + 1, _, _, rfl, rfl, by go_num, by omega, by omega, (by rw [ByteArray.size_append, ByteArray.size_append]; show P.size + 3 + X.size <= _; omega), (by rw [ByteArray.size_append, ByteArray.size_append, ByteArray.size_append]; show M.size + 5 + X.size + 1 <= _; omega), HNX, HB⟩
   case measure => (simp [intOf] <;> omega)
  ·obtain ⟨q, hq⟩ : ∃ q, q = takenN i zs := ⟨_, rfl⟩
   have hql : q.length <= 6 := by rw [hq]; have := takenN_len i zs; omega
   have hPM := HPM.out
   rw [<- hq] at hPM
   have HQL := hh9 hql
   have HR1 := hh9 (yread_told (w := wr) (S := P ++ (⟨#[10, 98, 32, 61, 32, 34, 98, 34, 10, 99, 32, 61, 32, 34, 99, 34, 10]⟩ : ByteArray)) (X := wholeT q ++ [10] ++ bT ++ cT) (l := wholeL q) (by rw [hPM.1, show (⟨#[10, 98, 32, 61, 32, 34, 98, 34, 10, 99, 32, 61, 32, 34, 99, 34, 10]⟩ : ByteArray) = strOf ([10] ++ bT ++ cT) by kernel_rfl, str_app4]; simp only [List.append_assoc]) (fun r hr => whole_answer (by omega) hr) (by have := (wayT_len q).1; unfold wholeT headT bT cT; simp only [List.length_append, List.length_cons, List.length_nil] at *; omega) (whole_ok q))
   have HR2 := hh9 (fun (W : World) => yread_told (w := W) (S := ((⟨#[98, 32, 61, 32, 34, 98, 34, 10]⟩ : ByteArray) ++ M) ++ (⟨#[99, 32, 61, 32, 34, 99, 34, 10]⟩ : ByteArray)) (X := bT ++ moreT q ++ cT) (l := partsL q) (by rw [hPM.2, show (⟨#[98, 32, 61, 32, 34, 98, 34, 10]⟩ : ByteArray) = strOf bT by kernel_rfl, show (⟨#[99, 32, 61, 32, 34, 99, 34, 10]⟩ : ByteArray) = strOf cT by kernel_rfl, str_app4, str_app4]) (fun r hr => parts_answer (by omega) hr) (by have := (wayT_len q).2; unfold moreT headT bT cT; simp only [List.length_append, List.length_cons, List.length_nil] at *; omega) (parts_ok q))
   have HBW := hh9 (below_then (below_then HB1.out HBA.out) HB.out)
   clear hq hPM
   rcases Nat.lt_or_ge i n with h1 | h1
   ·obtain rfl : i = 6 := by omega
    have hq1 : decide (((6 : Nat) : Int) < (n : Int)) = true := decide_eq_true (by omega)
    go_wp2_with fail
    refine HR1.out.mono ?_
    rintro e w3 ⟨v3, ys3, rfl, hl3, hb3⟩
    have HB3 := hh9 (below_then HBW.out hb3)
    have HL3 := hh9 hl3
    obtain ⟨a3, n3, c3, hv3⟩ : ∃ a n c, v3 = .slice a n c := by
     obtain ⟨a, c, h, _⟩ := hl3.1.slice
     exact ⟨a, _, c, h⟩
    subst hv3
    clear hl3 hb3
    go_wp2_with fail
    refine (HR2.out w3).mono ?_
    rintro e w4 ⟨v4, ys4, rfl, hl4, hb4⟩
    have HB4 := hh9 (below_then HB3.out hb4)
    have HL4 := hh9 hl4
    obtain ⟨a4, n4, c4, hv4⟩ : ∃ a n c, v4 = .slice a n c := by
     obtain ⟨a, c, h, _⟩ := hl4.1.slice
     exact ⟨a, _, c, h⟩
    subst hv4
    have HJ1 := hh9 (join_any (HL3.out.below hb4) (HT.out.below HB4.out) (by have := whole_twl q; have := HQL.out; omega))
    clear hl4 hb4
    go_wp2_with fail
    refine HJ1.out.mono ?_
    rintro e w5 ⟨v5, ys5, g5, er5, rfl, hJ5, hR5, hb5⟩
    obtain ⟨hg5, rfl⟩ := hJ5.one (whole_joins q)
    rw [hg5] at hR5
    have HB5 := hh9 (below_then HB4.out hb5)
    have HR5 := hh9 hR5
    have HJ2 := hh9 (join_any (HL4.out.below hb5) (HT.out.below HB5.out) (by have := parts_twl q; have := HQL.out; omega))
    obtain ⟨wl1, wl2, wl3⟩ := ways_len q
    obtain ⟨n5, hn5⟩ : ∃ n5, n5 = (wholeG q).length := ⟨_, rfl⟩
    rw [<- hn5] at wl1 wl2 wl3
    have WL1 := hh9 wl1
    clear wl1
    obtain ⟨a5, c5, hv5⟩ : ∃ a c, v5 = .slice a n5 c := by
     obtain ⟨a, c, h, _⟩ := hR5.1.slice
     exact ⟨a, c, by rw [hn5]; exact h⟩
    subst hv5
    clear hJ5 hR5 hb5 hg5 hn5
    go_wp2_with fail
    refine HJ2.out.mono ?_
    rintro e w6 ⟨v6, ys6, g6, er6, rfl, hJ6, hR6, hb6⟩
    obtain ⟨hg6, rfl⟩ := hJ6.one (parts_joins q)
    rw [hg6] at hR6
    have HB6 := hh9 (below_then HB5.out hb6)
    have HR6 := hh9 hR6
    have HR56 := hh9 (HR5.out.below hb6)
    obtain ⟨a6, c6, hv6⟩ : ∃ a c, v6 = .slice a n5 c := by
     obtain ⟨a, c, h, _⟩ := hR6.1.slice
     exact ⟨a, c, by rw [WL1.out]; exact h⟩
    subst hv6
    obtain ⟨b5, o5, nm5, k5, tx5, lo5, hi5, x1, x2, x3, x4, x5, x6, ha5, hlt5, hcs5, hE5⟩ := HR56.out.at5 (i := 0) (r := ⟨[97], wholeE q⟩) rfl
    obtain ⟨b6, o6, nm6, k6, tx6, lo6, hi6', y1, y2, y3, y4, y5, y6, ha6, hlt6, hcs6, hE6⟩ := HR6.out.at5 (i := 1) (r := ⟨[97], wholeE q⟩) rfl
    subst ha5 ha6
    have EA : Hid ((⟨#[97]⟩ : ByteArray) = strOf [97]) := (show (⟨#[97]⟩ : ByteArray) = strOf [97] by kernel_rfl)
    have HF1 := hh9 (find_any HR56.out.rules (name_one 97 (by omega)))
    rw [findI_some (whole_find q), <- EA.out] at HF1
    have HC5 := hh9 hcs5
    have HC6 := hh9 hcs6
    have HE5 := hh9 hE5
    have HE6 := hh9 hE6
    clear hJ6 hR6 hb6 hg6 hcs5 hcs6 hE5 hE6
    go_wp2_with fail
    refine HF1.out.mono ?_
    rintro e w7 ⟨rfl, hb7⟩
    have HB7 := hh9 (below_then HB6.out hb7)
    have HB67 := hh9 hb7
    have HF2 := hh9 (find_any (HR6.out.below hb7).rules (name_one 97 (by omega)))
    rw [findI_some (parts_find q), <- EA.out] at HF2
    clear hb7
    go_wp2_with fail
    refine HF2.out.mono ?_
    rintro e w8 ⟨rfl, hb8⟩
    have HB8 := hh9 (below_then HB7.out hb8)
    have hb68 := below_then HB67.out hb8
    have hb68d : Below w6.heap.size w6 w8.drew := hb68.trans (below_drawn (Below.refl _ _) 1)
    have HSM := hh9 (same5_any (HE5.out.any.under hb68d) w8.drew _ (Below.refl _ _) (HE6.out.any.under hb68d))
    unfold XV.val at HSM
    simp only [] at HSM
    have f1 := HC5.out _ hb68 1 _ rfl (by omega)
    have f2 := HC5.out _ hb68 2 _ rfl (by omega)
    have f3 := HC5.out _ hb68 3 _ rfl (by omega)
    have f4 := HC5.out _ hb68 4 _ rfl (by omega)
    have f5 := HC5.out _ hb68 5 _ rfl (by omega)
    have f6 := HC5.out _ hb68 6 _ rfl (by omega)
    have d1 := HC6.out _ hb68 1 _ rfl (by omega)
    have d2 := HC6.out _ hb68 2 _ rfl (by omega)
    have d3 := HC6.out _ hb68 3 _ rfl (by omega)
    have d4 := HC6.out _ hb68 4 _ rfl (by omega)
    have d5 := HC6.out _ hb68 5 _ rfl (by omega)
    have d6 := HC6.out _ hb68 6 _ rfl (by omega)
    simp only [Nat.zero_mul, Nat.one_mul, Nat.zero_add, Nat.reduceAdd] at f1 f2 f3 f4 f5 f6 d1 d2 d3 d4 d5 d6
    have g1 : 0 < n5 := by omega
    have g2 : 1 < n5 := by omega
    have g4 : (1 : Int) < (n5 : Int) := by omega
    have g3 : ((n5 : Int) == (n5 : Int)) = true := by simp
    clear hb8 hb68 hb68d
    go_wp2_with fail
    go_still_tail 33, (by kernel_rfl)
    change wpList _ _ _ _ _ w8.drew
    go_wp2_with fail
    refine HSM.out.mono ?_
    rintro e w9 ⟨rfl, hb9⟩
    have HB9 := hh9 (below_then (below_then HB8.out (show Below w8.heap.size w8 w8.drew from below_drawn (Below.refl _ _) 1)) hb9)
    clear hb9
    go_wp2_with fail
    go_ret
    exact ⟨rfl, HB9.out⟩
   ·have hq1 : decide ((i : Int) < (n : Int)) = false := decide_eq_false (by omega)
    go_wp2_with fail
    refine HR1.out.mono ?_
    rintro e w3 ⟨v3, ys3, rfl, hl3, hb3⟩
    have HB3 := hh9 (below_then HBW.out hb3)
    have HL3 := hh9 hl3
    obtain ⟨a3, n3, c3, hv3⟩ : ∃ a n c, v3 = .slice a n c := by
     obtain ⟨a, c, h, _⟩ := hl3.1.slice
     exact ⟨a, _, c, h⟩
    subst hv3
    clear hl3 hb3
    go_wp2_with fail
    refine (HR2.out w3).mono ?_
    rintro e w4 ⟨v4, ys4, rfl, hl4, hb4⟩
    have HB4 := hh9 (below_then HB3.out hb4)
    have HL4 := hh9 hl4
    obtain ⟨a4, n4, c4, hv4⟩ : ∃ a n c, v4 = .slice a n c := by
     obtain ⟨a, c, h, _⟩ := hl4.1.slice
     exact ⟨a, _, c, h⟩
    subst hv4
    have HJ1 := hh9 (join_any (HL3.out.below hb4) (HT.out.below HB4.out) (by have := whole_twl q; have := HQL.out; omega))
    clear hl4 hb4
    go_wp2_with fail
    refine HJ1.out.mono ?_
    rintro e w5 ⟨v5, ys5, g5, er5, rfl, hJ5, hR5, hb5⟩
    obtain ⟨hg5, rfl⟩ := hJ5.one (whole_joins q)
    rw [hg5] at hR5
    have HB5 := hh9 (below_then HB4.out hb5)
    have HR5 := hh9 hR5
    have HJ2 := hh9 (join_any (HL4.out.below hb5) (HT.out.below HB5.out) (by have := parts_twl q; have := HQL.out; omega))
    obtain ⟨wl1, wl2, wl3⟩ := ways_len q
    obtain ⟨n5, hn5⟩ : ∃ n5, n5 = (wholeG q).length := ⟨_, rfl⟩
    rw [<- hn5] at wl1 wl2 wl3
    have WL1 := hh9 wl1
    clear wl1
    obtain ⟨a5, c5, hv5⟩ : ∃ a c, v5 = .slice a n5 c := by
     obtain ⟨a, c, h, _⟩ := hR5.1.slice
     exact ⟨a, c, by rw [hn5]; exact h⟩
    subst hv5
    clear hJ5 hR5 hb5 hg5 hn5
    go_wp2_with fail
    refine HJ2.out.mono ?_
    rintro e w6 ⟨v6, ys6, g6, er6, rfl, hJ6, hR6, hb6⟩
    obtain ⟨hg6, rfl⟩ := hJ6.one (parts_joins q)
    rw [hg6] at hR6
    have HB6 := hh9 (below_then HB5.out hb6)
    have HR6 := hh9 hR6
    have HR56 := hh9 (HR5.out.below hb6)
    obtain ⟨a6, c6, hv6⟩ : ∃ a c, v6 = .slice a n5 c := by
     obtain ⟨a, c, h, _⟩ := hR6.1.slice
     exact ⟨a, c, by rw [WL1.out]; exact h⟩
    subst hv6
    obtain ⟨b5, o5, nm5, k5, tx5, lo5, hi5, x1, x2, x3, x4, x5, x6, ha5, hlt5, hcs5, hE5⟩ := HR56.out.at5 (i := 0) (r := ⟨[97], wholeE q⟩) rfl
    obtain ⟨b6, o6, nm6, k6, tx6, lo6, hi6', y1, y2, y3, y4, y5, y6, ha6, hlt6, hcs6, hE6⟩ := HR6.out.at5 (i := 1) (r := ⟨[97], wholeE q⟩) rfl
    subst ha5 ha6
    have EA : Hid ((⟨#[97]⟩ : ByteArray) = strOf [97]) := (show (⟨#[97]⟩ : ByteArray) = strOf [97] by kernel_rfl)
    have HF1 := hh9 (find_any HR56.out.rules (name_one 97 (by omega)))
    rw [findI_some (whole_find q), <- EA.out] at HF1
    have HC5 := hh9 hcs5
    have HC6 := hh9 hcs6
    have HE5 := hh9 hE5
    have HE6 := hh9 hE6
    clear hJ6 hR6 hb6 hg6 hcs5 hcs6 hE5 hE6
    go_wp2_with fail
    refine HF1.out.mono ?_
    rintro e w7 ⟨rfl, hb7⟩
    have HB7 := hh9 (below_then HB6.out hb7)
    have HB67 := hh9 hb7
    have HF2 := hh9 (find_any (HR6.out.below hb7).rules (name_one 97 (by omega)))
    rw [findI_some (parts_find q), <- EA.out] at HF2
    clear hb7
    go_wp2_with fail
    refine HF2.out.mono ?_
    rintro e w8 ⟨rfl, hb8⟩
    have HB8 := hh9 (below_then HB7.out hb8)
    have hb68 := below_then HB67.out hb8
    have hb68d : Below w6.heap.size w6 w8.drew := hb68.trans (below_drawn (Below.refl _ _) 1)
    have HSM := hh9 (same5_any (HE5.out.any.under hb68d) w8.drew _ (Below.refl _ _) (HE6.out.any.under hb68d))
    unfold XV.val at HSM
    simp only [] at HSM
    have f1 := HC5.out _ hb68 1 _ rfl (by omega)
    have f2 := HC5.out _ hb68 2 _ rfl (by omega)
    have f3 := HC5.out _ hb68 3 _ rfl (by omega)
    have f4 := HC5.out _ hb68 4 _ rfl (by omega)
    have f5 := HC5.out _ hb68 5 _ rfl (by omega)
    have f6 := HC5.out _ hb68 6 _ rfl (by omega)
    have d1 := HC6.out _ hb68 1 _ rfl (by omega)
    have d2 := HC6.out _ hb68 2 _ rfl (by omega)
    have d3 := HC6.out _ hb68 3 _ rfl (by omega)
    have d4 := HC6.out _ hb68 4 _ rfl (by omega)
    have d5 := HC6.out _ hb68 5 _ rfl (by omega)
    have d6 := HC6.out _ hb68 6 _ rfl (by omega)
    simp only [Nat.zero_mul, Nat.one_mul, Nat.zero_add, Nat.reduceAdd] at f1 f2 f3 f4 f5 f6 d1 d2 d3 d4 d5 d6
    have g1 : 0 < n5 := by omega
    have g2 : 1 < n5 := by omega
    have g4 : (1 : Int) < (n5 : Int) := by omega
    have g3 : ((n5 : Int) == (n5 : Int)) = true := by simp
    clear hb8 hb68 hb68d
    go_wp2_with fail
    go_still_tail 33, (by kernel_rfl)
    change wpList _ _ _ _ _ w8.drew
    go_wp2_with fail
    refine HSM.out.mono ?_
    rintro e w9 ⟨rfl, hb9⟩
    have HB9 := hh9 (below_then (below_then HB8.out (show Below w8.heap.size w8 w8.drew from below_drawn (Below.refl _ _) 1)) hb9)
    clear hb9
    go_wp2_with fail
    go_ret
    exact ⟨rfl, HB9.out⟩
end Go.Proofs.YtpopgjgngbiofaaGreatDoor
