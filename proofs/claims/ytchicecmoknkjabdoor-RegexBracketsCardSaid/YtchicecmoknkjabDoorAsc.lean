/- The program's ascends: one way through the text of a whole. Of texts whose brackets stand in pairs. -/
import Derived.Test.YtchicecmoknkjabDoorHasForm
import Derived.Test.YtchicecmoknkjabDoorScan
namespace Go.Proofs.YtchicecmoknkjabDoor
open Go.RowKit Go.Lib
set_option linter.unusedVariables false
set_option linter.unusedSimpArgs false

/-- Brackets stand in pairs, and what parts stands in them. -/
def balF : Tx → Nat → Bool
  | [], _ => true
  | c :: r, d => if c = 123 then balF r (d + 1) else if c = 124 then decide (0 < d) && balF r d else if c = 125 then decide (0 < d) && balF r (d - 1) else balF r d
def cellsS (st : List (Nat × Tx)) : List Value := st.reverse.flatMap fun e => [.int .i64 (e.1 : Int), .string ⟨e.2.toArray⟩]
theorem flatS_len : ∀ l : List (Nat × Tx), (l.flatMap fun e => ([.int .i64 (e.1 : Int), .string ⟨e.2.toArray⟩] : List Value)).length = l.length * 2
  | [] => rfl
  | e :: l => by rw [List.flatMap_cons, List.length_append, flatS_len l]; simp; omega
theorem cellsS_len (st : List (Nat × Tx)) : (cellsS st).length = st.length * 2 := by
  unfold cellsS
  rw [flatS_len, List.length_reverse]
theorem new2S (W : World) (a b : Value) (t : TypeId) : ∀ (j : Nat) (u : Value), ([a, b] : List Value)[j]? = some u → (W.alloc (.cells #[a, b] t)).cell? ((⟨W.heap.size, 0, none⟩ : Addr).add j) = some u := new3 W #[a, b] t [a, b] rfl
theorem own_frozenR {W : World} {base size n g cap : Nat} {e : TypeId} {xs : List Value} (h : W.ownsRow base e size (.slice (some ⟨g, 0, none⟩) n cap) n xs) (j : Nat) : W.frozen? ⟨g, j, none⟩ = false := by
  obtain ⟨hl, h2⟩ := h
  rcases h2 with ⟨h2, _⟩ | ⟨g', cap', cur, hv, hb, hh, hc, hm, hsz, ht⟩
  · cases h2
  · obtain rfl : g = g' := by simp at hv; omega
    simp [World.frozen?, hh]
theorem own_set5r {W : World} {base size n g cap : Nat} {e : TypeId} {xs : List Value} (h : W.ownsRow base e size (.slice (some ⟨g, 0, none⟩) n cap) n xs) (j : Nat) (u : Value) :
    (W.setCell ⟨g, j, none⟩ u).ownsRow base e size (.slice (some ⟨g, 0, none⟩) n cap) n (xs.set j u) := by
  obtain ⟨hl, h2⟩ := h
  refine ⟨by simpa using hl, ?_⟩
  rcases h2 with ⟨h2, _⟩ | ⟨g', cap', cur, hv, hb, hh, hc, hm, hsz, ht⟩
  · cases h2
  · obtain ⟨rfl, rfl⟩ : g = g' ∧ cap = cap' := by simp at hv; omega
    refine .inr ⟨g, cap, cur.setIfInBounds j u, rfl, hb, ?_, hc, hm, by simpa using hsz, ?_⟩
    · obtain ⟨hlt, hk⟩ := Array.getElem?_eq_some_iff.1 hh
      show (W.heap.modify g _)[g]? = _
      rw [Array.getElem?_eq_getElem (by rw [Array.size_modify]; exact hlt), Array.getElem_modify_self, hk]
      rfl
    · rw [Array.toList_setIfInBounds, List.take_set, ht]
theorem set2_end (xs : List Value) (a b u v : Value) {m : Nat} (h : xs.length = m) : ((xs ++ [a, b]).set m u).set (m + 1) v = xs ++ [u, v] := by
  subst h
  rw [List.set_append_right _ _ (Nat.le_refl _), Nat.sub_self, List.set_append_right _ _ (by omega), show xs.length + 1 - xs.length = 1 by omega]
  rfl
theorem scan_lt (T r : Tx) (c : UInt8) (i f : Nat) (b : Tx) (st : List (Nat × Tx)) (h1 : c ≠ 123) (hx : c = 124 ∨ c = 125) (h : tlt b ((T.drop f).take (i - f))) :
    scanF T (c :: r) i ((f, b) :: st) = scanF T r (i + 1) (if c = 125 then st else (i + 1, (T.drop f).take (i - f)) :: st) := by
  rw [scanF.eq_def]
  simp only [if_neg h1, if_pos hx, if_pos h]
theorem scan_nlt (T r : Tx) (c : UInt8) (i f : Nat) (b : Tx) (st : List (Nat × Tx)) (h1 : c ≠ 123) (hx : c = 124 ∨ c = 125) (h : ¬ tlt b ((T.drop f).take (i - f))) :
    scanF T (c :: r) i ((f, b) :: st) = false := by
  rw [scanF.eq_def]
  simp only [if_neg h1, if_pos hx, if_neg h]
theorem infoList : (Tryd.prog.info? 93).map (fun i => (i.zero, i.size, i.bytes)) = some (some (.agg #[.int .i64 0, .string ⟨#[]⟩]), 2, 24) := by kernel_rfl
theorem list_parts : ∃ i0, Tryd.prog.info? 93 = some i0 ∧ i0.zero = some (.agg #[.int .i64 0, .string ⟨#[]⟩]) ∧ i0.size = 2 ∧ i0.bytes = 24 := by
  have h := infoList
  cases e : Tryd.prog.info? 93 with
  | none => rw [e] at h; cases h
  | some j =>
    rw [e] at h
    simp at h
    exact ⟨j, rfl, h.1, h.2.1, h.2.2⟩
theorem cellsS_cons (e : Nat × Tx) (st : List (Nat × Tx)) : cellsS (e :: st) = cellsS st ++ [.int .i64 (e.1 : Int), .string ⟨e.2.toArray⟩] := by
  unfold cellsS
  rw [List.reverse_cons, List.flatMap_append]
  rfl

set_option maxRecDepth 100000 in
set_option maxHeartbeats 8000000 in
theorem ascends_any (w : World) (T : Tx) (S : ByteArray) (hS : S = ⟨T.toArray⟩) (hl : T.length ≤ 4000000000000) (hbal : balF T 0 = true) :
    Calls Tryd.prog 30 #[.string S] w (GivesBool (scanF T T 0 []) w) := by
  obtain ⟨i0, hi0, hz0, hz1, hz2⟩ := list_parts
  have hsz : S.size = T.length := by rw [hS]; exact List.size_toArray
  obtain ⟨n, hn⟩ : ∃ n, n = S.size := ⟨_, rfl⟩
  have hnl : n ≤ 4000000000000 := by omega
  have HN := Lib.hid hn
  have HS := Lib.hid hS
  obtain ⟨R, hR⟩ : ∃ R, R = scanF T T 0 [] := ⟨_, rfl⟩
  rw [← hR]
  have HB0 : Hid (balF (T.drop 0) 0 = true) := hbal
  have HR0 : Hid (R = scanF T (T.drop 0) 0 []) := hR
  have HTN : Hid (n = T.length) := hn.trans hsz
  have hn2 := hn.symm
  clear hbal hR hS hl hsz hn
  go_enter Tryd.func30, Tryd.ntmps30
  go_wp2
  go_loopg [3, 9] n (fun gk v vi wr => ∃ (i : Nat) (st : List (Nat × Tx)) (p : Option Addr) (m cap : Nat), v = .slice p m cap ∧ vi = .int .i64 (i : Int) ∧ i ≤ n ∧ n - i ≤ gk ∧ Hid (Below w.heap.size w wr) ∧ Hid (wr.ownsRow w.heap.size 93 2 (.slice p m cap) m (cellsS st)) ∧ Hid (m = st.length) ∧
    Hid (R = scanF T (T.drop i) i st) ∧ Hid (balF (T.drop i) st.length = true) ∧ Hid (∀ e ∈ st, e.1 ≤ i) ∧ m ≤ i)
  case atStart => exact ⟨0, [], none, 0, 0, rfl, rfl, by omega, by omega, Below.refl _ _, World.ownsRow_nil _ _ _ _, rfl, HR0, HB0, fun e he => by simp at he, by omega⟩
  case round =>
    obtain ⟨i, st, p, m, cap, rfl, rfl, hi, hgk, HB, HO, HM, HSC, HBA, HE, hmi⟩ := hrel
    by_cases hlt : i < n
    · have hltz : (i : Int) < (n : Int) := by omega
      obtain ⟨c, hc⟩ : ∃ c, T[i]? = some c := ⟨_, List.getElem?_eq_getElem (by rw [← HTN.out]; exact hlt)⟩
      have hdr : T.drop i = c :: T.drop (i + 1) := by
        rw [List.drop_eq_getElem_cons (by rw [← HTN.out]; exact hlt)]
        congr 1
        have := (List.getElem?_eq_some_iff.1 hc).2
        exact this
      have hSc : ∀ h : i < S.size, S[i]'h = c := by
        have e := HS.out
        subst e
        intro h
        exact (List.getElem?_eq_some_iff.1 hc).2
      have HDR := Lib.hid hdr
      have key : ∀ k : UInt8, c ≠ k → ((c.toNat : Int) == (k.toNat : Int)) = false := fun k h => by
        have : c.toNat ≠ k.toNat := fun e => h (UInt8.toNat_inj.1 e)
        simp
        omega
      have HKEY := Lib.hid key
      clear hdr hc key
      have hwd : IntKind.i64.wrap ((i : Int) + 1) = (i : Int) + 1 := by rw [IntKind.wrap_i64]; omega
      by_cases h1 : c = 123
      · subst h1
        have HSC1 : Hid (R = scanF T (T.drop (i + 1)) (i + 1) ((i + 1, []) :: st)) := by
          unfold Hid
          have h := HSC.out
          rw [HDR.out, scan_open] at h
          exact h
        have HBA1 : Hid (balF (T.drop (i + 1)) ((i + 1, ([] : Tx)) :: st).length = true) := by
          unfold Hid
          have h := HBA.out
          rw [HDR.out, balF, if_pos rfl] at h
          exact h
        have HOA : Hid ((wr.alloc (.cells #[.int .i64 ((i : Int) + 1), .string ⟨#[]⟩] 93)).ownsRow w.heap.size 93 2 (.slice p m cap) m (cellsS st)) := HO.out.alloc _
        have HBb : Hid (∀ b, (Value.slice p m cap).ownBlock = some b → w.heap.size ≤ b) := by
          intro b hb
          rcases row_forms HO.out with ⟨h, _⟩ | ⟨g, cap', h⟩
          · rw [h] at hb; simp [Value.ownBlock] at hb
          · have hO := HO.out
            rw [h] at hO hb
            have := (row_base hO).1
            simp [Value.ownBlock] at hb
            omega
        have hwle : w.heap.size ≤ wr.heap.size := HB.out.size
        clear HO
        go_wp2_with (at_builtin; go_loud (refine wpList_append_own_at _ rfl _ _ 91 rfl w.heap.size 93 i0 _ 2 24 Tryd.underlying91 hi0 hz0 hz1 hz2 rfl (by decide) _ _ _ rfl HOA.out ⟨wr.heap.size, 0, none⟩ 1 1 [.int .i64 ((i : Int) + 1), .string ⟨#[]⟩] rfl rfl (new2S _ _ _ _) ?c2 ?c3 ?c4 ?c5 ?_))
        case c2 => intro x hx; simp at hx; rcases hx with rfl | rfl <;> rfl
        case c3 => unfold maxLen; omega
        case c4 => omega
        case c5 => simp; omega
        intro v' w4 hown hgrow _ hat
        obtain ⟨g4, cap4, rfl⟩ := (row_forms hown).resolve_left (fun h => by cases h.2)
        have HOWN := Lib.hid hown
        have HGROW := Lib.hid hgrow
        clear hown hgrow hat
        go_wp2
        go_roundg (n - (i + 1))
        case measure => omega
        case rel =>
          refine ⟨i + 1, (i + 1, []) :: st, _, m + 1, _, rfl, by go_num, by omega, Nat.le_refl _, (HB.out.alloc HB.out.size _).grown HGROW.out (by simp; omega) HBb.out, ?_, by unfold Hid; rw [List.length_cons, HM.out], HSC1, HBA1, ?_, by omega⟩
          · unfold Hid
            rw [cellsS_cons]
            exact HOWN.out
          · intro e he
            rcases List.mem_cons.1 he with rfl | he
            · exact Nat.le_refl _
            · have := HE.out e he; omega
      · have r1 : ((c.toNat : Int) == 123) = false := HKEY.out 123 h1
        by_cases hx : c = 124 ∨ c = 125
        · obtain ⟨⟨f, b⟩, st', rfl⟩ : ∃ e st', st = e :: st' := by
            cases st with
            | nil =>
              exfalso
              have h := HBA.out
              rw [HDR.out, balF, if_neg h1] at h
              rcases hx with e | e <;> subst e <;> simp at h
            | cons e st' => exact ⟨e, st', rfl⟩
          obtain ⟨k, rfl⟩ : ∃ k, m = k + 1 := ⟨st'.length, HM.out⟩
          obtain ⟨g, cap', hv⟩ := (row_forms HO.out).resolve_left (fun h => by cases h.2)
          obtain ⟨rfl, rfl⟩ : p = some ⟨g, 0, none⟩ ∧ cap = cap' := by simpa using hv
          have hkl : (cellsS st').length = k * 2 := by rw [cellsS_len]; have := HM.out; simp at this; omega
          rw [cellsS_cons] at HO
          obtain ⟨BB, hBB⟩ : ∃ BB : ByteArray, BB = ⟨b.toArray⟩ := ⟨_, rfl⟩
          simp only [] at HO
          rw [← hBB] at HO
          have c0 := row_cell HO.out (j := k * 2) (u := .int .i64 (f : Int)) (by rw [List.getElem?_append_right (by omega), hkl, Nat.sub_self]; rfl)
          have c1 := row_cell HO.out (j := k * 2 + 1) (u := .string BB) (by rw [List.getElem?_append_right (by omega), hkl, show k * 2 + 1 - k * 2 = 1 by omega]; rfl)
          have hfi : f ≤ i := HE.out (f, b) (by simp)
          obtain ⟨q1, q2, q3, q4⟩ := row_base HO.out
          unfold maxLen at q3
          have hk1 : (((k + 1 : Nat) : Int) - 1) = (k : Int) := by omega
          have HXX := Lib.hid hx
          have HBBE := Lib.hid hBB
          have r4 : ((c.toNat : Int) == 124 || (c.toNat : Int) == 125) = true := by rcases hx with e | e <;> subst e <;> rfl
          clear hBB
          obtain ⟨kid, hkid⟩ : ∃ kid, kid = (T.drop f).take (i - f) := ⟨_, rfl⟩
          obtain ⟨KK, hKK⟩ : ∃ KK, S.extract f i = KK := ⟨_, rfl⟩
          have hKL : KK.data.toList = kid := by rw [← hKK, HS.out, ByteArray.data_extract, Array.toList_extract, List.extract_eq_take_drop, hkid]
          have hBL : BB.data.toList = b := by rw [HBBE.out]
          have HKA : Hid (KK = ⟨kid.toArray⟩) := by
            unfold Hid
            rw [← hKL]
          by_cases ht : tlt b kid
          · have f1 : Op.bytesLess KK.toList BB.toList = false := by
              rw [ByteArray.toList_eq, ByteArray.toList_eq, hKL, hBL, cb_less]
              exact decide_eq_false (fun h => tlt_irrefl b (tlt_trans _ _ _ ht h))
            have f2 : (KK.toList == BB.toList) = false := by
              rw [ByteArray.toList_eq, ByteArray.toList_eq, hKL, hBL]
              rw [beq_eq_false_iff_ne]
              intro e
              rw [e] at ht
              exact tlt_irrefl b ht
            have hsc := HSC.out
            rw [HDR.out, scan_lt _ _ _ _ _ _ _ h1 HXX.out (by rw [← hkid]; exact ht), ← hkid] at hsc
            have hba := HBA.out
            rw [HDR.out, balF, if_neg h1] at hba
            have kf0 : wr.frozen? ⟨g, k * 2, none⟩ = false := own_frozenR HO.out _
            have kf1 : wr.frozen? ⟨g, k * 2 + 1, none⟩ = false := own_frozenR HO.out _
            have HOS : Hid (((wr.setCell ⟨g, k * 2, none⟩ (.int .i64 ((i : Int) + 1))).setCell ⟨g, k * 2 + 1, none⟩ (.string KK)).ownsRow w.heap.size 93 2 (.slice (some ⟨g, 0, none⟩) (k + 1) cap) (k + 1) (cellsS st' ++ [.int .i64 ((i : Int) + 1), .string KK])) := by
              have h := own_set5r (own_set5r HO.out (k * 2) (.int .i64 ((i : Int) + 1))) (k * 2 + 1) (.string KK)
              rw [set2_end _ _ _ _ _ hkl] at h
              exact h
            have HBS : Hid (Below w.heap.size w ((wr.setCell ⟨g, k * 2, none⟩ (.int .i64 ((i : Int) + 1))).setCell ⟨g, k * 2 + 1, none⟩ (.string KK))) := (HB.out.setCell q1 _).setCell q1 _
            have HM1 : Hid (k = st'.length) := by have := HM.out; simp at this; exact this
            have HKT := Lib.hid hkid
            by_cases h4 : c = 124
            · subst h4
              rw [if_neg (by decide)] at hsc
              rw [if_pos rfl] at hba
              have HSC1 := Lib.hid hsc
              have HBA1 : Hid (balF (T.drop (i + 1)) ((i + 1, kid) :: st').length = true) := by
                unfold Hid
                simp at hba
                exact hba
              clear hsc hba ht hx h1 hkl hkid hKL hBL HO r4 HXX
              go_wp2_with fail
              go_roundg (n - (i + 1))
              case measure => omega
              case rel =>
                refine ⟨i + 1, (i + 1, kid) :: st', some ⟨g, 0, none⟩, k + 1, cap, rfl, by go_num, by omega, Nat.le_refl _, HBS, ?_, by unfold Hid; rw [List.length_cons, ← HM1.out], HSC1, HBA1, ?_, by omega⟩
                · unfold Hid
                  rw [cellsS_cons, ← HKA.out]
                  exact HOS.out
                · intro e he
                  rcases List.mem_cons.1 he with rfl | he
                  · exact Nat.le_refl _
                  · have := HE.out e (by simp [he]); omega
            · have h5 : c = 125 := hx.resolve_left h4
              subst h5
              rw [if_pos rfl] at hsc
              rw [if_neg (by decide), if_pos rfl] at hba
              have HSC1 := Lib.hid hsc
              have HBA1 : Hid (balF (T.drop (i + 1)) st'.length = true) := by
                unfold Hid
                simp at hba
                exact hba
              have HPOP := Lib.hid (ownsRow_pop hkl HOS.out)
              clear hsc hba ht hx h1 hkl hkid hKL hBL HO r4 HXX h4
              go_wp2_with fail
              go_roundg (n - (i + 1))
              case measure => omega
              case rel =>
                exact ⟨i + 1, st', some ⟨g, 0, none⟩, k, cap, rfl, by go_num, by omega, Nat.le_refl _, HBS, HPOP, HM1, HSC1, HBA1, fun e he => by have := HE.out e (by simp [he]); omega, by omega⟩
          · have hsc := HSC.out
            rw [HDR.out, scan_nlt _ _ _ _ _ _ _ h1 HXX.out (by rw [← hkid]; exact ht)] at hsc
            have HSC1 := Lib.hid hsc
            have fin : (Op.bytesLess KK.toList BB.toList = true) ∨ (Op.bytesLess KK.toList BB.toList = false ∧ (KK.toList == BB.toList) = true) := by
              rw [ByteArray.toList_eq, ByteArray.toList_eq, hKL, hBL, cb_less]
              by_cases h : compareBytes kid b < 0
              · exact .inl (decide_eq_true h)
              · refine .inr ⟨decide_eq_false h, ?_⟩
                rw [cb_eq kid b h ht]
                exact beq_self_eq_true _
            clear hsc ht h1 hkid hKL hBL HO hkl HXX
            have g1 : ((c.toNat : Int) == 123) = false := r1
            rcases hx with h4 | h4
            · subst h4
              rcases fin with f1 | ⟨f1, f2⟩
              · go_wp2_with fail
                go_ret
                exact ⟨by rw [HSC1.out]; exact rfl, HB.out⟩
              · go_wp2_with fail
                go_ret
                exact ⟨by rw [HSC1.out]; exact rfl, HB.out⟩
            · subst h4
              rcases fin with f1 | ⟨f1, f2⟩
              · go_wp2_with fail
                go_ret
                exact ⟨by rw [HSC1.out]; exact rfl, HB.out⟩
              · go_wp2_with fail
                go_ret
                exact ⟨by rw [HSC1.out]; exact rfl, HB.out⟩
        · have r2 : ((c.toNat : Int) == 124) = false := HKEY.out 124 (fun e => hx (.inl e))
          have r3 : ((c.toNat : Int) == 125) = false := HKEY.out 125 (fun e => hx (.inr e))
          have HSC1 : Hid (R = scanF T (T.drop (i + 1)) (i + 1) st) := by
            unfold Hid
            have h := HSC.out
            rw [HDR.out, scan_other _ _ _ _ _ h1 hx] at h
            exact h
          have HBA1 : Hid (balF (T.drop (i + 1)) st.length = true) := by
            unfold Hid
            have h := HBA.out
            rw [HDR.out, balF, if_neg h1, if_neg (fun e => hx (.inl e)), if_neg (fun e => hx (.inr e))] at h
            exact h
          clear h1 hx
          go_wp2
          go_roundg (n - (i + 1))
          case measure => omega
          case rel => exact ⟨i + 1, st, p, m, cap, rfl, by go_num, by omega, Nat.le_refl _, HB, HO, HM, HSC1, HBA1, fun e he => by have := HE.out e he; omega, by omega⟩
    · have hltz : ¬ (i : Int) < (n : Int) := by omega
      go_wp2
      go_ret
      refine ⟨?_, HB.out⟩
      have e : T.drop i = [] := List.drop_eq_nil_of_le (by rw [← HTN.out]; omega)
      have h := HSC.out
      rw [e] at h
      rw [h]
      exact rfl

end Go.Proofs.YtchicecmoknkjabDoor
