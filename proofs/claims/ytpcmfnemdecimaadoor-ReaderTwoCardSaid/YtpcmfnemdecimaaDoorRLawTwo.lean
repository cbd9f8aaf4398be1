/- ReaderTwo is true for every two texts, every two lists of bytes and either bool, without any condition: two texts, the first one ending with a line's end, have the rules of both. -/
import Derived.Test.YtpcmfnemdecimaaDoorRPush
namespace Go.Proofs.YtpcmfnemdecimaaDoor.readerTwo
open Go.ChangeShapes Go.WideShapes Go.ChangeAt Go.RowKit Go.Proofs.YtpcmfnemdecimaaDoor
open Go.ChangeMaps (open_string shut_string)
set_option linter.unusedVariables false
set_option linter.unusedSimpArgs false

theorem few {s : ByteArray} {A : List Rule} {q : Nat} (h : Answer s (.ok A q)) (hs : s.size ≤ 300) : A.length ≤ 150 := by
  have h1 := answer_rules h (by omega)
  have h2 := (rules_count h1 (by omega) A _ rfl).1
  have h3 := (rules_count h1 (by omega) A _ rfl).2
  simp only [List.length_nil] at h2
  omega
theorem list_ne {s : ByteArray} (h : s.size ≠ 0) : s.toList.isEmpty = false := by
  rw [Lib.toList_data]
  cases h2 : s.data.toList with
  | nil =>
    exfalso
    apply h
    show s.data.size = 0
    rw [← Array.length_toList, h2]; rfl
  | cons a l => rfl

set_option maxRecDepth 100000 in
set_option maxHeartbeats 8000000 in
theorem walk (x0 : ByteArray) (x1 : ByteArray) (x2 : Value) (z2 : List Int) (x3 : Value) (z3 : List Int) (x4 : Bool) (w : World) (h0 : x0.size ≤ maxLen) (h1 : x1.size ≤ maxLen) (h2 : BytesAt w x2 z2) (h3 : BytesAt w x3 z3) :
    Calls Tryd.prog 6 #[.string x0, .string x1, x2, x3, .bool x4] w (GivesBool true w) := by
  go_enter Tryd.func6, Tryd.ntmps6
  go_wp2_with fail
  refine (awake_any _).mono ?_
  rintro e w1 ⟨rfl, hb1⟩
  have HB1 := Lib.hid hb1
  clear hb1
  cases x4 with
  | true =>
    go_wp2_with fail
    refine (signs_any _).mono ?_
    rintro e w5 ⟨vs, rfl, hs5, hb5⟩
    have HB5 := Lib.hid (HB1.out.trans (hb5.mono HB1.out.size))
    have HX := Lib.hid (h2.below HB5.out)
    have HS5 := Lib.hid hs5
    clear hs5 hb5
    go_wp2_with fail
    refine (pieces_any HX.out HS5.out).mono ?_
    rintro e w6 ⟨p, hp, rfl, hb6⟩
    have HB6 := Lib.hid (HB5.out.trans (hb6.mono HB5.out.size))
    clear hb6
    go_wp2_with fail
    refine (signs_any _).mono ?_
    rintro e w7 ⟨vs', rfl, hs7, hb7⟩
    have HB7 := Lib.hid (HB6.out.trans (hb7.mono HB6.out.size))
    have HX7 := Lib.hid (h3.below HB7.out)
    have HS7 := Lib.hid hs7
    clear hs7 hb7
    go_wp2_with fail
    refine (pieces_any HX7.out HS7.out).mono ?_
    rintro e w8 ⟨p', hp', rfl, hb8⟩
    have HB8 := Lib.hid (HB7.out.trans (hb8.mono HB7.out.size))
    have hsz : ((⟨#[97, 32, 61, 32]⟩ : ByteArray) ++ p).size ≤ maxLen := by
      rw [ByteArray.size_append]
      unfold maxLen
      show 4 + p.size ≤ _
      omega
    have hsz' : ((⟨#[98, 32, 61, 32]⟩ : ByteArray) ++ p').size ≤ maxLen := by
      rw [ByteArray.size_append]
      unfold maxLen
      show 4 + p'.size ≤ _
      omega
    have HS := Lib.hid hsz
    have HT := Lib.hid hsz'
    have hs4 : ((⟨#[97, 32, 61, 32]⟩ : ByteArray) ++ p).size ≤ 300 := by
      rw [ByteArray.size_append]
      show 4 + p.size ≤ _
      omega
    have ht4 : ((⟨#[98, 32, 61, 32]⟩ : ByteArray) ++ p').size ≤ 300 := by
      rw [ByteArray.size_append]
      show 4 + p'.size ≤ _
      omega
    have HS4 := Lib.hid hs4
    have HT4 := Lib.hid ht4
    clear hb8 hsz hsz' hs4 ht4
    go_wp2_with fail
    all_goals try (exfalso; omega)
    obtain ⟨S, hSS⟩ : ∃ S, S = (⟨#[97, 32, 61, 32]⟩ : ByteArray) ++ p := ⟨_, rfl⟩
    obtain ⟨T, hTT⟩ : ∃ T, T = (⟨#[98, 32, 61, 32]⟩ : ByteArray) ++ p' := ⟨_, rfl⟩
    rw [← hSS] at HS HS4 ⊢
    rw [← hTT] at HT HT4 ⊢
    have hsb : ¬ 300 < S.size := by have := HS4.out; omega
    have htb : ¬ 300 < T.size := by have := HT4.out; omega
    have q3 : True := trivial
    clear hSS hTT
    refine (read_any S _ HS.out).mono ?_
    rintro e w2 ⟨r, hr, hb, hgv⟩
    have HB2 := Lib.hid (HB8.out.trans (hb.mono HB8.out.size))
    have HR := Lib.hid hr
    cases r with
    | err c =>
      subst hgv
      have hc := hr.errs
      have q5 : (c == 0) = false := by simp; omega
      have q6 : (c != 0) = true := by simp; omega
      clear hb hr hc
      go_wp2_with fail
      refine (read_any T _ HT.out).mono ?_
      rintro e w3 ⟨r, hr, hb, hgv⟩
      have HB3 := Lib.hid (HB2.out.trans (hb.mono HB2.out.size))
      cases r with
      | err c' =>
        subst hgv
        clear hb hr
        go_wp2_with fail
        go_ret
        exact ⟨rfl, HB3.out⟩
      | ok B q' =>
        obtain ⟨v, rfl, hl⟩ := hgv
        clear hb hr hl
        go_wp2_with fail
        go_ret
        exact ⟨rfl, HB3.out⟩
    | ok A q =>
      obtain ⟨v, rfl, hl⟩ := hgv
      have HL := Lib.hid hl.reads
      clear hb hr hl
      go_wp2_with fail
      refine (read_any T _ HT.out).mono ?_
      rintro e w3 ⟨r, hr, hb, hgv⟩
      have HB3 := Lib.hid (HB2.out.trans (hb.mono HB2.out.size))
      have HR2 := Lib.hid hr
      cases r with
      | err c =>
        subst hgv
        have hc := hr.errs
        have q5 : (c == 0) = false := by simp; omega
        have q6 : (c != 0) = true := by simp; omega
        clear hb hr hc
        go_wp2_with fail
        go_ret
        exact ⟨rfl, HB3.out⟩
      | ok B q' =>
        obtain ⟨u, rfl, hl⟩ := hgv
        have HL2 := Lib.hid (HL.out.under hb)
        have HM2 := Lib.hid hl.reads
        clear hb hr hl HL
        by_cases h0 : T.size = 0
        · obtain rfl : T = ⟨#[]⟩ := by
            obtain ⟨⟨l⟩⟩ := T
            have : l = [] := List.length_eq_zero_iff.1 h0
            subst this; rfl
          clear h0
          go_wp2_with fail
          go_ret
          exact ⟨rfl, HB3.out⟩
        · have hlist := list_ne h0
          have hpos : 0 < T.size := by omega
          have hrd : rd T 0 = (T[0].toNat : Int) := rd_in hpos
          obtain ⟨b, hb⟩ : ∃ b : Int, b = (T[0].toNat : Int) := ⟨_, rfl⟩
          by_cases h32 : (T[0].toNat : Int) = 32
          · have q5 : ((T[0].toNat : Int) == 32) = true := by simpa using h32
            clear h32 hrd hb
            go_wp2_with fail
            go_ret
            exact ⟨rfl, HB3.out⟩
          · have q5 : ((T[0].toNat : Int) == 32) = false := by simpa using h32
            by_cases h9 : (T[0].toNat : Int) = 9
            · have q6 : ((T[0].toNat : Int) == 9) = true := by simpa using h9
              clear h32 h9 hrd hb
              go_wp2_with fail
              go_ret
              exact ⟨rfl, HB3.out⟩
            · have q6 : ((T[0].toNat : Int) == 9) = false := by simpa using h9
              have hbl : isBl (rd T 0) = false := by unfold isBl; rw [hrd, q5, q6]; rfl
              obtain ⟨q'', hq''⟩ := two_same (by omega) (by omega) HR.out HR2.out hbl
              have HQ := Lib.hid hq''
              have hfa := few HR.out (by omega)
              have hfb := few HR2.out (by omega)
              clear h32 h9 hrd hb hbl hq''
              go_wp2_with fail
              refine (read_any ((S ++ newline) ++ T) _ (by rw [ByteArray.size_append, ByteArray.size_append]; unfold maxLen; show S.size + 1 + T.size ≤ _; omega)).mono ?_
              rintro e w4 ⟨r3, hr3, hb3, hgv3⟩
              cases hr3.one HQ.out
              obtain ⟨x, rfl, hl3⟩ := hgv3
              have HL4 := Lib.hid (HL2.out.under hb3)
              have HM4 := Lib.hid (HM2.out.under hb3)
              have HX4 := Lib.hid hl3.reads
              have HB4 := Lib.hid (HB3.out.trans (hb3.mono HB3.out.size))
              have hz4 : w.heap.size ≤ w4.heap.size := HB4.out.size
              clear hb3 hr3 hl3 HL2 HM2
              obtain ⟨ys, hy1, hy2, hy3⟩ := HL4.out
              obtain ⟨us, hu1, hu2, hu3⟩ := HM4.out
              have HY1 := Lib.hid hy1
              have HY2 := Lib.hid hy2
              have HY3 := Lib.hid hy3
              have HU1 := Lib.hid hu1
              have HU2 := Lib.hid hu2
              have HU3 := Lib.hid hu3
              clear hy1 hy2 hy3 hu1 hu2 hu3
              go_wp2_with (at_builtin; go_loud (refine append_rows rfl _ _ rfl w.heap.size (.slice none 0 0) v 0 A.length [] (ys.flatMap LV.cells) _ rfl rfl (World.ownsRow_nil _ _ _ _) HY2.out ?c0 (lines_one HY1.out HY3.out) ?c1 hz4 ?_))
              case c0 => rw [flatL_len, HY1.out]
              case c1 => omega
              intro v5 w5 hown5 hg5 hat5
              have hgr5 : w4.grownBy w5 none := hg5
              have hat5' : v5.ownBlock = none ∨ v5.ownBlock = some w4.heap.size := hat5
              have HG5 := Lib.hid hgr5
              have HAT5 := Lib.hid hat5'
              have ho5 : w5.ownsRow w.heap.size 47 8 v5 A.length (ys.flatMap LV.cells) := by simpa using hown5
              have HO5 := Lib.hid ho5
              clear ho5
              have HU5 := Lib.hid (HU2.out.kept (W' := w5) (P' := fun b => True) (fun b _ hl => ⟨hgr5.block b hl (by simp), trivial⟩) hgr5.size)
              have hone5 := lines_one HU1.out HU3.out
              have HONE := Lib.hid hone5
              have HB5 : Hid (Below w.heap.size w w5) := HB4.out.grown hgr5 hz4 (fun k hk => by cases hk)
              have hz5 : w.heap.size ≤ w5.heap.size := HB5.out.size
              clear hown5 hg5 hat5 hgr5 hat5' hone5
              go_wp2_with (at_builtin; go_loud (refine append_rows rfl _ _ rfl w.heap.size v5 u A.length B.length (ys.flatMap LV.cells) (us.flatMap LV.cells) _ rfl rfl HO5.out HU5.out ?d0 HONE.out ?d1 hz5 ?_))
              case d0 => rw [flatL_len, HU1.out]
              case d1 => omega
              intro v6 w6 hown6 hg6 hat6
              have HW6 := Lib.hid (both_lines HY1.out HU1.out HY3.out HU3.out HG5.out HAT5.out hg6 hown6)
              have HB6 : Hid (Below w.heap.size w w6) := by
                refine HB5.out.grown hg6 hz5 (fun k hk => ?_)
                rcases HAT5.out with h | h <;> rw [h] at hk
                · cases hk
                · have := Option.some.inj hk
                  omega
              have HX6 : Hid (LinesIn w6 (fun b => True) x (A ++ B)) := by
                obtain ⟨xs, h1, h2, h3⟩ := HX4.out
                have keep : ∀ b, b < w4.heap.size → w6.heap[b]? = w4.heap[b]? := fun b hl => by
                  rw [hg6.block b (Nat.lt_of_lt_of_le hl HG5.out.size) (fun e => by rcases HAT5.out with h | h <;> rw [h] at e <;> simp at e; omega), HG5.out.block b hl (by simp)]
                exact ⟨xs, h1, h2.kept (fun b _ hl => ⟨keep b hl, trivial⟩) (Nat.le_trans HG5.out.size hg6.size), fun i y r a b => (h3 i y r a b).kept (fun b _ hl => ⟨keep b hl, trivial⟩) (Nat.le_trans HG5.out.size hg6.size)⟩
              clear hown6 hg6 hat6
              go_wp2_with fail
              refine (sameL_any HX6.out HW6.out).mono ?_
              rintro e w7 ⟨rfl, hb7⟩
              have HB7 := Lib.hid (HB6.out.trans (hb7.mono HB6.out.size))
              clear hb7
              go_wp2_with fail
              go_ret
              exact ⟨rfl, HB7.out⟩
  | false =>
    have HS := Lib.hid h0
    have HT := Lib.hid h1
    obtain ⟨S, hSS⟩ : ∃ S, S = x0 := ⟨_, rfl⟩
    obtain ⟨T, hTT⟩ : ∃ T, T = x1 := ⟨_, rfl⟩
    rw [← hSS] at HS ⊢
    rw [← hTT] at HT ⊢
    clear hSS hTT h0 h1
    by_cases hsb : 300 < S.size
    · have q1 : decide ((300 : Int) < (S.size : Int)) = true := decide_eq_true (by omega)
      have q2 : decide (300 < S.size) = true := decide_eq_true hsb
      go_wp2_with fail
      go_ret
      exact ⟨rfl, HB1.out⟩
    · have q1 : decide ((300 : Int) < (S.size : Int)) = false := decide_eq_false (by omega)
      have q2 : decide (300 < S.size) = false := decide_eq_false hsb
      by_cases htb : 300 < T.size
      · have q3 : decide ((300 : Int) < (T.size : Int)) = true := decide_eq_true (by omega)
        have q4 : decide (300 < T.size) = true := decide_eq_true htb
        go_wp2_with fail
        go_ret
        exact ⟨rfl, HB1.out⟩
      · have q3 : decide ((300 : Int) < (T.size : Int)) = false := decide_eq_false (by omega)
        have q4 : decide (300 < T.size) = false := decide_eq_false htb
        go_wp2_with fail
        refine (read_any S _ HS.out).mono ?_
        rintro e w2 ⟨r, hr, hb, hgv⟩
        have HB2 := Lib.hid (HB1.out.trans (hb.mono HB1.out.size))
        have HR := Lib.hid hr
        cases r with
        | err c =>
          subst hgv
          have hc := hr.errs
          have q5 : (c == 0) = false := by simp; omega
          have q6 : (c != 0) = true := by simp; omega
          clear hb hr hc
          go_wp2_with fail
          refine (read_any T _ HT.out).mono ?_
          rintro e w3 ⟨r, hr, hb, hgv⟩
          have HB3 := Lib.hid (HB2.out.trans (hb.mono HB2.out.size))
          cases r with
          | err c' =>
            subst hgv
            clear hb hr
            go_wp2_with fail
            go_ret
            exact ⟨rfl, HB3.out⟩
          | ok B q' =>
            obtain ⟨v, rfl, hl⟩ := hgv
            clear hb hr hl
            go_wp2_with fail
            go_ret
            exact ⟨rfl, HB3.out⟩
        | ok A q =>
          obtain ⟨v, rfl, hl⟩ := hgv
          have HL := Lib.hid hl.reads
          clear hb hr hl
          go_wp2_with fail
          refine (read_any T _ HT.out).mono ?_
          rintro e w3 ⟨r, hr, hb, hgv⟩
          have HB3 := Lib.hid (HB2.out.trans (hb.mono HB2.out.size))
          have HR2 := Lib.hid hr
          cases r with
          | err c =>
            subst hgv
            have hc := hr.errs
            have q5 : (c == 0) = false := by simp; omega
            have q6 : (c != 0) = true := by simp; omega
            clear hb hr hc
            go_wp2_with fail
            go_ret
            exact ⟨rfl, HB3.out⟩
          | ok B q' =>
            obtain ⟨u, rfl, hl⟩ := hgv
            have HL2 := Lib.hid (HL.out.under hb)
            have HM2 := Lib.hid hl.reads
            clear hb hr hl HL
            by_cases h0 : T.size = 0
            · obtain rfl : T = ⟨#[]⟩ := by
                obtain ⟨⟨l⟩⟩ := T
                have : l = [] := List.length_eq_zero_iff.1 h0
                subst this; rfl
              clear h0
              go_wp2_with fail
              go_ret
              exact ⟨rfl, HB3.out⟩
            · have hlist := list_ne h0
              have hpos : 0 < T.size := by omega
              have hrd : rd T 0 = (T[0].toNat : Int) := rd_in hpos
              obtain ⟨b, hb⟩ : ∃ b : Int, b = (T[0].toNat : Int) := ⟨_, rfl⟩
              by_cases h32 : (T[0].toNat : Int) = 32
              · have q5 : ((T[0].toNat : Int) == 32) = true := by simpa using h32
                clear h32 hrd hb
                go_wp2_with fail
                go_ret
                exact ⟨rfl, HB3.out⟩
              · have q5 : ((T[0].toNat : Int) == 32) = false := by simpa using h32
                by_cases h9 : (T[0].toNat : Int) = 9
                · have q6 : ((T[0].toNat : Int) == 9) = true := by simpa using h9
                  clear h32 h9 hrd hb
                  go_wp2_with fail
                  go_ret
                  exact ⟨rfl, HB3.out⟩
                · have q6 : ((T[0].toNat : Int) == 9) = false := by simpa using h9
                  have hbl : isBl (rd T 0) = false := by unfold isBl; rw [hrd, q5, q6]; rfl
                  obtain ⟨q'', hq''⟩ := two_same (by omega) (by omega) HR.out HR2.out hbl
                  have HQ := Lib.hid hq''
                  have hfa := few HR.out (by omega)
                  have hfb := few HR2.out (by omega)
                  clear h32 h9 hrd hb hbl hq''
                  go_wp2_with fail
                  refine (read_any ((S ++ newline) ++ T) _ (by rw [ByteArray.size_append, ByteArray.size_append]; unfold maxLen; show S.size + 1 + T.size ≤ _; omega)).mono ?_
                  rintro e w4 ⟨r3, hr3, hb3, hgv3⟩
                  cases hr3.one HQ.out
                  obtain ⟨x, rfl, hl3⟩ := hgv3
                  have HL4 := Lib.hid (HL2.out.under hb3)
                  have HM4 := Lib.hid (HM2.out.under hb3)
                  have HX4 := Lib.hid hl3.reads
                  have HB4 := Lib.hid (HB3.out.trans (hb3.mono HB3.out.size))
                  have hz4 : w.heap.size ≤ w4.heap.size := HB4.out.size
                  clear hb3 hr3 hl3 HL2 HM2
                  obtain ⟨ys, hy1, hy2, hy3⟩ := HL4.out
                  obtain ⟨us, hu1, hu2, hu3⟩ := HM4.out
                  have HY1 := Lib.hid hy1
                  have HY2 := Lib.hid hy2
                  have HY3 := Lib.hid hy3
                  have HU1 := Lib.hid hu1
                  have HU2 := Lib.hid hu2
                  have HU3 := Lib.hid hu3
                  clear hy1 hy2 hy3 hu1 hu2 hu3
                  go_wp2_with (at_builtin; go_loud (refine append_rows rfl _ _ rfl w.heap.size (.slice none 0 0) v 0 A.length [] (ys.flatMap LV.cells) _ rfl rfl (World.ownsRow_nil _ _ _ _) HY2.out ?c0 (lines_one HY1.out HY3.out) ?c1 hz4 ?_))
                  case c0 => rw [flatL_len, HY1.out]
                  case c1 => omega
                  intro v5 w5 hown5 hg5 hat5
                  have hgr5 : w4.grownBy w5 none := hg5
                  have hat5' : v5.ownBlock = none ∨ v5.ownBlock = some w4.heap.size := hat5
                  have HG5 := Lib.hid hgr5
                  have HAT5 := Lib.hid hat5'
                  have ho5 : w5.ownsRow w.heap.size 47 8 v5 A.length (ys.flatMap LV.cells) := by simpa using hown5
                  have HO5 := Lib.hid ho5
                  clear ho5
                  have HU5 := Lib.hid (HU2.out.kept (W' := w5) (P' := fun b => True) (fun b _ hl => ⟨hgr5.block b hl (by simp), trivial⟩) hgr5.size)
                  have hone5 := lines_one HU1.out HU3.out
                  have HONE := Lib.hid hone5
                  have HB5 : Hid (Below w.heap.size w w5) := HB4.out.grown hgr5 hz4 (fun k hk => by cases hk)
                  have hz5 : w.heap.size ≤ w5.heap.size := HB5.out.size
                  clear hown5 hg5 hat5 hgr5 hat5' hone5
                  go_wp2_with (at_builtin; go_loud (refine append_rows rfl _ _ rfl w.heap.size v5 u A.length B.length (ys.flatMap LV.cells) (us.flatMap LV.cells) _ rfl rfl HO5.out HU5.out ?d0 HONE.out ?d1 hz5 ?_))
                  case d0 => rw [flatL_len, HU1.out]
                  case d1 => omega
                  intro v6 w6 hown6 hg6 hat6
                  have HW6 := Lib.hid (both_lines HY1.out HU1.out HY3.out HU3.out HG5.out HAT5.out hg6 hown6)
                  have HB6 : Hid (Below w.heap.size w w6) := by
                    refine HB5.out.grown hg6 hz5 (fun k hk => ?_)
                    rcases HAT5.out with h | h <;> rw [h] at hk
                    · cases hk
                    · have := Option.some.inj hk
                      omega
                  have HX6 : Hid (LinesIn w6 (fun b => True) x (A ++ B)) := by
                    obtain ⟨xs, h1, h2, h3⟩ := HX4.out
                    have keep : ∀ b, b < w4.heap.size → w6.heap[b]? = w4.heap[b]? := fun b hl => by
                      rw [hg6.block b (Nat.lt_of_lt_of_le hl HG5.out.size) (fun e => by rcases HAT5.out with h | h <;> rw [h] at e <;> simp at e; omega), HG5.out.block b hl (by simp)]
                    exact ⟨xs, h1, h2.kept (fun b _ hl => ⟨keep b hl, trivial⟩) (Nat.le_trans HG5.out.size hg6.size), fun i y r a b => (h3 i y r a b).kept (fun b _ hl => ⟨keep b hl, trivial⟩) (Nat.le_trans HG5.out.size hg6.size)⟩
                  clear hown6 hg6 hat6
                  go_wp2_with fail
                  refine (sameL_any HX6.out HW6.out).mono ?_
                  rintro e w7 ⟨rfl, hb7⟩
                  have HB7 := Lib.hid (HB6.out.trans (hb7.mono HB6.out.size))
                  clear hb7
                  go_wp2_with fail
                  go_ret
                  exact ⟨rfl, HB7.out⟩

set_option maxRecDepth 100000 in
set_option maxHeartbeats 1000000 in
theorem lifted (os : Os) (started : os.Started) (H : Type) (enc : TypeId × Value → H) :
    ReturnsInHanded {} Tryd.checked os 6 .any (fun w args => (Rows.readerTwoSpec.pre enc Tryd.prog Tryd.f6 Rows.readerTwoRow.domain false w args ∧ laidMetH Tryd.prog Rows.readerTwoRow.laid w) ∧ sizedMet enc Tryd.prog Tryd.f6 (OpenSpec.ofChange Rows.readerTwoSpec) false w args)
      (Rows.readerTwoSpec.post enc Tryd.prog Tryd.f6 false true false false) := by
  refine returnsInHanded_of_change_and (C := Tryd.checked) (X := fun w _ => laidMetH Tryd.prog Rows.readerTwoRow.laid w) (fun _ _ _ hh h => h.of_heap hh) noKnob started (by kernel_rfl) Tryd.func6
    (ChangeSpec.witness_shaped (enc := enc) (C := Tryd.checked) (os := os) (X := fun w _ => laidMetH Tryd.prog Rows.readerTwoRow.laid w) false (World.laidAll Tryd.prog os Rows.readerTwoRow.laid) #[.string ⟨#[]⟩, .string ⟨#[]⟩, .slice none 0 0, .slice none 0 0, .bool false] 8 (World.laidAll_os _ _ _)
      (World.shaped_of_ZipB (by kernel_rfl) (by kernel_rfl)) (by kernel_rfl) (by kernel_rfl) (by kernel_rfl)
      (by rw [MakeChecks.laidMetH_plain _ _ _ (by kernel_rfl)]; exact laidMet_laidAll _ (by kernel_rfl) (by kernel_rfl))) ?_
  intro W base args ds gs before hval0 hW hcnd _ hL _
  have hval : ∀ (j : Nat) t v, Tryd.f6.params[j]? = some t → args[j]? = some v → Value.okWide Tryd.prog W .any base t v := hval0
  have hW' := hW
  obtain ⟨p, q, hA0, hV, rfl, hfz, hnd⟩ := hW
  have hA : DataW.TrodAll enc Tryd.prog W 0 (fun _ => true) true Tryd.f6.params.toList args.toList ds p := hA0
  rw [Tryd.params6] at hA hval
  obtain ⟨v0, vs0, d0, ds0, p0, q0, hargs, rfl, rfl, h0, r0⟩ := trodAll_cons hA
  obtain ⟨v1, vs1, d1, ds1, p1, q1, rfl, rfl, rfl, h1, r1⟩ := trodAll_cons r0
  obtain ⟨v2, vs2, d2, ds2, p2, q2, rfl, rfl, rfl, h2, r2⟩ := trodAll_cons r1
  obtain ⟨v3, vs3, d3, ds3, p3, q3, rfl, rfl, rfl, h3, r3⟩ := trodAll_cons r2
  obtain ⟨v4, vs4, d4, ds4, p4, q4, rfl, rfl, rfl, h4, r4⟩ := trodAll_cons r3
  obtain ⟨rfl, rfl, rfl⟩ := trodAll_nil r4
  obtain rfl : args = #[v0, v1, v2, v3, v4] := by cases args; simp_all
  obtain ⟨rfl, rfl⟩ := trodVars_none hV
  clear hA0 hval0 hA
  simp only [List.append_nil] at hW'
  have hlt := hW'.lt
  obtain ⟨x0, rfl, rfl, rfl, b0⟩ := open_string Tryd.underlying9 (hval 0 9 v0 rfl rfl) h0
  obtain ⟨x1, rfl, rfl, rfl, b1⟩ := open_string Tryd.underlying9 (hval 1 9 v1 rfl rfl) h1
  obtain ⟨z2, b2⟩ := open_bytes (hval 2 24 v2 rfl rfl) h2
  obtain ⟨z3, b3⟩ := open_bytes (hval 3 24 v3 rfl rfl) h3
  obtain ⟨x4, rfl, rfl, rfl⟩ := open_bool Tryd.underlying4 (hval 4 4 v4 rfl rfl) h4
  refine (walk x0 x1 v2 z2 v3 z3 x4 W b0 b1 b2 b3 ).mono fun e W' ⟨he, hg⟩ => ?_
  subst he
  exact ⟨_, rfl, post_of_old (pv := []) hW' (fun _ _ _ => trodAll_cons_mk (shut_bool Tryd.underlying4 _) trodAll_mk0) (trodAll_cons_mk (Below.trod laidOutP (by kernel_rfl) (of_decide_eq_true (by kernel_rfl)) h0 hg (fun x hx => by simp at hx)) (trodAll_cons_mk (Below.trod laidOutP (by kernel_rfl) (of_decide_eq_true (by kernel_rfl)) h1 hg (fun x hx => by simp at hx)) (trodAll_cons_mk (Below.trod laidOutP (by kernel_rfl) (of_decide_eq_true (by kernel_rfl)) h2 hg (fun x hx => by simpa using hlt x (by simp [hx]))) (trodAll_cons_mk (Below.trod laidOutP (by kernel_rfl) (of_decide_eq_true (by kernel_rfl)) h3 hg (fun x hx => by simpa using hlt x (by simp [hx]))) (trodAll_cons_mk (Below.trod laidOutP (by kernel_rfl) (of_decide_eq_true (by kernel_rfl)) h4 hg (fun x hx => by simp at hx)) (trodAll_mk0)))))) (fun _ => rfl) (by simp) hg⟩

theorem over : Rows.readerTwoRow.holds Tryd.pinned (OpenSpec.ofChange Rows.readerTwoSpec) :=
  OpenClaim.holds_of_wide 6 Tryd.f6 rfl rfl rfl rfl rfl rfl rfl ⟨rfl, rfl, rfl, rfl, rfl⟩ rfl rfl rfl rfl rfl (by kernel_rfl) Tryd.func6 (by kernel_rfl)
    (of_decide_eq_true (by kernel_rfl)) (by unfold Func.isWrapper; first | (rw [if_pos (by decide +kernel)]; kernel_rfl) | (rw [if_neg (by decide +kernel)]; exact ⟨rfl, rfl⟩))
    (fun os started H enc _ => lifted os started H enc)

/-- No parameter wants a stand-in. -/
theorem plain (f : FuncId) (fn : Func) (hf : Tryd.pinned.checked.prog.funcNamed "reglet/regletlaw03.ReaderTwo" = some f) (hfn : Tryd.pinned.checked.prog.funcs[f]? = some fn) :
    true = Tryd.pinned.checked.prog.looks [] ∧ ∀ (j : Nat) t, fn.params[j]? = some t → Tryd.pinned.checked.prog.wantsStandIn t = false := by
  obtain rfl : f = 6 := Option.some.inj ((show Tryd.prog.funcNamed "reglet/regletlaw03.ReaderTwo" = some 6 by kernel_rfl).symm.trans hf) |>.symm
  obtain rfl : fn = Tryd.f6 := (Option.some.inj (Tryd.func6.symm.trans hfn)).symm
  refine ⟨by kernel_rfl, fun j t ht => ?_⟩
  rw [Tryd.params6] at ht
  have hm : t ∈ [9, 9, 24, 24, 4] := by simpa using Array.mem_of_getElem? ht
  have hall : ([9, 9, 24, 24, 4].all fun u => !Tryd.prog.wantsStandIn u) = true := by kernel_rfl
  exact (show Tryd.prog.wantsStandIn t = false by simpa using List.all_eq_true.1 hall t hm)

/-- The statement. -/
theorem proved : Rows.ReaderTwoCardSaid :=
  Claim7.holds_tied_plain_at .later [] _ _ _ _ over (fun _ h => by cases h) (by kernel_rfl) (fun _ h => by cases h) readerTwo_row_tie rfl ⟨rfl, rfl⟩ (by kernel_rfl) rfl plain (by kernel_rfl)

#print axioms proved
end Go.Proofs.YtpcmfnemdecimaaDoor.readerTwo
