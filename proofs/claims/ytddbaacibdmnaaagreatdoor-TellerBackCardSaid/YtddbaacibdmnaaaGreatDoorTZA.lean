/- The library's FormatInt to the base 16, of numbers from 0 to 1114111. The table of math/bits lies as it is laid: its one cell is asked for. -/
import Derived.Test.YtddbaacibdmnaaaGreatDoorTRight
import Derived.Laws.BytesString
import Derived.Maps.OwnSet
import Derived.Deep.MidRow
import Derived.Test.YtddbaacibdmnaaaGreatDoorTShelf
import Derived.Test.YtddbaacibdmnaaaGreatDoorTLen
import Derived.Lib.SmallJoins
import Derived.Lib.AppendIntMem
import Derived.Laws.MakeOwn
import Derived.Deep.RegionWith
import Derived.Test.YtddbaacibdmnaaaGreatDoorTBackB
import Derived.Deep.RegionHeld3
namespace Go.Proofs.YtddbaacibdmnaaaGreatDoor
open Go.RowKit
set_option linter.unusedVariables false
set_option linter.unusedSimpArgs false

/-- The one cell of the library's table that is read. -/
def Bruijn (W : World) : Prop := W.cell? ⟨6, 15, none⟩ = some (.int .u8 4)
theorem Bruijn.below {W W' : World} (h : Bruijn W) (hb : Below W.heap.size W W') : Bruijn W' := cell_below h hb

theorem pow2_16 (w : World) : Calls Tryz.prog 103 #[.int .i64 16] w (SaysB true w) := by
  have h1 : bits .and .i64 16 15 = 0 := by decide +kernel
  go_enter Tryz.func103, Tryz.ntmps103
  go_wp2
  go_ret
  exact ⟨rfl, rfl⟩
theorem zeros64_16 {w : World} (h : Bruijn w) : Calls Tryz.prog 111 #[.int .u64 16] w fun e w' => e = .returned (.int .i64 4) ∧ w = w' := by
  unfold Bruijn at h
  have h1 : bits .and .u64 16 (IntKind.u64.wrap (-16)) = 16 := by decide +kernel
  have h2 : IntKind.u64.wrap 4573923408821661840 = 4573923408821661840 := by decide +kernel
  have h3 : IntKind.u64.wrap (16 * 285870213051353865) = 4573923408821661840 := by decide +kernel
  go_enter Tryz.func111, Tryz.ntmps111
  go_wp2
  go_ret
  exact ⟨rfl, rfl⟩
theorem zeros_16 {w : World} (h : Bruijn w) : Calls Tryz.prog 104 #[.int .u64 16] w fun e w' => e = .returned (.int .i64 4) ∧ w = w' := by
  have HZ := Lib.hid (zeros64_16 h)
  go_enter Tryz.func104, Tryz.ntmps104
  go_wp2_with fail
  refine HZ.out.mono ?_
  rintro e w' ⟨rfl, rfl⟩
  go_wp2_with fail
  go_ret
  exact ⟨rfl, rfl⟩

/-- Digits to the base 16, with small letters. -/
def lexC (n : Nat) : Int := if n < 10 then 48 + n else 87 + n
def lexF : Nat → Nat → List Int
  | 0, _ => []
  | f + 1, n => (if n < 16 then [] else lexF f (n / 16)) ++ [lexC (n % 16)]
theorem lexF_more {f n : Nat} (h : 16 ≤ n) : lexF (f + 1) n = lexF f (n / 16) ++ [lexC (n % 16)] := by rw [lexF, if_neg (by omega)]
theorem lexF_last {f n : Nat} (h : n < 16) : lexF (f + 1) n = [lexC n] := by rw [lexF, if_pos h, Nat.mod_eq_of_lt h]; rfl
theorem lexC_range {n : Nat} (h : n < 16) : 48 ≤ lexC n ∧ lexC n ≤ 102 := by unfold lexC; split <;> omega

theorem lexF_range : ∀ (f n : Nat) (c : Int), c ∈ lexF f n → 0 ≤ c ∧ c ≤ 255
  | 0, _, _, h => by simp [lexF] at h
  | f + 1, n, c, h => by
    unfold lexF at h
    rw [List.mem_append] at h
    rcases h with h | h
    · split at h
      · simp at h
      · exact lexF_range f _ c h
    · have := lexC_range (n := n % 16) (by omega)
      simp at h
      omega

/-- The library's array of digits, filled from its end on. -/
def dcells (y : List Int) : Array Value := (List.replicate (65 - y.length) (Value.int .u8 0) ++ y.map (Value.int .u8)).toArray
theorem dcells_set {y : List Int} (h : y.length < 65) (c : Int) : (dcells y).setIfInBounds (64 - y.length) (.int .u8 c) = dcells (c :: y) := by
  unfold dcells
  have e : 65 - y.length = (64 - y.length) + 1 := by omega
  have e2 : 65 - (c :: y).length = 64 - y.length := by simp
  rw [e, e2]
  generalize 64 - y.length = m
  rw [List.setIfInBounds_toArray]
  congr 1
  rw [List.replicate_succ', List.append_assoc, List.set_append_right _ _ (by simp)]
  simp
theorem dcells_at {y : List Int} (h : y.length ≤ 65) (j : Nat) (c : Int) (hc : y[j]? = some c) : (dcells y)[65 - y.length + j]? = some (.int .u8 c) := by
  unfold dcells
  rw [List.getElem?_toArray, List.getElem?_append_right (by simp)]
  simp [hc]
theorem dcells_zero {y : List Int} (h : y.length < 65) : (dcells y)[64 - y.length]? = some (.int .u8 0) := by
  unfold dcells
  rw [List.getElem?_toArray, List.getElem?_append_left (by simp; omega), List.getElem?_replicate, if_pos (by omega)]
theorem zeroRow65 (w : World) : (zeroValue 120).run Tryz.prog w = .ok (.agg (dcells [])) w := by kernel_rfl

def Dg (B : Nat) (y : List Int) (W : World) : Prop := W.heap[B]? = some (.cells (dcells y) 120 (0, 0))
theorem Dg.cell {B : Nat} {y : List Int} {W : World} (h : Dg B y W) (hl : y.length < 65) : W.cell? ⟨B, 64 - y.length, none⟩ = some (.int .u8 0) := by
  unfold Dg at h
  simp only [World.cell?, h]
  exact dcells_zero hl
theorem Dg.frozen {B : Nat} {y : List Int} {W : World} (h : Dg B y W) (j : Nat) : W.frozen? ⟨B, j, none⟩ = false := by
  unfold Dg at h
  simp [World.frozen?, h]
theorem Dg.set {B : Nat} {y : List Int} {W : World} (h : Dg B y W) (hl : y.length < 65) (c : Int) : Dg B (c :: y) (W.setCell ⟨B, 64 - y.length, none⟩ (.int .u8 c)) := by
  unfold Dg at h ⊢
  rw [setCell_eq_setRow _ _ _ _ _ _ _ h, dcells_set hl]
  exact setRow_heap _ _ _ _ _ _ h
theorem Dg.read {B : Nat} {y : List Int} {W : World} (h : Dg B y W) (hl : y.length ≤ 65) (j : Nat) (c : Int) (hc : y[j]? = some c) : W.cell? ⟨B, 65 - y.length + j, none⟩ = some (.int .u8 c) := by
  unfold Dg at h
  simp only [World.cell?, h]
  exact dcells_at hl j c hc

theorem ofInt_64 (n : Nat) (h : n < 18446744073709551616) : (BitVec.ofInt 64 (n : Int)).toNat = n := by
  simp [BitVec.toNat_ofInt]
  omega
theorem and15 (m : Nat) (h : m < 16777216) : bits .and .u64 (m : Int) 15 = ((m % 16 : Nat) : Int) := by
  show IntKind.u64.wrap ((BitVec.ofInt 64 (m : Int) &&& BitVec.ofInt 64 ((15 : Nat) : Int)).toNat : Int) = _
  rw [BitVec.toNat_and, ofInt_64 m (by omega), ofInt_64 15 (by omega)]
  have e := Nat.and_two_pow_sub_one_eq_mod m 4
  rw [show 2 ^ 4 - 1 = 15 by decide, show 2 ^ 4 = 16 by decide] at e
  rw [e, IntKind.wrap_u64]
  omega
theorem dig_at {a : Nat} (h : a < 16) (h2 : a < (⟨#[48, 49, 50, 51, 52, 53, 54, 55, 56, 57, 97, 98, 99, 100, 101, 102, 103, 104, 105, 106, 107, 108, 109, 110, 111, 112, 113, 114, 115, 116, 117, 118, 119, 120, 121, 122]⟩ : ByteArray).size) :
    (((⟨#[48, 49, 50, 51, 52, 53, 54, 55, 56, 57, 97, 98, 99, 100, 101, 102, 103, 104, 105, 106, 107, 108, 109, 110, 111, 112, 113, 114, 115, 116, 117, 118, 119, 120, 121, 122]⟩ : ByteArray)[a]'h2).toNat : Int) = lexC a := by
  have key : ∀ i : Fin 16, (((⟨#[48, 49, 50, 51, 52, 53, 54, 55, 56, 57, 97, 98, 99, 100, 101, 102, 103, 104, 105, 106, 107, 108, 109, 110, 111, 112, 113, 114, 115, 116, 117, 118, 119, 120, 121, 122]⟩ : ByteArray)[i.val]'(Nat.lt_of_lt_of_le i.isLt (by decide))).toNat : Int) = lexC i.val := by decide +kernel
  exact key ⟨a, h⟩

set_option maxRecDepth 100000 in
set_option maxHeartbeats 4000000 in
theorem bits16_any (n : Nat) (hn : n ≤ 1114111) {w : World} (hB : Bruijn w) : Calls Tryz.prog 93 #[.slice none 0 0, .int .u64 n, .int .i64 16, .bool false, .bool false] w
    fun e w' => e = .returned (.tuple #[.slice none 0 0, .string (strOf (lexF 6 n))]) ∧ Below w.heap.size w w' := by
  obtain ⟨Z, hZ⟩ : ∃ Z, Z = dcells [] := ⟨_, rfl⟩
  have hz : ∀ w : World, (zeroValue 120).run Tryz.prog w = .ok (.agg Z) w := by
    intro w; rw [hZ]; exact zeroRow65 w
  have HZ := Lib.hid hZ
  have HP := Lib.hid (fun W => pow2_16 W)
  have HT := Lib.hid (fun (o : Obj) => zeros_16 (w := w.alloc o) (hB.below ((Below.refl _ _).alloc (Nat.le_refl _) _)))
  clear hZ hB
  go_enter Tryz.func93, Tryz.ntmps93
  go_wp2_with fail
  refine (HP.out _).mono ?_
  rintro e w' ⟨rfl, rfl⟩
  go_wp2_with fail
  refine (HT.out _).mono ?_
  rintro e w' ⟨rfl, rfl⟩
  go_wp2_with fail
  go_loopw [1, 13] (fun u i wr => ∃ (m : Nat) (y : List Int), u = .int .u64 m ∧ i = .int .i64 (65 - (y.length : Int)) ∧ y.length ≤ 5 ∧ m < 16 ^ (6 - y.length) ∧ Hid (lexF 6 n = lexF (6 - y.length) m ++ y) ∧ Hid (Dg w.heap.size y wr) ∧ Hid (Below w.heap.size w wr)) (fun u _ _ => (intOf u).toNat)
  case atStart =>
    refine ⟨n, [], rfl, rfl, by simp, by show n < 16 ^ 6; rw [show (16 : Nat) ^ 6 = 16777216 by decide]; omega, by show lexF 6 n = lexF 6 n ++ []; simp, ?_, (Below.refl _ _).alloc (Nat.le_refl _) _⟩
    unfold Hid Dg
    rw [← HZ.out]
    exact heap_alloc_new w _
  case round =>
    obtain ⟨m, y, rfl, rfl, hy, hm, HL, HD, HBEL⟩ := hrel
    obtain ⟨l, hl⟩ : ∃ l, l = y.length := ⟨_, rfl⟩
    obtain ⟨q, hq⟩ : ∃ q : Nat, 64 - l = q := ⟨_, rfl⟩
    have hq2 : 65 - (l : Int) - 1 = (q : Int) := by omega
    have hqb : q < 65 := by omega
    have hc := HD.out.cell (by omega)
    have hf := HD.out.frozen (64 - y.length)
    rw [← hl, hq] at hc hf
    rw [← hl] at hm hy HL ⊢
    have hm24 : m < 16777216 := Nat.lt_of_lt_of_le hm (Nat.pow_le_pow_right (n := 16) (by omega) (by omega : 6 - l ≤ 6))
    obtain ⟨a, ha⟩ : ∃ a : Nat, m % 16 = a := ⟨_, rfl⟩
    have ha16 : a < 16 := by omega
    have hand : bits .and .u64 (m : Int) 15 = (a : Int) := by rw [← ha]; exact and15 m hm24
    by_cases h16 : 16 ≤ m
    · have q16 : decide ((16 : Int) ≤ (m : Int)) = true := decide_eq_true (by omega)
      obtain ⟨d, hd⟩ : ∃ d : Nat, m / 16 = d := ⟨_, rfl⟩
      have hdi : (m : Int) / 16 = (d : Int) := by omega
      have hl4 : l ≤ 4 := by
        rcases Nat.lt_or_ge l 5 with g | g
        · omega
        · have : l = 5 := by omega
          subst this
          simp at hm
          omega
      have HNX := Lib.hid (show lexF 6 n = lexF (6 - (l + 1)) d ++ (lexC a :: y) by
        rw [HL.out, show 6 - l = (6 - (l + 1)) + 1 by omega, lexF_more h16, hd, ha]
        simp)
      have HM := Lib.hid (show d < 16 ^ (6 - (l + 1)) by
        have e : 6 - l = 6 - (l + 1) + 1 := by omega
        rw [e, Nat.pow_succ] at hm
        omega)
      have HHL := Lib.hid hl
      have HQ := Lib.hid hq
      clear hm ha hd hl hq
      go_wp2_with fail
      go_roundw
      case rel =>
        refine ⟨d, lexC a :: y, rfl, ?_, ?_, ?_, ?_, ?_, ?_⟩
        · rw [List.length_cons, ← HHL.out]
          congr 1
          have := HQ.out
          omega
        · rw [List.length_cons, ← HHL.out]; omega
        · rw [List.length_cons, ← HHL.out]; exact HM.out
        · unfold Hid
          rw [List.length_cons, ← HHL.out]; exact HNX.out
        · unfold Hid
          rw [dig_at ha16]
          have := HD.out.set (by rw [← HHL.out]; omega) (lexC a)
          rw [← HHL.out, HQ.out] at this
          exact this
        · exact HBEL.out.setCell (Nat.le_refl _) _
      case measure => simp [intOf]; omega
    · have q16 : decide ((16 : Int) ≤ (m : Int)) = false := decide_eq_false (by omega)
      have hm16 : m < 16 := by omega
      have HFIN := Lib.hid (show lexF 6 n = lexC m :: y by
        rw [HL.out, show 6 - l = (5 - l) + 1 by omega, lexF_last hm16]
        rfl)
      have HHL := Lib.hid hl
      have HQ := Lib.hid hq
      have hal : Tryz.prog.arrayLen 120 = 65 := by kernel_rfl
      have hsl : ∀ W, (Instr.sliceAt 120 (.pointer (some ⟨w.heap.size, 0, none⟩)) (some (.int .i64 (q : Int))) none none).run Tryz.prog W = .ok (.slice (some ⟨w.heap.size, q, none⟩) (65 - q) (65 - q)) W := fun W => by
        rw [run_sliceAt_array_l W 120 ⟨w.heap.size, 0, none⟩ (by kernel_rfl) .i64 (q : Int) (by omega) (by rw [hal]; omega), hal]
        have hne : ¬ 65 = q := by omega
        go_simp
      obtain ⟨W2, hW2⟩ : ∃ W, W = wr.setCell ⟨w.heap.size, q, none⟩ (.int .u8 (lexC m)) := ⟨_, rfl⟩
      have hD2 : Dg w.heap.size (lexC m :: y) W2 := by
        have := HD.out.set (by rw [← HHL.out]; omega) (lexC m)
        rw [← HHL.out, HQ.out] at this
        rw [hW2]
        exact this
      have hr : ∀ c ∈ (lexC m :: y), 0 ≤ c ∧ c ≤ 255 := by
        intro c hc
        rw [← HFIN.out] at hc
        exact lexF_range 6 n c hc
      have kc : (convert 22 9 (.slice (some ⟨w.heap.size, q, none⟩) (65 - q) (65 - q))).run Tryz.prog W2 = .ok (.string (strOf (lexC m :: y))) W2 := by
        have hlen : (65 - q) = ((lexC m :: y).map byt).length := by
          rw [List.length_map, List.length_cons, ← HHL.out]
          have := HQ.out
          omega
        have := run_convert_bytes_back (P := Tryz.prog) W2 22 9 5 ⟨w.heap.size, q, none⟩ (65 - q) ((lexC m :: y).map byt) Tryz.underlying22 Tryz.underlying5 Tryz.underlying9 (fun j hj => by
          have hj2 : j < (lexC m :: y).length := by simpa using hj
          have hc := hD2.read (by rw [List.length_cons, ← HHL.out]; omega) j _ (List.getElem?_eq_getElem hj2)
          have e1 : 65 - (lexC m :: y).length + j = q + j := by
            rw [List.length_cons, ← HHL.out]
            have := HQ.out
            omega
          rw [e1] at hc
          have e2 : (⟨w.heap.size, q, none⟩ : Addr).add j = ⟨w.heap.size, q + j, none⟩ := by cases j <;> simp [Addr.add]
          rw [e2, hc]
          have := hr _ (List.getElem_mem hj2)
          rw [List.getElem_map]
          congr 2
          unfold byt
          simp
          omega)
        rw [← hlen] at this
        exact this
      have HBF := Lib.hid (show Below w.heap.size w W2 by rw [hW2]; exact HBEL.out.setCell (Nat.le_refl _) _)
      rw [hW2] at kc HBF
      have HSTR := Lib.hid (show strOf (lexC m :: y) = strOf (lexF 6 n) by rw [HFIN.out])
      rw [← dig_at hm16 (by exact Nat.lt_of_lt_of_le hm16 (by decide))] at kc HBF HSTR
      clear hm ha hl hq hand hW2 hD2 hr hal
      go_wp2_with fail
      go_ret2
      exact ⟨congrArg (fun u => Ending.returned (Value.tuple #[.slice none 0 0, Value.string u])) HSTR.out, HBF.out⟩

set_option maxRecDepth 100000 in
theorem fmt16_in (n : Nat) (hn : n ≤ 1114111) {w : World} (hB : Bruijn w) : Calls Tryz.prog 79 #[.int .i64 n, .int .i64 16] w
    fun e w' => e = .returned (.string (strOf (lexF 6 n))) ∧ Below w.heap.size w w' := by
  have HB := Lib.hid (bits16_any n hn hB)
  have hw : IntKind.u64.wrap (n : Int) = (n : Int) := by rw [IntKind.wrap_u64]; omega
  clear hB
  go_enter Tryz.func79, Tryz.ntmps79
  go_wp2_with fail
  refine HB.out.mono ?_
  rintro e w' ⟨rfl, hb⟩
  have HB2 := Lib.hid hb
  clear hb
  go_wp2_with fail
  go_ret
  exact ⟨rfl, HB2.out⟩
set_option maxRecDepth 100000 in
theorem fmt16_any (n : Nat) (hn : n ≤ 1114111) {w : World} (hB : Bruijn w) : Calls Tryz.prog 66 #[.int .i64 n, .int .i64 16] w
    fun e w' => e = .returned (.string (strOf (lexF 6 n))) ∧ Below w.heap.size w w' := by
  have HB := Lib.hid (fmt16_in n hn hB)
  clear hB
  go_enter Tryz.func66, Tryz.ntmps66
  go_wp2_with fail
  refine HB.out.mono ?_
  rintro e w' ⟨rfl, hb⟩
  have HB2 := Lib.hid hb
  clear hb
  go_wp2_with fail
  go_ret
  exact ⟨rfl, HB2.out⟩

end Go.Proofs.YtddbaacibdmnaaaGreatDoor

/- The program's teller: numbers to the base 16; how often. -/
namespace Go.Proofs.YtddbaacibdmnaaaGreatDoor
open Go.RowKit
set_option linter.unusedVariables false
set_option linter.unusedSimpArgs false

/-- The call returns this text; what was there is as it was. -/
def GivesS (x : List Int) (w : World) (e : Ending) (w' : World) : Prop := e = .returned (.string (strOf x)) ∧ Below w.heap.size w w'

theorem up_lex {a : Nat} (h : a < 16) : Lib.upperB (byt (lexC a)) = byt (hexC a) := by
  have key : ∀ i : Fin 16, Lib.upperB (byt (lexC i.val)) = byt (hexC i.val) := by decide +kernel
  exact key ⟨a, h⟩
theorem up_lexF : ∀ (f n : Nat), (lexF f n).map (fun c => Lib.upperB (byt c)) = (hexF f n).map byt
  | 0, _ => rfl
  | f + 1, n => by
    unfold lexF hexF
    rw [List.map_append, List.map_append]
    congr 1
    · split
      · rfl
      · exact up_lexF f _
    · simp [up_lex (a := n % 16) (by omega)]
theorem lexF_len (f n : Nat) : (lexF f n).length = (hexF f n).length := by
  have := congrArg List.length (up_lexF f n)
  simpa using this

theorem lexF_small : ∀ (f n : Nat) (c : Int), c ∈ lexF f n → 48 ≤ c ∧ c ≤ 102
  | 0, _, _, h => by simp [lexF] at h
  | f + 1, n, c, h => by
    unfold lexF at h
    rw [List.mem_append] at h
    rcases h with h | h
    · split at h
      · simp at h
      · exact lexF_small f _ c h
    · have := lexC_range (n := n % 16) (by omega)
      simp at h
      omega
theorem upper_lex (f n : Nat) : (⟨(Lib.toUpperA (strOf (lexF f n)).data.toList).toArray⟩ : ByteArray) = strOf (hexF f n) := by
  rw [strOf_data]
  unfold Lib.toUpperA strOf
  rw [List.map_map]
  congr 2
  exact up_lexF f n

set_option maxRecDepth 100000 in
theorem hexa_any (n : Int) (h0 : 0 ≤ n) (hn : n ≤ 1114111) {w : World} (hB : Bruijn w) : Calls Tryz.prog 48 #[.int .i64 n] w (GivesS (hexT n.toNat) w) := by
  obtain ⟨m, rfl⟩ : ∃ m : Nat, n = m := ⟨n.toNat, by omega⟩
  have hm : m ≤ 1114111 := by omega
  rw [Int.toNat_natCast]
  have HF := Lib.hid (fmt16_any m hm hB)
  have hlen := lexF_len 6 m
  have hl6 := hexF_len 6 m
  have HU : Hid (∀ W, Calls Tryz.prog 65 #[.string (strOf (lexF 6 m))] W (GivesS (hexF 6 m) W)) := fun W => by
    have := Tryz.strings_ToUpper_ascii (strOf (lexF 6 m)) W (by rw [strOf_size]; omega) (fun j b hj => by
      rw [strOf_data, List.getElem?_map] at hj
      cases hc : (lexF 6 m)[j]? with
      | none => rw [hc] at hj; cases hj
      | some c =>
        rw [hc] at hj
        have := lexF_small 6 m c (List.mem_of_getElem? hc)
        cases hj
        unfold byt
        simp
        omega)
    rw [upper_lex] at this
    exact this
  obtain ⟨S, hS⟩ : ∃ S, S = strOf (lexF 6 m) := ⟨_, rfl⟩
  obtain ⟨T, hT⟩ : ∃ T, T = strOf (hexF 6 m) := ⟨_, rfl⟩
  have hTs : T.size = (hexF 6 m).length := by rw [hT, strOf_size]
  have HU2 : Hid (∀ W, Calls Tryz.prog 65 #[.string S] W (fun e w' => e = .returned (.string T) ∧ Below W.heap.size W w')) := by rw [hS, hT]; exact HU
  have HF2 : Hid (Calls Tryz.prog 66 #[.int .i64 (m : Int), .int .i64 16] w (fun e w' => e = .returned (.string S) ∧ Below w.heap.size w w')) := by rw [hS]; exact HF
  by_cases g : m < 16
  · have e : hexF 6 m = [hexC m] := by rw [hexF, if_pos g, Nat.mod_eq_of_lt g]; rfl
    have ht1 : T.size = 1 := by rw [hTs, e]; rfl
    have HFIN := Lib.hid (show (⟨#[48]⟩ : ByteArray) ++ T = strOf (hexT m) by
      unfold hexT
      rw [if_pos g, hT, e, show (⟨#[48]⟩ : ByteArray) = strOf [48] from rfl, str_app4]
      rfl)
    clear HU HF hlen hl6 hS hT hTs e hB
    go_enter Tryz.func48, Tryz.ntmps48
    go_wp2_with fail
    refine HF2.out.mono ?_
    rintro e w1 ⟨rfl, hb⟩
    have HB1 := Lib.hid hb
    clear hb
    go_wp2_with fail
    refine (HU2.out _).mono ?_
    rintro e w2 ⟨rfl, hb⟩
    have HB2 := Lib.hid (below_then HB1.out hb)
    clear hb
    go_wp2_with fail
    go_ret
    exact ⟨congrArg (fun u => Ending.returned (Value.string u)) HFIN.out, HB2.out⟩
  · have ht2 : 2 ≤ T.size := by
      rw [hTs, hexF, if_neg g]
      have : 0 < (hexF 5 (m / 16)).length := by
        rw [show hexF 5 (m / 16) = (if m / 16 < 16 then [] else hexF 4 (m / 16 / 16)) ++ [hexC (m / 16 % 16)] from rfl]
        simp
      rw [List.length_append]
      show 2 ≤ _ + 1
      omega
    have ht3 : T.size ≤ 6 := by omega
    have HFIN := Lib.hid (show T = strOf (hexT m) by unfold hexT; rw [if_neg g, hT])
    have q : decide ((T.size : Int) < 2) = false := decide_eq_false (by omega)
    clear HU HF hlen hl6 hS hT hTs hB
    go_enter Tryz.func48, Tryz.ntmps48
    go_wp2_with fail
    refine HF2.out.mono ?_
    rintro e w1 ⟨rfl, hb⟩
    have HB1 := Lib.hid hb
    clear hb
    go_wp2_with fail
    refine (HU2.out _).mono ?_
    rintro e w2 ⟨rfl, hb⟩
    have HB2 := Lib.hid (below_then HB1.out hb)
    clear hb
    go_wp2_with fail
    go_ret
    exact ⟨congrArg (fun u => Ending.returned (Value.string u)) HFIN.out, HB2.out⟩

/-- The library's tables as they are laid. -/
def Tabs (W : World) : Prop := Bruijn W ∧ Lib.TabIs Tryz.prog W "internal/strconv.uint64pow10" .u64 Lib.pow10Tab
theorem Tabs.below {W W' : World} (h : Tabs W) (hb : Below W.heap.size W W') : Tabs W' := ⟨h.1.below hb, Go.Joins.tab_stays (g := 2) (by kernel_rfl) h.2 hb (Nat.le_refl _)⟩

theorem itoa_dec {n : Int} (h0 : 0 ≤ n) (hn : n ≤ 200) : (⟨(Lib.itoa n).toArray⟩ : ByteArray) = strOf (decT n.toNat) := by
  have key : ∀ i : Fin 201, Lib.itoa ((i.val : Nat) : Int) = (decT i.val).map byt := by decide +kernel
  have := key ⟨n.toNat, by omega⟩
  unfold strOf
  rw [← this]
  congr 3
  simp
  omega
theorem itoa_any (n : Int) (h0 : 0 ≤ n) (hn : n ≤ 200) {w : World} (hT : Tabs w) : Calls Tryz.prog 75 #[.int .i64 n] w (GivesS (decT n.toNat) w) := by
  refine (Tryz.strconv_Itoa n (by omega) (by omega) w hT.2).mono ?_
  rintro e w' ⟨rfl, k, os, rfl⟩
  exact ⟨by rw [itoa_dec h0 hn], Lib.below_grow _ _ (Nat.le_refl _) _ _⟩

theorem cnt_split {lo hi : Int} (h : cntB lo hi = true) : 0 ≤ lo ∧ lo ≤ 200 ∧ (hi = -1 ∨ (lo ≤ hi ∧ hi ≤ 200)) := by
  unfold cntB at h
  simp at h
  omega

set_option maxRecDepth 100000 in
set_option maxHeartbeats 1000000 in
theorem count_any {lo hi : Int} (h : cntB lo hi = true) {w : World} (hT : Tabs w) : Calls Tryz.prog 64 #[.int .i64 lo, .int .i64 hi] w (GivesS (cntT lo hi) w) := by
  obtain ⟨h0, h1, h2⟩ := cnt_split h
  have HT := Lib.hid hT
  have dlo := fun (g : 0 < lo) => decT_len (n := lo) (by omega) h1
  clear h hT
  by_cases g0 : hi = 0
  · subst g0
    have e : cntT lo 0 = [48] := rfl
    rw [e]
    clear e dlo
    go_enter Tryz.func64, Tryz.ntmps64
    go_wp2_with fail
    go_ret
    exact ⟨rfl, Below.refl _ _⟩
  · have q0 : (hi == 0) = false := by simp; omega
    by_cases g1 : hi = lo
    · subst g1
      have gp : 0 < hi := by omega
      have q1 : decide (0 < hi) = true := decide_eq_true gp
      have e : cntT hi hi = decT hi.toNat := by unfold cntT; rw [if_neg g0, if_pos gp, if_pos rfl, List.append_nil]
      rw [e]
      have HI := Lib.hid (itoa_any hi (by omega) h1 HT.out)
      clear e dlo g0
      go_enter Tryz.func64, Tryz.ntmps64
      go_wp2_with fail
      refine HI.out.mono ?_
      rintro e w1 ⟨rfl, hb⟩
      have HB := Lib.hid hb
      clear hb
      go_wp2_with fail
      go_ret
      exact ⟨rfl, HB.out⟩
    · have q1 : (hi == lo) = false := by simp; omega
      have HE := Lib.hid (show cntT lo hi = (if 0 < lo then decT lo.toNat else []) ++ ([42] ++ (if 0 ≤ hi then decT hi.toNat else [])) by unfold cntT; rw [if_neg g0, if_neg g1])
      have e42 : (⟨#[42]⟩ : ByteArray) = strOf [42] := rfl
      have s42 : (strOf [42]).size = 1 := rfl
      by_cases gl : 0 < lo
      · have ql : decide (0 < lo) = true := decide_eq_true gl
        have HI := Lib.hid (itoa_any lo (by omega) h1 HT.out)
        obtain ⟨A, hA⟩ : ∃ A, A = strOf (decT lo.toNat) := ⟨_, rfl⟩
        have hAs : A.size ≤ 3 := by rw [hA, strOf_size]; exact dlo gl
        have HI2 : Hid (Calls Tryz.prog 75 #[.int .i64 lo] w (fun e w' => e = .returned (.string A) ∧ Below w.heap.size w w')) := by rw [hA]; exact HI
        by_cases gh : 0 ≤ hi
        · have qh : decide (0 ≤ hi) = true := decide_eq_true gh
          have gh2 : hi ≤ 200 := by omega
          have dhi := decT_len (n := hi) gh gh2
          obtain ⟨B, hB⟩ : ∃ B, B = strOf (decT hi.toNat) := ⟨_, rfl⟩
          have hBs : B.size ≤ 3 := by rw [hB, strOf_size]; exact dhi
          have HJ : Hid (∀ W, Tabs W → Calls Tryz.prog 75 #[.int .i64 hi] W (fun e w' => e = .returned (.string B) ∧ Below W.heap.size W w')) := fun W hW => by rw [hB]; exact itoa_any hi gh gh2 hW
          have HFIN := Lib.hid (show (A ++ (⟨#[42]⟩ : ByteArray)) ++ B = strOf (cntT lo hi) by
            rw [HE.out, if_pos gl, if_pos gh, hA, hB, e42, str_app4, str_app4, List.append_assoc])
          clear HI hA hB dhi dlo g0 g1 e42
          go_enter Tryz.func64, Tryz.ntmps64
          go_wp2_with fail
          refine HI2.out.mono ?_
          rintro e w1 ⟨rfl, hb⟩
          have HB := Lib.hid hb
          clear hb
          go_wp2_with fail
          refine (HJ.out _ (HT.out.below HB.out)).mono ?_
          rintro e w2 ⟨rfl, hb⟩
          have HB2 := Lib.hid (below_then HB.out hb)
          clear hb
          go_wp2_with fail
          go_ret
          exact ⟨congrArg (fun u => Ending.returned (Value.string u)) HFIN.out, HB2.out⟩
        · have qh : decide (0 ≤ hi) = false := decide_eq_false gh
          have HFIN := Lib.hid (show A ++ (⟨#[42]⟩ : ByteArray) = strOf (cntT lo hi) by
            rw [HE.out, if_pos gl, if_neg gh, hA, e42, str_app4, List.append_nil])
          clear HI hA dlo g0 g1 e42
          go_enter Tryz.func64, Tryz.ntmps64
          go_wp2_with fail
          refine HI2.out.mono ?_
          rintro e w1 ⟨rfl, hb⟩
          have HB := Lib.hid hb
          clear hb
          go_wp2_with fail
          go_ret
          exact ⟨congrArg (fun u => Ending.returned (Value.string u)) HFIN.out, HB.out⟩
      · have ql : decide (0 < lo) = false := decide_eq_false gl
        by_cases gh : 0 ≤ hi
        · have qh : decide (0 ≤ hi) = true := decide_eq_true gh
          have gh2 : hi ≤ 200 := by omega
          have dhi := decT_len (n := hi) gh gh2
          obtain ⟨B, hB⟩ : ∃ B, B = strOf (decT hi.toNat) := ⟨_, rfl⟩
          have hBs : B.size ≤ 3 := by rw [hB, strOf_size]; exact dhi
          have HJ : Hid (∀ W, Tabs W → Calls Tryz.prog 75 #[.int .i64 hi] W (fun e w' => e = .returned (.string B) ∧ Below W.heap.size W w')) := fun W hW => by rw [hB]; exact itoa_any hi gh gh2 hW
          have HFIN := Lib.hid (show (⟨#[42]⟩ : ByteArray) ++ B = strOf (cntT lo hi) by
            rw [HE.out, if_neg gl, if_pos gh, hB, e42, str_app4, List.nil_append])
          clear hB dhi dlo g0 g1 e42
          go_enter Tryz.func64, Tryz.ntmps64
          go_wp2_with fail
          refine (HJ.out _ HT.out).mono ?_
          rintro e w2 ⟨rfl, hb⟩
          have HB2 := Lib.hid hb
          clear hb
          go_wp2_with fail
          go_ret
          exact ⟨congrArg (fun u => Ending.returned (Value.string u)) HFIN.out, HB2.out⟩
        · have qh : decide (0 ≤ hi) = false := decide_eq_false gh
          have HFIN := Lib.hid (show (⟨#[42]⟩ : ByteArray) = strOf (cntT lo hi) by
            rw [HE.out, if_neg gl, if_neg gh, e42]; rfl)
          clear dlo g0 g1 e42
          go_enter Tryz.func64, Tryz.ntmps64
          go_wp2_with fail
          go_ret
          exact ⟨congrArg (fun u => Ending.returned (Value.string u)) HFIN.out, Below.refl _ _⟩

end Go.Proofs.YtddbaacibdmnaaaGreatDoor

/- The program's teller: texts with another one between each two. -/
namespace Go.Proofs.YtddbaacibdmnaaaGreatDoor
open Go.RowKit
set_option linter.unusedVariables false
set_option linter.unusedSimpArgs false

/-- A row of n texts, of which the first ones are there. -/
def tcells (n : Nat) (xs : List (List Int)) : Array Value := (xs.map (fun x => Value.string (strOf x)) ++ List.replicate (n - xs.length) (Value.string ⟨#[]⟩)).toArray
theorem tcells_set {n : Nat} {xs : List (List Int)} (h : xs.length < n) (x : List Int) : (tcells n xs).setIfInBounds xs.length (.string (strOf x)) = tcells n (xs ++ [x]) := by
  unfold tcells
  obtain ⟨m, hm⟩ : ∃ m, n - xs.length = m + 1 := ⟨n - xs.length - 1, by omega⟩
  have e2 : n - (xs ++ [x]).length = m := by simp; omega
  rw [hm, e2, List.setIfInBounds_toArray]
  congr 1
  rw [List.set_append_right _ _ (by simp)]
  simp [List.replicate_succ]
theorem tcells_next {n : Nat} {xs : List (List Int)} (h : xs.length < n) : (tcells n xs)[xs.length]? = some (.string ⟨#[]⟩) := by
  unfold tcells
  rw [List.getElem?_toArray, List.getElem?_append_right (by simp), List.length_map, Nat.sub_self, List.getElem?_replicate, if_pos (by omega)]
def TX (B n : Nat) (xs : List (List Int)) (W : World) : Prop := W.heap[B]? = some (.cells (tcells n xs) 9 (0, 0))
theorem TX.lt {B n : Nat} {xs : List (List Int)} {W : World} (h : TX B n xs W) : B < W.heap.size := (Array.getElem?_eq_some_iff.1 h).1
theorem TX.under {B n : Nat} {xs : List (List Int)} {W W' : World} (h : TX B n xs W) (hb : Below W.heap.size W W') : TX B n xs W' := (hb.block B h.lt).trans h
theorem TX.cell {B n : Nat} {xs : List (List Int)} {W : World} (h : TX B n xs W) (hl : xs.length < n) : W.cell? ⟨B, xs.length, none⟩ = some (.string ⟨#[]⟩) := by
  unfold TX at h
  simp only [World.cell?, h]
  exact tcells_next hl
theorem TX.frozen {B n : Nat} {xs : List (List Int)} {W : World} (h : TX B n xs W) (j : Nat) : W.frozen? ⟨B, j, none⟩ = false := by
  unfold TX at h
  simp [World.frozen?, h]
theorem TX.set {B n : Nat} {xs : List (List Int)} {W : World} (h : TX B n xs W) (hl : xs.length < n) (x : List Int) : TX B n (xs ++ [x]) (W.setCell ⟨B, xs.length, none⟩ (.string (strOf x))) := by
  unfold TX at h ⊢
  rw [setCell_eq_setRow _ _ _ _ _ _ _ h, tcells_set hl]
  exact setRow_heap _ _ _ _ _ _ h
theorem TX.read {B : Nat} {xs : List (List Int)} {W : World} (h : TX B xs.length xs W) (j : Nat) (x : List Int) (hx : xs[j]? = some x) : W.cell? ⟨B, j, none⟩ = some (.string (strOf x)) := by
  unfold TX at h
  simp only [World.cell?, h]
  unfold tcells
  rw [List.getElem?_toArray, List.getElem?_append_left (by simpa using (List.getElem?_eq_some_iff.1 hx).1)]
  simp [hx]

theorem join_sep (s : List Int) : ∀ l : List (List Int), Lib.join (l.map (·.map byt)) (s.map byt) = (sepT s l).map byt := by
  intro l
  induction l with
  | nil => rfl
  | cons x l ih =>
    cases l with
    | nil => simp [sepT, Lib.join]
    | cons y l =>
      rw [sepT, List.map_append, List.map_append, ← ih]
      simp [Lib.join]

/-- The library's Join of a row that was made so. -/
theorem join_row {B : Nat} {xs : List (List Int)} {W : World} (h : TX B xs.length xs W) (s : List Int) (hl : (sepT s xs).length ≤ 1000000000000) (hn : xs.length ≤ 2000000000000) :
    Calls Tryz.prog 29 #[.slice (some ⟨B, 0, none⟩) xs.length xs.length, .string (strOf s)] W (GivesS (sepT s xs) W) := by
  have e : xs.length = (xs.map strOf).length := by simp
  have hm : (xs.map strOf).map (·.data.toList) = xs.map (·.map byt) := by
    rw [List.map_map]
    exact List.map_congr_left fun x _ => strOf_data x
  have hj : Lib.join ((xs.map strOf).map (·.data.toList)) (strOf s).data.toList = (sepT s xs).map byt := by rw [hm, strOf_data, join_sep]
  have := Tryz.strings_Join B 0 xs.length (xs.map strOf) (strOf s) W (fun j y hy => by
    rw [List.getElem?_map] at hy
    cases hx : xs[j]? with
    | none => rw [hx] at hy; cases hy
    | some x =>
      rw [hx] at hy
      cases hy
      rw [Nat.zero_add]
      exact h.read j x hx) h.lt (by rw [← e]; omega) (by rw [← e]; exact Nat.le_refl _) (by rw [hj, List.length_map]; omega)
  rw [hj, ← e] at this
  exact this

theorem infoStr : (Tryz.prog.info? 9).map (fun i => (i.zero, i.size, i.bytes)) = some (some (.string ⟨#[]⟩), 1, 16) := by kernel_rfl
theorem made_texts (n : Nat) : madeCells (Value.string ⟨#[]⟩).cells (n * 1) = tcells n [] := by
  unfold madeCells tcells
  apply Array.ext
  · simp
  · intro i h1 h2
    simp [Value.cells, Nat.mod_one]
theorem make_texts (n : Nat) (hn : n ≤ 2000000000000) (w : World) : (Instr.makeSlice 45 (.int .i64 (n : Int)) (.int .i64 (n : Int))).run Tryz.prog w = .ok (.slice (some ⟨w.heap.size, 0, none⟩) n n) (w.alloc (.cells (tcells n []) 9)) := by
  have hi := infoStr
  cases h : Tryz.prog.info? 9 with
  | none => rw [h] at hi; cases hi
  | some i =>
    rw [h] at hi
    simp only [Option.map_some, Option.some.injEq, Prod.mk.injEq] at hi
    obtain ⟨h1, h2, h3⟩ := hi
    have := run_make (P := Tryz.prog) w 45 9 i (.string ⟨#[]⟩) Tryz.underlying45 h h1 .i64 .i64 (n : Int) (n : Int) (by omega) (by omega) (by rw [h3]; omega) (by omega)
    rw [h2, Int.toNat_natCast, made_texts] at this
    exact this

set_option maxRecDepth 100000 in
set_option maxHeartbeats 4000000 in
theorem joinI_any {nums : List Int} {v : Value} {w : World} (hv : RowAny w v nums.length (icells nums)) (hn : nums.all numB = true) (h1 : 1 ≤ nums.length) (h2 : nums.length ≤ 10000) (hT : Tabs w) (s : List Int) (hs : s.length = 1) :
    Calls Tryz.prog 47 #[v, .string (strOf s), .func (Fn.func 48) #[] #[]] w (GivesS (sepT s (nums.map fun n => hexT n.toNat)) w) := by
  rcases hv with ⟨h0, _⟩ | ⟨g, off, cap, rfl, g1, g2, g3, g4⟩
  · omega
  · have HT := Lib.hid hT
    have G4 := Lib.hid g4
    have HN := Lib.hid hn
    obtain ⟨n, hnn⟩ : ∃ n, n = nums.length := ⟨_, rfl⟩
    rw [← hnn] at g1 h1 h2 ⊢
    have HNN := Lib.hid hnn
    unfold maxLen at g2
    clear hT g4 hn hnn
    go_enter Tryz.func47, Tryz.ntmps47
    have hmk := make_texts n (by omega) w
    have HB0 := Lib.hid ((Below.refl w.heap.size w).alloc (Nat.le_refl _) (.cells (tcells n []) 9))
    have HX0 : Hid (TX w.heap.size n [] (w.alloc (.cells (tcells n []) 9))) := heap_alloc_new w _
    obtain ⟨W0, hW0⟩ : ∃ W0, W0 = w.alloc (.cells (tcells n []) 9) := ⟨_, rfl⟩
    rw [← hW0] at hmk HB0 HX0
    clear hW0
    go_wp2_with fail
    go_loopw [15] (fun v wr => ∃ i : Nat, v = .int .i64 i ∧ i ≤ n ∧ Hid (Below w.heap.size w wr) ∧ Hid (TX w.heap.size n ((nums.take i).map fun n => hexT n.toNat) wr)) (fun v _ => n - (intOf v).toNat)
    case atStart => exact ⟨0, rfl, by omega, HB0, HX0⟩
    case round =>
      obtain ⟨i, rfl, hi, HBEL, HX⟩ := hrel
      clear hmk
      by_cases hlt : i < n
      · obtain ⟨Z, hZ⟩ : ∃ z, nums[i]? = some z := ⟨_, List.getElem?_eq_getElem (by rw [← HNN.out]; exact hlt)⟩
        have c0 := (HBEL.out.cell (p := ⟨g, off + i, none⟩) g3).trans (G4.out i _ (icells_at4 hZ))
        have hz := List.all_eq_true.1 HN.out Z (List.mem_of_getElem? hZ)
        unfold numB at hz
        simp at hz
        have HH := Lib.hid (hexa_any Z hz.1 hz.2 (HT.out.1.below HBEL.out))
        have hlen : ((nums.take i).map fun n : Int => hexT n.toNat).length = i := by rw [List.length_map, List.length_take, ← HNN.out]; omega
        have HTK := Lib.hid (show (nums.take (i + 1)).map (fun n : Int => hexT n.toNat) = ((nums.take i).map fun n : Int => hexT n.toNat) ++ [hexT Z.toNat] by
          rw [List.take_add_one, hZ]; simp)
        have HLEN := Lib.hid hlen
        clear hZ hz hlen
        go_wp2_with fail
        refine HH.out.mono ?_
        rintro e w1 ⟨rfl, hb⟩
        have HB1 := Lib.hid (below_then HBEL.out hb)
        have hX1 := HX.out.under hb
        have k0 := hX1.cell (by rw [HLEN.out]; exact hlt)
        have k1 := hX1.frozen i
        rw [HLEN.out] at k0
        have HX2 := Lib.hid (hX1.set (by rw [HLEN.out]; exact hlt) (hexT Z.toNat))
        clear hb hX1
        go_wp2_with fail
        go_roundw
        case rel => exact ⟨i + 1, by go_num, by omega, HB1.out.setCell (Nat.le_refl _) _, by unfold Hid; have := HX2.out; rw [HLEN.out, ← HTK.out] at this; exact this⟩
        case measure => simp [intOf]; omega
      · have hin : i = n := by omega
        subst hin
        have HTX : Hid (TX w.heap.size (nums.map fun n : Int => hexT n.toNat).length (nums.map fun n : Int => hexT n.toNat) wr) := by
          have := HX.out
          rw [List.take_of_length_le (by rw [← HNN.out]; omega)] at this
          rw [Hid, List.length_map, ← HNN.out]
          exact this
        have hle : (nums.map fun n : Int => hexT n.toNat).length = i := by rw [List.length_map, ← HNN.out]
        have hsl : (sepT s (nums.map fun n : Int => hexT n.toNat)).length ≤ 1000000000000 := by
          have a := sep_len s (nums.map fun n : Int => hexT n.toNat)
          rw [List.map_map] at a
          have b : (nums.map ((fun x : List Int => x.length + s.length) ∘ fun n : Int => hexT n.toNat)).sum ≤ (nums.map fun _ => 7).sum := sum_le nums fun u hu => by
            have := hexT_len u.toNat
            simp
            omega
          rw [sum_const, ← HNN.out] at b
          omega
        have HJ := Lib.hid (join_row HTX.out s hsl (by rw [hle]; omega))
        rw [hle] at HJ
        clear hsl hle
        go_wp2_with fail
        refine HJ.out.mono ?_
        rintro e w1 ⟨rfl, hb⟩
        have HB1 := Lib.hid (below_then HBEL.out hb)
        clear hb
        go_wp2_with fail
        go_ret
        exact ⟨rfl, HB1.out⟩

end Go.Proofs.YtddbaacibdmnaaaGreatDoor

/- The program's teller: an expression's text. -/
namespace Go.Proofs.YtddbaacibdmnaaaGreatDoor
open Go.RowKit
set_option linter.unusedVariables false
set_option linter.unusedSimpArgs false

/-- The call answers the text of every expression of at most this depth that may be. -/
def TextTo (d : Nat) : Prop := ∀ (W : World) (X : XV) (t : Tree), ETree W X t → rightF d t = true → Tabs W → (textF d t).length ≤ 1000000000000 → Calls Tryz.prog 30 #[X.val] W (GivesS (textF d t) W)

/-- Kinds as they lie where a closure holds them. -/
def EnclAt (W : World) (K : Nat) (xs : List Int) : Prop := ∃ v, W.cell? ⟨K, 0, none⟩ = some v ∧ RowAny W v xs.length (icells xs)
theorem EnclAt.below {W W' : World} {K : Nat} {xs : List Int} (h : EnclAt W K xs) (hb : Below W.heap.size W W') : EnclAt W' K xs := by
  obtain ⟨v, h1, h2⟩ := h
  exact ⟨v, cell_below h1 hb, h2.below hb⟩
def GivesEncl (xs : List Int) (w : World) (e : Ending) (w' : World) : Prop := ∃ K, e = .returned (.func (Fn.func 63) #[] #[.pointer (some ⟨K, 0, none⟩)]) ∧ EnclAt w' K xs ∧ Below w.heap.size w w'

set_option maxRecDepth 100000 in
theorem encl_any {xs : List Int} {v : Value} {w : World} (hv : RowAny w v xs.length (icells xs)) : Calls Tryz.prog 45 #[v] w (GivesEncl xs w) := by
  obtain ⟨a, cap, rfl, _⟩ := hv.slice
  have hb := (Below.refl w.heap.size w).alloc (Nat.le_refl _) (.cells #[.slice a xs.length cap] 33)
  have HE : Hid (EnclAt (w.alloc (.cells #[.slice a xs.length cap] 33)) w.heap.size xs) := ⟨.slice a xs.length cap, by simp only [World.cell?, heap_alloc_new]; rfl, hv.below hb⟩
  have HB := Lib.hid hb
  clear hb hv
  go_enter Tryz.func45, Tryz.ntmps45
  go_wp2_with fail
  go_ret
  exact ⟨w.heap.size, rfl, HE.out, HB.out⟩

theorem ETree.slices {W : World} {X : XV} {t : Tree} (h : ETree W X t) : ∃ a m ca c n cc, X.ns = .slice a m ca ∧ X.ks = .slice c n cc := by
  cases h with
  | mk vs h0 hl h1 h2 h3 h4 =>
    obtain ⟨a, ca, e1, _⟩ := h1.slice
    obtain ⟨c, cc, e2, _⟩ := h2.slice
    exact ⟨a, _, ca, c, _, cc, e1, e2⟩
theorem ETree.size {W : World} {X : XV} {t : Tree} (h : ETree W X t) : ∃ x ns lo hi kids, t = .mk X.kind x ns lo hi kids := by
  cases h with | mk vs h0 hl h1 h2 h3 h4 => exact ⟨_, _, _, _, _, rfl⟩

set_option maxRecDepth 100000 in
set_option maxHeartbeats 1000000 in
theorem encl1_any {d : Nat} (ih : TextTo d) {K : Nat} {xs : List Int} {W : World} {X : XV} {t : Tree} (h : ETree W X t) (hr : rightF d t = true) (hT : Tabs W) (hl : (textF d t).length ≤ 1000000000000) (hK : EnclAt W K xs) :
    Calls Tryz.prog 63 #[X.val, .pointer (some ⟨K, 0, none⟩)] W (GivesS (brT (inB xs t.kind) (textF d t)) W) := by
  obtain ⟨o1, o2⟩ := h.ones
  have ek : t.kind = X.kind := by obtain ⟨_, _, _, _, _, rfl⟩ := h.size; rfl
  rw [ek]
  have hb := (Below.refl W.heap.size W).alloc (Nat.le_refl _) (xobj X.kind X.lo X.hi X.text X.ns X.ks)
  obtain ⟨v, hk1, hk2⟩ := hK.below hb
  have hX := X6.new W X.kind X.lo X.hi X.text X.ns X.ks
  have HI := Lib.hid (fun (bb : Bool) (hbb : inB xs X.kind = bb) => isOf_is (X := X) hbb o1 o2 _ v hk2)
  have HTX := Lib.hid (fun W' (hb' : Below W.heap.size W W') => ih W' X t (h.under hb') hr (hT.below hb') hl)
  have hsz : (strOf (textF d t)).size ≤ 1000000000000 := by rw [strOf_size]; exact hl
  obtain ⟨S, hS⟩ : ∃ S, S = strOf (textF d t) := ⟨_, rfl⟩
  have HBR := Lib.hid (show ((⟨#[40]⟩ : ByteArray) ++ S) ++ ⟨#[41]⟩ = strOf (brT true (textF d t)) by
    rw [hS, show (⟨#[40]⟩ : ByteArray) = strOf [40] from rfl, show (⟨#[41]⟩ : ByteArray) = strOf [41] from rfl, str_app4, str_app4]; rfl)
  have HNB := Lib.hid (show S = strOf (brT false (textF d t)) by rw [hS]; rfl)
  have HTX2 : Hid (∀ W', Below W.heap.size W W' → Calls Tryz.prog 30 #[X.val] W' (fun e w' => e = .returned (.string S) ∧ Below W'.heap.size W' w')) := by rw [hS]; exact HTX
  rw [← hS] at hsz
  obtain ⟨k, s, nv, lo, hi, kv⟩ := X
  unfold xobj at hb hX HI hk1
  have HB := Lib.hid hb
  have HX := Lib.hid hX
  show Calls _ _ #[.agg #[.int .i64 k, .string s, nv, .int .i64 lo, .int .i64 hi, kv], .pointer (some ⟨K, 0, none⟩)] W _
  clear hb h hK hk2 hS hT hr hl ek HTX hX
  cases hp : inB xs k
  all_goals
    have HP := Lib.hid (HI.out _ hp)
    clear hp
    go_enter Tryz.func63, Tryz.ntmps63
    go_wp2_with fail
    refine HP.out.mono ?_
    rintro e w1 ⟨rfl, hb⟩
    have HB1 := Lib.hid (below_then HB.out hb)
    obtain ⟨a0, a1, a2, a3, a4, a5⟩ := (HX.out.under hb).cells
    clear hb
    go_wp2_with fail
    refine (HTX2.out _ HB1.out).mono ?_
    rintro e w2 ⟨rfl, hb⟩
    have HB2 := Lib.hid (below_then HB1.out hb)
    clear hb a0 a1 a2 a3 a4 a5
    go_wp2_with fail
    go_ret
    first
      | exact ⟨congrArg (fun u => Ending.returned (Value.string u)) HBR.out, HB2.out⟩
      | exact ⟨congrArg (fun u => Ending.returned (Value.string u)) HNB.out, HB2.out⟩

set_option maxRecDepth 100000 in
set_option maxHeartbeats 4000000 in
theorem joinX_any {d : Nat} (ih : TextTo d) {K : Nat} {xs : List Int} {w : World} {v : Value} {vs : List XV} {kids : List Tree} (h : KidsE w v vs kids) (hr : ∀ t ∈ kids, rightF d t = true) (hT : Tabs w) (hl : ∀ t ∈ kids, (textF d t).length ≤ 1000000000000)
    (s : List Int) (hs : (sepT s (kids.map fun t => brT (inB xs t.kind) (textF d t))).length ≤ 1000000000000) (hn1 : 1 ≤ kids.length) (hn : kids.length ≤ 2000000000000) (hK : EnclAt w K xs) :
    Calls Tryz.prog 44 #[v, .string (strOf s), .func (Fn.func 63) #[] #[.pointer (some ⟨K, 0, none⟩)]] w (GivesS (sepT s (kids.map fun t => brT (inB xs t.kind) (textF d t))) w) := by
  obtain ⟨h1, h2, h3⟩ := h
  rcases h1 with ⟨h0, _⟩ | ⟨g, off, cap, rfl, g1, g2, g3, g4⟩
  · omega
  · have HT := Lib.hid hT
    have G4 := Lib.hid g4
    have H2 := Lib.hid h2
    have H3 := Lib.hid h3
    have HR := Lib.hid hr
    have HL := Lib.hid hl
    have HK := Lib.hid hK
    have IH := Lib.hid ih
    have HS := Lib.hid hs
    obtain ⟨n, hnn⟩ : ∃ n, n = kids.length := ⟨_, rfl⟩
    rw [← hnn] at g1 hn1 hn ⊢
    have HNN := Lib.hid hnn
    unfold maxLen at g2
    clear hT g4 h2 h3 hr hl hK ih hs hnn
    have hmk := make_texts n (by omega) w
    have HB0 := Lib.hid ((Below.refl w.heap.size w).alloc (Nat.le_refl _) (.cells (tcells n []) 9))
    have HX0 : Hid (TX w.heap.size n [] (w.alloc (.cells (tcells n []) 9))) := heap_alloc_new w _
    obtain ⟨W0, hW0⟩ : ∃ W0, W0 = w.alloc (.cells (tcells n []) 9) := ⟨_, rfl⟩
    rw [← hW0] at hmk HB0 HX0
    clear hW0
    go_enter Tryz.func44, Tryz.ntmps44
    go_wp2_with fail
    go_loopw [15] (fun v wr => ∃ i : Nat, v = .int .i64 i ∧ i ≤ n ∧ Hid (Below w.heap.size w wr) ∧ Hid (TX w.heap.size n ((kids.take i).map fun t => brT (inB xs t.kind) (textF d t)) wr)) (fun v _ => n - (intOf v).toNat)
    case atStart => exact ⟨0, rfl, by omega, HB0, HX0⟩
    case round =>
      obtain ⟨i, rfl, hi, HBEL, HX⟩ := hrel
      clear hmk
      by_cases hlt : i < n
      · obtain ⟨Y, hY⟩ : ∃ y, vs[i]? = some y := ⟨_, List.getElem?_eq_getElem (by rw [H2.out, ← HNN.out]; exact hlt)⟩
        obtain ⟨t, ht⟩ : ∃ y, kids[i]? = some y := ⟨_, List.getElem?_eq_getElem (by rw [← HNN.out]; exact hlt)⟩
        have CX : ∀ (j : Nat) (u : Value), j < 6 → Y.cells[j]? = some u → wr.cell? ⟨g, off + (i * 6 + j), none⟩ = some u := fun j u hj hu =>
          (HBEL.out.cell (p := ⟨g, off + (i * 6 + j), none⟩) g3).trans (G4.out _ u ((flat_at vs i j Y hY hj).trans hu))
        obtain ⟨aa, am, ac, ca, cm, cc, en, ek⟩ := (H3.out i Y t hY ht).slices
        have HH := Lib.hid (fun W' (hb : Below w.heap.size w W') => encl1_any (K := K) (xs := xs) IH.out ((H3.out i Y t hY ht).under hb) (HR.out t (List.mem_of_getElem? ht)) (HT.out.below hb) (HL.out t (List.mem_of_getElem? ht)) (HK.out.below hb))
        have hlen : ((kids.take i).map fun t => brT (inB xs t.kind) (textF d t)).length = i := by rw [List.length_map, List.length_take, ← HNN.out]; omega
        have HTK := Lib.hid (show (kids.take (i + 1)).map (fun t => brT (inB xs t.kind) (textF d t)) = ((kids.take i).map fun t => brT (inB xs t.kind) (textF d t)) ++ [brT (inB xs t.kind) (textF d t)] by
          rw [List.take_add_one, ht]; simp)
        have HLEN := Lib.hid hlen
        obtain ⟨k, sx, nv, lo, hi', kv⟩ := Y
        simp only [] at en ek
        subst en ek
        have e0 := CX 0 _ (by omega) rfl
        have e1 := CX 1 _ (by omega) rfl
        have e2 := CX 2 _ (by omega) rfl
        have e3 := CX 3 _ (by omega) rfl
        have e4 := CX 4 _ (by omega) rfl
        have e5 := CX 5 _ (by omega) rfl
        rw [← Nat.add_assoc] at e0 e1 e2 e3 e4 e5
        rw [Nat.add_zero] at e0
        have hxb := HX.out.lt
        clear hY ht hlen CX
        have hne : wr.heap.size ≠ w.heap.size := by omega
        have HA := Lib.hid (below_new HBEL.out (xobj k lo hi' sx (.slice aa am ac) (.slice ca cm cc)))
        have HXA := Lib.hid (HX.out.under ((Below.refl wr.heap.size wr).alloc (Nat.le_refl _) (xobj k lo hi' sx (.slice aa am ac) (.slice ca cm cc))))
        unfold xobj at HA HXA
        go_wp2_with fail
        refine (HH.out _ HA.out).mono ?_
        rintro e w1 ⟨rfl, hb⟩
        have HB1 := Lib.hid (below_then HA.out hb)
        have hX1 := HXA.out.under hb
        have k0 := hX1.cell (by rw [HLEN.out]; exact hlt)
        have k1 := hX1.frozen i
        rw [HLEN.out] at k0
        have HX2 := Lib.hid (hX1.set (by rw [HLEN.out]; exact hlt) (brT (inB xs t.kind) (textF d t)))
        clear hb hX1 e0 e1 e2 e3 e4 e5
        go_wp2_with fail
        go_roundw
        case rel => exact ⟨i + 1, by go_num, by omega, HB1.out.setCell (Nat.le_refl _) _, by unfold Hid; have := HX2.out; rw [HLEN.out, ← HTK.out] at this; exact this⟩
        case measure => simp [intOf]; omega
      · have hin : i = n := by omega
        subst hin
        have HTX : Hid (TX w.heap.size (kids.map fun t => brT (inB xs t.kind) (textF d t)).length (kids.map fun t => brT (inB xs t.kind) (textF d t)) wr) := by
          have := HX.out
          rw [List.take_of_length_le (by rw [← HNN.out]; omega)] at this
          rw [Hid, List.length_map, ← HNN.out]
          exact this
        have hle : (kids.map fun t => brT (inB xs t.kind) (textF d t)).length = i := by rw [List.length_map, ← HNN.out]
        have HJ := Lib.hid (join_row HTX.out s HS.out (by rw [hle]; omega))
        rw [hle] at HJ
        clear hle
        go_wp2_with fail
        refine HJ.out.mono ?_
        rintro e w1 ⟨rfl, hb⟩
        have HB1 := Lib.hid (below_then HBEL.out hb)
        clear hb
        go_wp2_with fail
        go_ret
        exact ⟨rfl, HB1.out⟩

end Go.Proofs.YtddbaacibdmnaaaGreatDoor

/- The program's teller: repetitions; the text of every expression that may be. -/
namespace Go.Proofs.YtddbaacibdmnaaaGreatDoor
open Go.RowKit
set_option linter.unusedVariables false
set_option linter.unusedSimpArgs false

theorem inB_1 (k : Int) : inB [1] k = (k == 1) := by
  unfold inB
  by_cases h : k = 1
  · subst h; rfl
  · have h1 : ((1 : Int) == k) = false := by simp; omega
    have h2 : (k == 1) = false := by simp; omega
    simp [h1, h2]
theorem inB_12 (k : Int) : inB [1, 2] k = (k == 1 || k == 2) := by
  unfold inB
  by_cases h : k = 1
  · subst h; rfl
  · by_cases g : k = 2
    · subst g; rfl
    · have h1 : ((1 : Int) == k) = false := by simp; omega
      have h2 : (k == 1) = false := by simp; omega
      have g1 : ((2 : Int) == k) = false := by simp; omega
      have g2 : (k == 2) = false := by simp; omega
      simp [h1, h2, g1, g2]
theorem inB_123 (k : Int) : inB [1, 2, 3] k = (k == 1 || k == 2 || k == 3) := by
  unfold inB
  by_cases h : k = 1
  · subst h; rfl
  · by_cases g : k = 2
    · subst g; rfl
    · by_cases f : k = 3
      · subst f; rfl
      · have h1 : ((1 : Int) == k) = false := by simp; omega
        have h2 : (k == 1) = false := by simp; omega
        have g1 : ((2 : Int) == k) = false := by simp; omega
        have g2 : (k == 2) = false := by simp; omega
        have f1 : ((3 : Int) == k) = false := by simp; omega
        have f2 : (k == 3) = false := by simp; omega
        simp [h1, h2, g1, g2, f1, f2]

/-- Six cells from a place on. -/
def Six (W : World) (g off : Nat) (k lo hi : Int) (s : ByteArray) (ns ks : Value) : Prop :=
  W.cell? ⟨g, off, none⟩ = some (.int .i64 k) ∧ W.cell? ⟨g, off + 1, none⟩ = some (.string s) ∧ W.cell? ⟨g, off + 2, none⟩ = some ns ∧ W.cell? ⟨g, off + 3, none⟩ = some (.int .i64 lo) ∧ W.cell? ⟨g, off + 4, none⟩ = some (.int .i64 hi) ∧ W.cell? ⟨g, off + 5, none⟩ = some ks
theorem Six.below {W W' : World} {g off : Nat} {k lo hi : Int} {s : ByteArray} {ns ks : Value} (h : Six W g off k lo hi s ns ks) (hb : Below W.heap.size W W') : Six W' g off k lo hi s ns ks :=
  ⟨cell_below h.1 hb, cell_below h.2.1 hb, cell_below h.2.2.1 hb, cell_below h.2.2.2.1 hb, cell_below h.2.2.2.2.1 hb, cell_below h.2.2.2.2.2 hb⟩

/-- Where a repetition lies while its text is made. -/
def RepS (w w1 : World) (lo hi : Int) (kv : Value) (g off : Nat) (k lo' hi' : Int) (s : ByteArray) (ns' ks' : Value) (W : World) : Prop :=
  (W.cell? ⟨w.heap.size, 3, none⟩ = some (.int .i64 lo) ∧ W.cell? ⟨w.heap.size, 4, none⟩ = some (.int .i64 hi) ∧ W.cell? ⟨w.heap.size, 5, none⟩ = some kv) ∧
  (W.cell? ⟨g, off, none⟩ = some (.int .i64 k) ∧ W.cell? ⟨g, off + 1, none⟩ = some (.string s) ∧ W.cell? ⟨g, off + 2, none⟩ = some ns' ∧ W.cell? ⟨g, off + 3, none⟩ = some (.int .i64 lo') ∧ W.cell? ⟨g, off + 4, none⟩ = some (.int .i64 hi') ∧ W.cell? ⟨g, off + 5, none⟩ = some ks') ∧ Below w.heap.size w W ∧ Below w1.heap.size w1 W
theorem RepS.step {w w1 : World} {lo hi : Int} {kv : Value} {g off : Nat} {k lo' hi' : Int} {s : ByteArray} {ns' ks' : Value} {W W' : World} (hb : Below W.heap.size W W') (h : RepS w w1 lo hi kv g off k lo' hi' s ns' ks' W) : RepS w w1 lo hi kv g off k lo' hi' s ns' ks' W' :=
  ⟨⟨cell_below h.1.1 hb, cell_below h.1.2.1 hb, cell_below h.1.2.2 hb⟩, Six.below h.2.1 hb, below_then h.2.2.1 hb, below_then h.2.2.2 hb⟩
theorem RepS.drew {w w1 : World} {lo hi : Int} {kv : Value} {g off : Nat} {k lo' hi' : Int} {s : ByteArray} {ns' ks' : Value} {W : World} (h : RepS w w1 lo hi kv g off k lo' hi' s ns' ks' W) : RepS w w1 lo hi kv g off k lo' hi' s ns' ks' W.drew := ⟨h.1, h.2.1, below_drawn h.2.2.1 1, below_drawn h.2.2.2 1⟩
theorem RepS.bel {w w1 : World} {lo hi : Int} {kv : Value} {g off : Nat} {k lo' hi' : Int} {s : ByteArray} {ns' ks' : Value} {W : World} (h : RepS w w1 lo hi kv g off k lo' hi' s ns' ks' W) : Below w.heap.size w W := h.2.2.1
theorem RepS.bel1 {w w1 : World} {lo hi : Int} {kv : Value} {g off : Nat} {k lo' hi' : Int} {s : ByteArray} {ns' ks' : Value} {W : World} (h : RepS w w1 lo hi kv g off k lo' hi' s ns' ks' W) : Below w1.heap.size w1 W := h.2.2.2

set_option maxRecDepth 100000 in
set_option maxHeartbeats 4000000 in
theorem rep_any {d : Nat} (ih : TextTo d) {w : World} {X : XV} {x ns : List Int} {lo hi : Int} {u : Tree} (h : ETree w X (.mk 3 x ns lo hi [u])) (hc : cntB lo hi = true) (hr : rightF d u = true) (hT : Tabs w) (hl : (textF d u).length ≤ 1000000000000) :
    Calls Tryz.prog 46 #[X.val] w (GivesS (textF (d + 1) (.mk 3 x ns lo hi [u])) w) := by
  have hTE : textF (d + 1) (.mk 3 x ns lo hi [u]) = if lo = 0 ∧ hi = 1 then [91] ++ textF d u ++ [93] else cntT lo hi ++ brT (inB [1, 2, 3] u.kind) (textF d u) := by
    rw [textF, textS, if_neg (by decide), if_neg (by decide), if_pos rfl, inB_123]
    simp
  rw [hTE]
  cases h with
  | @mk _ _ _ nv kv _ _ _ vs h0 hl0 h1 h2 h3 h4 =>
    rcases h2 with ⟨g0, _⟩ | ⟨g, off, cap, rfl, g1, g2, g3, g4⟩
    · simp at g0
    · have g1 : 1 ≤ cap := g1
      obtain ⟨a, ca, rfl, hm⟩ := h1.slice
      match vs, h3 with
      | [Y], _ =>
      have hY := h4 0 Y u rfl rfl
      have hSix : Six w g off Y.kind Y.lo Y.hi Y.text Y.ns Y.ks := ⟨g4 0 _ rfl, g4 1 _ rfl, g4 2 _ rfl, g4 3 _ rfl, g4 4 _ rfl, g4 5 _ rfl⟩
      unfold maxLen at g2
      have hb := (Below.refl w.heap.size w).alloc (Nat.le_refl _) (xobj 3 lo hi (strOf x) (.slice a ns.length ca) (.slice (some ⟨g, off, none⟩) 1 cap))
      have hX := X6.new w 3 lo hi (strOf x) (.slice a ns.length ca) (.slice (some ⟨g, off, none⟩) 1 cap)
      have hS2 := hSix.below hb
      have HTX := Lib.hid (fun W' (hb' : Below w.heap.size w W') => ih W' Y u (hY.under hb') hr (hT.below hb') hl)
      have hsz : (strOf (textF d u)).size ≤ 1000000000000 := by rw [strOf_size]; exact hl
      unfold xobj at hb hX hS2
      have HB := Lib.hid hb
      have HX := Lib.hid hX
      obtain ⟨b0, b1, b2, b3, b4, b5⟩ := hS2
      obtain ⟨a0, a1, a2, a3, a4, a5⟩ := hX.cells
      show Calls _ _ #[.agg #[.int .i64 3, .string (strOf x), .slice a ns.length ca, .int .i64 lo, .int .i64 hi, .slice (some ⟨g, off, none⟩) 1 cap]] w _
      by_cases hq : lo = 0 ∧ hi = 1
      · rw [if_pos hq]
        obtain ⟨rfl, rfl⟩ := hq
        obtain ⟨S, hS⟩ : ∃ S, S = strOf (textF d u) := ⟨_, rfl⟩
        have HBR := Lib.hid (show ((⟨#[91]⟩ : ByteArray) ++ S) ++ ⟨#[93]⟩ = strOf ([91] ++ textF d u ++ [93]) by
          rw [hS, show (⟨#[91]⟩ : ByteArray) = strOf [91] from rfl, show (⟨#[93]⟩ : ByteArray) = strOf [93] from rfl, str_app4, str_app4])
        have HTX2 : Hid (∀ W', Below w.heap.size w W' → Calls Tryz.prog 30 #[Y.val] W' (fun e w' => e = .returned (.string S) ∧ Below W'.heap.size W' w')) := by rw [hS]; exact HTX
        rw [← hS] at hsz
        clear hS hTE h0 hl0 h1 h4 g4 hY hSix hr hT hl ih hb hX HTX hc h3
        obtain ⟨k, s, nv', lo', hi', kv'⟩ := Y
        go_enter Tryz.func46, Tryz.ntmps46
        go_wp2_with fail
        refine (HTX2.out _ HB.out).mono ?_
        rintro e w1 ⟨rfl, hb⟩
        have HB1 := Lib.hid (below_then HB.out hb)
        clear hb
        go_wp2_with fail
        go_ret
        exact ⟨congrArg (fun u => Ending.returned (Value.string u)) HBR.out, HB1.out⟩
      · rw [if_neg hq]
        have HE := Lib.hid (fun W' K (hb' : Below w.heap.size w W') (hK : EnclAt W' K [1, 2, 3]) => encl1_any (d := d) (K := K) (xs := [1, 2, 3]) ih (hY.under hb') hr (hT.below hb') hl hK)
        have HC := Lib.hid (fun W' (hb' : Below w.heap.size w W') => count_any (lo := lo) (hi := hi) hc (hT.below hb'))
        have hl3 := cntT_len hc
        have hb3 := brT_len (inB [1, 2, 3] u.kind) (textF d u)
        obtain ⟨C, hC⟩ : ∃ C, C = strOf (cntT lo hi) := ⟨_, rfl⟩
        obtain ⟨E, hE⟩ : ∃ E, E = strOf (brT (inB [1, 2, 3] u.kind) (textF d u)) := ⟨_, rfl⟩
        have hCs : C.size ≤ 7 := by rw [hC, strOf_size]; exact hl3
        have hEs : E.size ≤ 1000000000002 := by rw [hE, strOf_size]; omega
        have HFIN := Lib.hid (show C ++ E = strOf (cntT lo hi ++ brT (inB [1, 2, 3] u.kind) (textF d u)) by rw [hC, hE, str_app4])
        have HE2 : Hid (∀ W' K, Below w.heap.size w W' → EnclAt W' K [1, 2, 3] → Calls Tryz.prog 63 #[Y.val, .pointer (some ⟨K, 0, none⟩)] W' (fun e w' => e = .returned (.string E) ∧ Below W'.heap.size W' w')) := by rw [hE]; exact HE
        have HC2 : Hid (∀ W', Below w.heap.size w W' → Calls Tryz.prog 64 #[.int .i64 lo, .int .i64 hi] W' (fun e w' => e = .returned (.string C) ∧ Below W'.heap.size W' w')) := by rw [hC]; exact HC
        have HEN := Lib.hid (fun (W : World) (v : Value) (hv : RowAny W v 3 (icells [1, 2, 3])) => encl_any (xs := [1, 2, 3]) hv)
        have HSX := Lib.hid hSix
        clear hC hE hTE h0 hl0 h1 h4 g4 hY hSix hr hT hl ih hb hX HTX hc h3 hl3 hb3 HE HC
        obtain ⟨k, s, nv', lo', hi', kv'⟩ := Y
        have hq2 : (lo == 0) = false ∨ ((lo == 0) = true ∧ (hi == 1) = false) := by
          by_cases e : lo = 0
          · exact .inr ⟨by simpa using e, by simp; omega⟩
          · exact .inl (by simpa using e)
        rcases hq2 with q0 | ⟨q0, q1⟩
        all_goals
          go_enter Tryz.func46, Tryz.ntmps46
          go_wp2_with fail
          refine (HEN.out _ _ (ints_at (xs := [1, 2, 3]) (by decide) (heap_last _ _ _ (by simp)))).mono ?_
          rintro e w1 ⟨K, rfl, hK, hb⟩
          have hB1 : Below w.heap.size w w1 := (HB.out.alloc HB.out.size (.cells #[.int .i64 1, .int .i64 2, .int .i64 3] 3)).trans (hb.mono (by simp; omega))
          have hX1 := (HX.out.alloc (.cells #[.int .i64 1, .int .i64 2, .int .i64 3] 3)).under hb
          obtain ⟨_, _, _, c3, c4, c5⟩ := hX1.cells
          obtain ⟨d0, d1, d2, d3, d4, d5⟩ := HSX.out.below hB1
          have HBEL := Lib.hid hB1
          have HK := Lib.hid hK
          clear hb hX1 hB1 hK a0 a1 a2 a3 a4 a5 b0 b1 b2 b3 b4 b5
          have hadd : ∀ W : World, (Op.stringOp .add C E).run Tryz.prog W = .ok (.string (C ++ E)) W := fun W => run_string_add_sum W C E (by omega)
          go_wp2_with fail
          go_region_held3 (fun W => (W.cell? ⟨w.heap.size, 3, none⟩ = some (.int .i64 lo) ∧ W.cell? ⟨w.heap.size, 4, none⟩ = some (.int .i64 hi) ∧ W.cell? ⟨w.heap.size, 5, none⟩ = some (.slice (some ⟨g, off, none⟩) 1 cap)) ∧
              (W.cell? ⟨g, off, none⟩ = some (.int .i64 k) ∧ W.cell? ⟨g, off + 1, none⟩ = some (.string s) ∧ W.cell? ⟨g, off + 2, none⟩ = some nv' ∧ W.cell? ⟨g, off + 3, none⟩ = some (.int .i64 lo') ∧ W.cell? ⟨g, off + 4, none⟩ = some (.int .i64 hi') ∧ W.cell? ⟨g, off + 5, none⟩ = some kv') ∧ Below w.heap.size w W ∧ Below w1.heap.size w1 W)
            (first | exact RepS.step (by assumption) (by assumption) | exact RepS.drew (by assumption) | exact ⟨⟨by assumption, by assumption, by assumption⟩, ⟨by assumption, by assumption, by assumption, by assumption, by assumption, by assumption⟩, below_drawn HBEL.out 1, below_drawn (Below.refl _ _) 1⟩)
            (first
              | (go_at_call 64; refine (HC2.out _ (RepS.bel (by assumption))).mono ?_; rintro e w' ⟨rfl, hb'⟩)
              | (go_at_call 63; refine (HE2.out _ K (RepS.bel (by assumption)) (HK.out.below (RepS.bel1 (by assumption)))).mono ?_; rintro e w' ⟨rfl, hb'⟩))
          rename_i hS
          have HB2 := Lib.hid hS.2.2.1
          clear hS c3 c4 c5 d0 d1 d2 d3 d4 d5
          go_wp2_with fail
          go_ret
          exact ⟨congrArg (fun u => Ending.returned (Value.string u)) HFIN.out, HB2.out⟩

theorem mem_sep (s : List Int) : ∀ (l : List (List Int)) (x : List Int), x ∈ l → x.length ≤ (sepT s l).length
  | [], x, h => by simp at h
  | [y], x, h => by simp at h; subst h; simp [sepT]
  | y :: z :: l, x, h => by
    rw [List.mem_cons] at h
    simp only [sepT, List.length_append]
    rcases h with rfl | h
    · omega
    · have := mem_sep s (z :: l) x h
      omega
theorem count_sep (s : List Int) (hs : 1 ≤ s.length) : ∀ (l : List (List Int)), l.length ≤ (sepT s l).length + 1
  | [] => by simp
  | [y] => by simp [sepT]
  | y :: z :: l => by
    have := count_sep s hs (z :: l)
    simp only [sepT, List.length_append, List.length_cons] at this ⊢
    omega
theorem le_br (b : Bool) (x : List Int) : x.length ≤ (brT b x).length := by
  unfold brT
  split
  · simp; omega
  · simp

set_option maxRecDepth 100000 in
set_option maxHeartbeats 4000000 in
theorem leaf_text {d : Nat} {w : World} {X : XV} {k lo hi : Int} {x ns : List Int} (h : ETree w X (.mk k x ns lo hi [])) (hf : formB k x ns lo hi 0 = true) (hT : Tabs w) (hl : (textF d (.mk k x ns lo hi [])).length ≤ 1000000000000) :
    Calls Tryz.prog 30 #[X.val] w (GivesS (textF d (.mk k x ns lo hi [])) w) := by
  unfold formB at hf
  by_cases k12 : k = 1 ∨ k = 2
  · rw [if_pos k12] at hf; simp at hf
  rw [if_neg k12] at hf
  by_cases k3 : k = 3
  · rw [if_pos k3] at hf; simp at hf
  rw [if_neg k3] at hf
  have hTE := textF_leaf d k lo hi x ns ⟨fun e => k12 (.inl e), fun e => k12 (.inr e), k3⟩
  rw [hTE] at hl ⊢
  clear hTE
  cases h with
  | @mk _ _ _ nv kv _ _ _ vs h0 hl0 h1 h2 h3 h4 =>
  obtain ⟨a, ca, rfl, hm⟩ := h1.slice
  obtain ⟨c, cc, rfl, _⟩ := h2.slice
  have hb := (Below.refl w.heap.size w).alloc (Nat.le_refl _) (xobj k lo hi (strOf x) (.slice a ns.length ca) (.slice c ([] : List Tree).length cc))
  have hT2 := hT.below hb
  have hv2 := h1.below hb
  unfold xobj at hb hT2 hv2
  have HB := Lib.hid hb
  show Calls _ _ #[.agg #[.int .i64 k, .string (strOf x), .slice a ns.length ca, .int .i64 lo, .int .i64 hi, .slice c ([] : List Tree).length cc]] w _
  by_cases k4 : k = 4
  · rw [if_pos k4]
    subst k4
    clear hT2 hv2 hb hT h0 h1 h4 h3 hf h2
    go_enter Tryz.func30, Tryz.ntmps30
    go_wp2_with fail
    go_ret
    exact ⟨rfl, HB.out⟩
  rw [if_neg k4] at hf hl ⊢
  by_cases k5 : k = 5
  · rw [if_pos k5] at hl ⊢
    subst k5
    have hsz : (strOf x).size ≤ 1000000000000 := by
      rw [strOf_size]
      simp only [List.length_append] at hl
      omega
    obtain ⟨S, hS⟩ : ∃ S, S = strOf x := ⟨_, rfl⟩
    have HFIN := Lib.hid (show ((⟨#[34]⟩ : ByteArray) ++ S) ++ ⟨#[34]⟩ = strOf ([34] ++ x ++ [34]) by
      rw [hS, show (⟨#[34]⟩ : ByteArray) = strOf [34] from rfl, str_app4, str_app4])
    rw [← hS] at hsz HB ⊢
    clear hT2 hv2 hb hT h0 h1 h4 h3 hf h2 hl hS
    go_enter Tryz.func30, Tryz.ntmps30
    go_wp2_with fail
    go_ret
    exact ⟨congrArg (fun u => Ending.returned (Value.string u)) HFIN.out, HB.out⟩
  rw [if_neg k5] at hf hl ⊢
  have fin : ∀ (s : List Int), s.length = 1 → ns.all numB = true → 1 ≤ ns.length → ns.length ≤ 10000 → (sepT s (ns.map fun n : Int => hexT n.toNat)).length ≤ 1000000000000 →
      ∃ S : ByteArray, S.size ≤ 1000000000000 ∧ (⟨#[37, 120]⟩ : ByteArray) ++ S = strOf ([37, 120] ++ sepT s (ns.map fun n : Int => hexT n.toNat)) ∧
        Hid (Calls Tryz.prog 47 #[.slice a ns.length ca, .string (strOf s), .func (Fn.func 48) #[] #[]] (w.alloc (.cells #[.int .i64 k, .string (strOf x), .slice a ns.length ca, .int .i64 lo, .int .i64 hi, .slice c ([] : List Tree).length cc] 36)) (fun e w' => e = .returned (.string S) ∧ Below (w.alloc (.cells #[.int .i64 k, .string (strOf x), .slice a ns.length ca, .int .i64 lo, .int .i64 hi, .slice c ([] : List Tree).length cc] 36)).heap.size (w.alloc (.cells #[.int .i64 k, .string (strOf x), .slice a ns.length ca, .int .i64 lo, .int .i64 hi, .slice c ([] : List Tree).length cc] 36)) w')) := fun s hs f1 f2 f3 f4 =>
    ⟨strOf (sepT s (ns.map fun n : Int => hexT n.toNat)), by rw [strOf_size]; exact f4, by rw [show (⟨#[37, 120]⟩ : ByteArray) = strOf [37, 120] from rfl, str_app4], joinI_any hv2 f1 f2 f3 hT2 s hs⟩
  by_cases k6 : k = 6
  · rw [if_pos k6] at hf hl ⊢
    simp only [Bool.and_eq_true, decide_eq_true_eq] at hf
    obtain ⟨S, hsz, hfin, HJ⟩ := fin [46] rfl hf.2 hf.1.1.2 hf.1.2 (by simp only [List.length_append] at hl; omega)
    have HFIN := Lib.hid hfin
    have e46 : (⟨#[46]⟩ : ByteArray) = strOf [46] := rfl
    rw [← e46] at HJ
    subst k6
    clear hT2 hv2 hb hT h0 h1 h4 h3 hf h2 hl hfin fin e46
    go_enter Tryz.func30, Tryz.ntmps30
    go_wp2_with fail
    refine HJ.out.mono ?_
    rintro e w1 ⟨rfl, hb⟩
    have HB1 := Lib.hid (below_then HB.out hb)
    clear hb
    go_wp2_with fail
    go_ret
    exact ⟨congrArg (fun u => Ending.returned (Value.string u)) HFIN.out, HB1.out⟩
  rw [if_neg k6] at hf hl ⊢
  by_cases k7 : k = 7
  · rw [if_pos k7] at hf
    simp only [Bool.and_eq_true, decide_eq_true_eq] at hf
    obtain ⟨S, hsz, hfin, HJ⟩ := fin [45] rfl hf.1.2 (by omega) (by omega) (by simp only [List.length_append] at hl; omega)
    have HFIN := Lib.hid hfin
    have e45 : (⟨#[45]⟩ : ByteArray) = strOf [45] := rfl
    rw [← e45] at HJ
    subst k7
    clear hT2 hv2 hb hT h0 h1 h4 h3 hf h2 hl hfin fin e45
    go_enter Tryz.func30, Tryz.ntmps30
    go_wp2_with fail
    refine HJ.out.mono ?_
    rintro e w1 ⟨rfl, hb⟩
    have HB1 := Lib.hid (below_then HB.out hb)
    clear hb
    go_wp2_with fail
    go_ret
    exact ⟨congrArg (fun u => Ending.returned (Value.string u)) HFIN.out, HB1.out⟩
  rw [if_neg k7] at hf
  cases hf

set_option maxRecDepth 100000 in
set_option maxHeartbeats 4000000 in
theorem many_text {d : Nat} (ih : TextTo d) {w : World} {X : XV} {k lo hi : Int} {x ns : List Int} {kids : List Tree} (k12 : k = 1 ∨ k = 2) (h : ETree w X (.mk k x ns lo hi kids)) (hn : 2 ≤ kids.length) (hr : ∀ t ∈ kids, rightF d t = true) (hT : Tabs w) (hl : (textF (d + 1) (.mk k x ns lo hi kids)).length ≤ 1000000000000) :
    Calls Tryz.prog 30 #[X.val] w (GivesS (textF (d + 1) (.mk k x ns lo hi kids)) w) := by
  cases h with
  | @mk _ _ _ nv kv _ _ _ vs h0 hl0 h1 h2 h3 h4 =>
  obtain ⟨a, ca, rfl, hm⟩ := h1.slice
  obtain ⟨c, cc, rfl, _⟩ := h2.slice
  have hb := (Below.refl w.heap.size w).alloc (Nat.le_refl _) (xobj k lo hi (strOf x) (.slice a ns.length ca) (.slice c kids.length cc))
  have hK : KidsE w (.slice c kids.length cc) vs kids := ⟨h2, h3, h4⟩
  unfold xobj at hb
  have HB := Lib.hid hb
  have gen : ∀ (xs : List Int) (s : List Int), 1 ≤ s.length → (sepT s (kids.map fun t => brT (inB xs t.kind) (textF d t))).length ≤ 1000000000000 →
      Hid (∀ W K, Below w.heap.size w W → EnclAt W K xs → Calls Tryz.prog 44 #[.slice c kids.length cc, .string (strOf s), .func (Fn.func 63) #[] #[.pointer (some ⟨K, 0, none⟩)]] W (GivesS (sepT s (kids.map fun t => brT (inB xs t.kind) (textF d t))) W)) := fun xs s hs hle W K hb' hE =>
    joinX_any ih (hK.below hb') hr (hT.below hb') (fun t ht => Nat.le_trans (le_br (inB xs t.kind) (textF d t)) (Nat.le_trans (mem_sep s _ _ (List.mem_map.2 ⟨t, ht, rfl⟩)) hle)) s hle (by omega) (by
      have := count_sep s hs (kids.map fun t => brT (inB xs t.kind) (textF d t))
      rw [List.length_map] at this
      omega) hE
  have HEN := Lib.hid (fun (xs : List Int) (W : World) (v : Value) (hv : RowAny W v xs.length (icells xs)) => encl_any (xs := xs) hv)
  show Calls _ _ #[.agg #[.int .i64 k, .string (strOf x), .slice a ns.length ca, .int .i64 lo, .int .i64 hi, .slice c kids.length cc]] w _
  obtain ⟨n, hnn⟩ : ∃ n, n = kids.length := ⟨_, rfl⟩
  rw [← hnn] at gen HB ⊢
  rcases k12 with rfl | rfl
  · have hTE : textF (d + 1) (.mk 1 x ns lo hi kids) = sepT [32, 47, 32] (kids.map fun t => brT (inB [1] t.kind) (textF d t)) := by
      rw [textF, textS, if_pos rfl]
      simp only [inB_1]
    rw [hTE] at hl ⊢
    have HJ := gen [1] [32, 47, 32] (by decide) hl
    have e3 : (⟨#[32, 47, 32]⟩ : ByteArray) = strOf [32, 47, 32] := rfl
    rw [← e3] at HJ
    have HB1 := Lib.hid (HB.out.alloc HB.out.size (.cells #[.int .i64 1] 3))
    have hrow : RowAny (((w.alloc (.cells #[.int .i64 1, .string (strOf x), .slice a ns.length ca, .int .i64 lo, .int .i64 hi, .slice c n cc] 36)).alloc (.cells #[.int .i64 1] 3)).drew) (.slice (some ⟨w.heap.size + 1, 0, none⟩) 1 1) 1 (icells [1]) :=
      ints_at (W := (w.alloc (.cells #[.int .i64 1, .string (strOf x), .slice a ns.length ca, .int .i64 lo, .int .i64 hi, .slice c n cc] 36)).alloc (.cells #[.int .i64 1] 3)) (xs := [1]) (by decide) (heap_last _ _ _ (by simp))
    have HE1 := Lib.hid (HEN.out [1] _ _ hrow)
    have HC5 : Hid ((((w.alloc (.cells #[.int .i64 1, .string (strOf x), .slice a ns.length ca, .int .i64 lo, .int .i64 hi, .slice c n cc] 36)).alloc (.cells #[.int .i64 1] 3)).drew).cell? ⟨w.heap.size, 5, none⟩ = some (.slice c n cc)) := ((X6.new w 1 lo hi (strOf x) (.slice a ns.length ca) (.slice c n cc)).alloc (.cells #[.int .i64 1] 3)).cells.2.2.2.2.2
    clear hrow hTE hl hT h0 h1 h4 h3 h2 gen e3 hK hr hb hnn ih HEN
    go_enter Tryz.func30, Tryz.ntmps30
    go_wp2_with fail
    go_region_with (first
      | (go_at_call 45; refine HE1.out.mono ?_; rintro e w1 ⟨K, rfl, hE, hb1⟩; have c5 := cell_below HC5.out hb1)
      | (go_at_call 44; refine (HJ.out _ K (below_then (below_drawn HB1.out 1) hb1) hE).mono ?_; rintro e w2 ⟨rfl, hb2⟩))
    all_goals
      have HB2 := Lib.hid (below_then (below_then (below_drawn HB1.out 1) hb1) hb2)
      clear hb1 hb2 hE c5
      go_wp2_with fail
      go_ret
      exact ⟨rfl, HB2.out⟩
  · have hTE : textF (d + 1) (.mk 2 x ns lo hi kids) = sepT [32] (kids.map fun t => brT (inB [1, 2] t.kind) (textF d t)) := by
      rw [textF, textS, if_neg (by decide), if_pos rfl]
      simp only [inB_12]
    rw [hTE] at hl ⊢
    have HJ := gen [1, 2] [32] (by decide) hl
    have e3 : (⟨#[32]⟩ : ByteArray) = strOf [32] := rfl
    rw [← e3] at HJ
    have HB1 := Lib.hid (HB.out.alloc HB.out.size (.cells #[.int .i64 1, .int .i64 2] 3))
    have hrow : RowAny (((w.alloc (.cells #[.int .i64 2, .string (strOf x), .slice a ns.length ca, .int .i64 lo, .int .i64 hi, .slice c n cc] 36)).alloc (.cells #[.int .i64 1, .int .i64 2] 3)).drew) (.slice (some ⟨w.heap.size + 1, 0, none⟩) 2 2) 2 (icells [1, 2]) :=
      ints_at (W := (w.alloc (.cells #[.int .i64 2, .string (strOf x), .slice a ns.length ca, .int .i64 lo, .int .i64 hi, .slice c n cc] 36)).alloc (.cells #[.int .i64 1, .int .i64 2] 3)) (xs := [1, 2]) (by decide) (heap_last _ _ _ (by simp))
    have HE1 := Lib.hid (HEN.out [1, 2] _ _ hrow)
    have HC5 : Hid ((((w.alloc (.cells #[.int .i64 2, .string (strOf x), .slice a ns.length ca, .int .i64 lo, .int .i64 hi, .slice c n cc] 36)).alloc (.cells #[.int .i64 1, .int .i64 2] 3)).drew).cell? ⟨w.heap.size, 5, none⟩ = some (.slice c n cc)) := ((X6.new w 2 lo hi (strOf x) (.slice a ns.length ca) (.slice c n cc)).alloc (.cells #[.int .i64 1, .int .i64 2] 3)).cells.2.2.2.2.2
    clear hrow hTE hl hT h0 h1 h4 h3 h2 gen e3 hK hr hb hnn ih HEN
    go_enter Tryz.func30, Tryz.ntmps30
    go_wp2_with fail
    go_region_with (first
      | (go_at_call 45; refine HE1.out.mono ?_; rintro e w1 ⟨K, rfl, hE, hb1⟩; have c5 := cell_below HC5.out hb1)
      | (go_at_call 44; refine (HJ.out _ K (below_then (below_drawn HB1.out 1) hb1) hE).mono ?_; rintro e w2 ⟨rfl, hb2⟩))
    all_goals
      have HB2 := Lib.hid (below_then (below_then (below_drawn HB1.out 1) hb1) hb2)
      clear hb1 hb2 hE c5
      go_wp2_with fail
      go_ret
      exact ⟨rfl, HB2.out⟩

theorem text_zero : TextTo 0 := by
  intro W X t h hr hT hl
  obtain ⟨k, x, ns, lo, hi, kids⟩ := t
  unfold rightF at hr
  simp only [Bool.and_eq_true, List.isEmpty_iff] at hr
  obtain ⟨h1, rfl⟩ := hr
  exact leaf_text h h1 hT hl

set_option maxRecDepth 100000 in
set_option maxHeartbeats 4000000 in
theorem text_succ {d : Nat} (ih : TextTo d) : TextTo (d + 1) := by
  intro w X t h hr hT hl
  obtain ⟨k, x, ns, lo, hi, kids⟩ := t
  unfold rightF at hr
  simp only [Bool.and_eq_true, List.all_eq_true] at hr
  obtain ⟨hf, hk⟩ := hr
  by_cases k12 : k = 1 ∨ k = 2
  · have hn : 2 ≤ kids.length := by
      unfold formB at hf
      rw [if_pos k12] at hf
      simp only [Bool.and_eq_true, decide_eq_true_eq] at hf
      exact hf.2
    exact many_text ih k12 h hn hk hT hl
  by_cases k3 : k = 3
  · subst k3
    unfold formB at hf
    rw [if_neg k12, if_pos rfl] at hf
    simp only [Bool.and_eq_true, decide_eq_true_eq] at hf
    match kids, hf.1.2 with
    | [u], _ =>
      have hlu : (textF d u).length ≤ 1000000000000 := by
        have e : textF (d + 1) (.mk 3 x ns lo hi [u]) = if lo = 0 ∧ hi = 1 then [91] ++ textF d u ++ [93] else cntT lo hi ++ brT (u.kind == 1 || u.kind == 2 || u.kind == 3) (textF d u) := by
          rw [textF, textS, if_neg (by decide), if_neg (by decide), if_pos rfl]
          simp
        rw [e] at hl
        split at hl
        · simp only [List.length_append] at hl; omega
        · have := le_br (u.kind == 1 || u.kind == 2 || u.kind == 3) (textF d u)
          simp only [List.length_append] at hl
          omega
      have HR := Lib.hid (fun W' (hb : Below w.heap.size w W') => rep_any ih (h.under hb) hf.2 (hk u (by simp)) (hT.below hb) hlu)
      obtain ⟨a, m, ca, c, n, cc, e1, e2⟩ := h.slices
      have ek : X.kind = 3 := by obtain ⟨_, _, _, _, _, e⟩ := h.size; exact (congrArg Tree.kind e).symm
      have hb := (Below.refl w.heap.size w).alloc (Nat.le_refl _) (xobj X.kind X.lo X.hi X.text X.ns X.ks)
      obtain ⟨k, s, nv, lo', hi', kv⟩ := X
      simp only [] at e1 e2 ek
      subst e1 e2 ek
      unfold xobj at hb
      have HB := Lib.hid hb
      show Calls _ _ #[.agg #[.int .i64 3, .string s, .slice a m ca, .int .i64 lo', .int .i64 hi', .slice c n cc]] w _
      clear hb h hT hl hk hf hlu ih k12
      go_enter Tryz.func30, Tryz.ntmps30
      go_wp2_with fail
      refine (HR.out _ HB.out).mono ?_
      rintro e w1 ⟨rfl, hb⟩
      have HB1 := Lib.hid (below_then HB.out hb)
      clear hb
      go_wp2_with fail
      go_ret
      exact ⟨rfl, HB1.out⟩
  · have hk0 : kids = [] := by
      unfold formB at hf
      rw [if_neg k12, if_neg k3] at hf
      by_cases k4 : k = 4
      · rw [if_pos k4] at hf; simp only [Bool.and_eq_true, decide_eq_true_eq] at hf; exact List.length_eq_zero_iff.1 hf.1.2
      rw [if_neg k4] at hf
      by_cases k5 : k = 5
      · rw [if_pos k5] at hf; simp only [Bool.and_eq_true, decide_eq_true_eq] at hf; exact List.length_eq_zero_iff.1 hf.1.2
      rw [if_neg k5] at hf
      by_cases k6 : k = 6
      · rw [if_pos k6] at hf; simp only [Bool.and_eq_true, decide_eq_true_eq] at hf; exact List.length_eq_zero_iff.1 hf.1.1.1.2
      rw [if_neg k6] at hf
      by_cases k7 : k = 7
      · rw [if_pos k7] at hf; simp only [Bool.and_eq_true, decide_eq_true_eq] at hf; exact List.length_eq_zero_iff.1 hf.1.1.1.2
      rw [if_neg k7] at hf
      cases hf
    subst hk0
    exact leaf_text h hf hT hl
theorem text_all : ∀ d, TextTo d
  | 0 => text_zero
  | d + 1 => text_succ (text_all d)

end Go.Proofs.YtddbaacibdmnaaaGreatDoor

/- The program's teller: lines. -/
namespace Go.Proofs.YtddbaacibdmnaaaGreatDoor
open Go.RowKit
set_option linter.unusedVariables false
set_option linter.unusedSimpArgs false

/-- A rule as it lies in memory, wherever its lists begin. -/
def LineE (W : World) (y : LV) (r : Rule) : Prop := y.name = strOf r.name ∧ (∀ c ∈ r.name, 0 ≤ c ∧ c ≤ 255) ∧ r.name.length ≤ 9223372036854775807 ∧ y.more = r.more ∧ ETree W y.expr r.expr
theorem LineE.under {W W' : World} {y : LV} {r : Rule} (h : LineE W y r) (hb : Below W.heap.size W W') : LineE W' y r := ⟨h.1, h.2.1, h.2.2.1, h.2.2.2.1, h.2.2.2.2.under hb⟩
def LinesE (W : World) (v : Value) (ys : List LV) (l : List Rule) : Prop :=
  RowAny W v l.length (ys.flatMap LV.cells) ∧ ys.length = l.length ∧ ∀ (i : Nat) (y : LV) (r : Rule), ys[i]? = some y → l[i]? = some r → LineE W y r
theorem LinesE.below {W W' : World} {v : Value} {ys : List LV} {l : List Rule} (h : LinesE W v ys l) (hb : Below W.heap.size W W') : LinesE W' v ys l := ⟨h.1.below hb, h.2.1, fun i y r hy hr => (h.2.2 i y r hy hr).under hb⟩
def rlB (r : Rule) : Bool := nameB r.name && rightF 50 r.expr

/-- The eight cells of a rule, boxed. -/
def lobj (y : LV) : Obj := .cells y.arr 38
def L8 (W : World) (g : Nat) (y : LV) : Prop := W.heap[g]? = some (.cells y.arr 38 (0, 0))
theorem L8.lt {W : World} {g : Nat} {y : LV} (h : L8 W g y) : g < W.heap.size := (Array.getElem?_eq_some_iff.1 h).1
theorem L8.under {W W1 : World} {g : Nat} {y : LV} (h : L8 W g y) (hb : Below W.heap.size W W1) : L8 W1 g y := (hb.block g h.lt).trans h
theorem L8.new (W : World) (y : LV) : L8 (W.alloc (lobj y)) W.heap.size y := heap_alloc_new W _
theorem L8.cells {W : World} {g : Nat} {y : LV} (h : L8 W g y) :
    W.cell? ⟨g, 0, none⟩ = some (.string y.name) ∧ W.cell? ⟨g, 1, none⟩ = some (.bool y.more) ∧ W.cell? ⟨g, 2, none⟩ = some (.int .i64 y.expr.kind) ∧ W.cell? ⟨g, 3, none⟩ = some (.string y.expr.text) ∧ W.cell? ⟨g, 4, none⟩ = some y.expr.ns ∧ W.cell? ⟨g, 5, none⟩ = some (.int .i64 y.expr.lo) ∧ W.cell? ⟨g, 6, none⟩ = some (.int .i64 y.expr.hi) ∧ W.cell? ⟨g, 7, none⟩ = some y.expr.ks := by
  unfold L8 at h
  simp [World.cell?, h, LV.arr]

theorem flatL4_at (vs : List LV) (i j : Nat) (x : LV) (h : vs[i]? = some x) (hj : j < 8) : (vs.flatMap LV.cells)[i * 8 + j]? = x.cells[j]? := by
  induction vs generalizing i with
  | nil => simp at h
  | cons y vs ih =>
    cases i with
    | zero =>
      simp at h
      subst h
      simp only [List.flatMap_cons, Nat.zero_mul, Nat.zero_add]
      rw [List.getElem?_append_left (by simp [LV.cells]; exact hj)]
    | succ i =>
      simp at h
      have := ih i h
      simp only [List.flatMap_cons]
      rw [List.getElem?_append_right (by simp [LV.cells]; omega), show (i + 1) * 8 + j - (LV.cells y).length = i * 8 + j by simp [LV.cells]; omega]
      exact this

set_option maxRecDepth 100000 in
set_option maxHeartbeats 4000000 in
theorem rline_any {W : World} {y : LV} {r : Rule} (h : LineE W y r) : Calls Tryz.prog 14 #[y.val] W (GivesBool (rlB r) W) := by
  obtain ⟨hn, hc, hl, hm, ht⟩ := h
  obtain ⟨a, m, ca, c, n, cc, e1, e2⟩ := ht.slices
  have hb := (Below.refl W.heap.size W).alloc (Nat.le_refl _) (lobj y)
  have hL := L8.new W y
  have HN := Lib.hid (fun W' => name_text (x := r.name) W' hc hl)
  have HR := Lib.hid (fun W' (hb' : Below W.heap.size W W') => right_any (ht.under hb'))
  unfold rlB
  obtain ⟨nm, mo, ⟨k, s, nv, lo, hi, kv⟩⟩ := y
  simp only [] at hn hm e1 e2
  subst hn hm e1 e2
  obtain ⟨a0, a1, a2, a3, a4, a5, a6, a7⟩ := hL.cells
  have HL := Lib.hid hL
  have HB := Lib.hid hb
  unfold lobj at HB HL a0 a1 a2 a3 a4 a5 a6 a7
  show Calls _ _ #[.agg #[.string (strOf r.name), .bool r.more, .int .i64 k, .string s, .slice a m ca, .int .i64 lo, .int .i64 hi, .slice c n cc]] W _
  clear hb hL hc hl ht
  cases hp : nameB r.name
  · rw [hp] at HN
    clear hp
    rw [Bool.false_and]
    go_enter Tryz.func14, Tryz.ntmps14
    go_wp2_with fail
    refine (HN.out _).mono ?_
    rintro e w1 ⟨rfl, hb⟩
    have HB1 := Lib.hid (below_then HB.out hb)
    clear hb
    go_wp2_with fail
    go_ret
    exact ⟨rfl, HB1.out⟩
  · rw [hp] at HN
    clear hp
    rw [Bool.true_and]
    cases hq : rightF 50 r.expr
    all_goals
      rw [hq] at HR
      clear hq
      go_enter Tryz.func14, Tryz.ntmps14
      go_wp2_with fail
      refine (HN.out _).mono ?_
      rintro e w1 ⟨rfl, hb⟩
      have HB1 := Lib.hid (below_then HB.out hb)
      clear a0 a1 a2 a3 a4 a5 a6 a7
      obtain ⟨a0, a1, a2, a3, a4, a5, a6, a7⟩ := (HL.out.under hb).cells
      clear hb
      go_wp2_with fail
      refine (HR.out _ HB1.out).mono ?_
      rintro e w2 ⟨rfl, hb⟩
      have HB2 := Lib.hid (below_then HB1.out hb)
      clear hb a0 a1 a2 a3 a4 a5 a6 a7
      go_wp2_with fail
      go_ret
      exact ⟨rfl, HB2.out⟩

set_option maxRecDepth 100000 in
set_option maxHeartbeats 1000000 in
theorem notL_any {B : Nat} {W : World} {y : LV} {r : Rule} (h : LineE W y r) (hB : W.cell? ⟨B, 0, none⟩ = some (.func (Fn.func 14) #[] #[])) :
    Calls Tryz.prog 28 #[y.val, .pointer (some ⟨B, 0, none⟩)] W (GivesBool (!rlB r) W) := by
  obtain ⟨a, m, ca, c, n, cc, e1, e2⟩ := h.2.2.2.2.slices
  have hb := (Below.refl W.heap.size W).alloc (Nat.le_refl _) (lobj y)
  have HC := Lib.hid (rline_any (h.under hb))
  have hB2 := cell_below hB hb
  obtain ⟨nm, mo, ⟨k, s, nv, lo, hi, kv⟩⟩ := y
  simp only [] at e1 e2
  subst e1 e2
  unfold lobj LV.arr at hb HC hB2
  have HB := Lib.hid hb
  show Calls _ _ #[.agg #[.string nm, .bool mo, .int .i64 k, .string s, .slice a m ca, .int .i64 lo, .int .i64 hi, .slice c n cc], .pointer (some ⟨B, 0, none⟩)] W _
  clear hb h hB
  cases hp : rlB r
  all_goals
    rw [hp] at HC
    clear hp
    go_enter Tryz.func28, Tryz.ntmps28
    go_wp2_with fail
    refine HC.out.mono ?_
    rintro e w' ⟨rfl, hb⟩
    have HB2 := Lib.hid (below_then HB.out hb)
    clear hb
    go_wp2_with fail
    go_ret
    exact ⟨rfl, HB2.out⟩

theorem allR_upto {P : Rule → Bool} {x : List Rule} {n : Nat} (hn : x.length ≤ n) (h : ∀ (i : Nat) (c : Rule), i < n → x[i]? = some c → P c = true) : x.all P = true := by
  rw [List.all_eq_true]
  intro c hc
  obtain ⟨i, hi⟩ := List.getElem?_of_mem hc
  exact h i c (Nat.lt_of_lt_of_le (List.getElem?_eq_some_iff.1 hi).1 hn) hi
theorem allR_not {P : Rule → Bool} {x : List Rule} {i : Nat} {c : Rule} (h : x[i]? = some c) (hc : P c = false) : x.all P = false := by
  rw [List.all_eq_false]
  exact ⟨c, List.mem_of_getElem? h, by simp [hc]⟩

set_option maxRecDepth 100000 in
set_option maxHeartbeats 4000000 in
theorem indexL_any {B : Nat} {w : World} {v : Value} {vs : List LV} {l : List Rule} (h : LinesE w v vs l) (hB : w.cell? ⟨B, 0, none⟩ = some (.func (Fn.func 14) #[] #[])) :
    Calls Tryz.prog 40 #[v, .func (Fn.func 28) #[] #[.pointer (some ⟨B, 0, none⟩)]] w (GivesIdx (!l.all rlB) w) := by
  obtain ⟨h1, h2, h3⟩ := h
  obtain ⟨m, hm⟩ : ∃ m, m = l.length := ⟨_, rfl⟩
  rw [← hm] at h1 h2
  have HM := Lib.hid hm
  have H2 := Lib.hid h2
  have H3 := Lib.hid h3
  have HBB := Lib.hid hB
  rcases h1 with ⟨h0, a, cap, rfl⟩ | ⟨g, off, cap, rfl, g1, g2, g3, g4⟩
  · have hx0 : l = [] := List.length_eq_zero_iff.1 (by omega)
    subst hx0
    clear hm h0 hB h2 h3
    go_enter Tryz.func40, Tryz.ntmps40
    go_wp2_with fail
    go_loop [8] (fun v => v = .int .i64 0) (fun v => 0)
    case atStart => rfl
    case round =>
      subst hrel
      go_wp2_with fail
      go_ret
      exact ⟨-1, rfl, Below.refl _ _, by omega, by decide⟩
  · have G4 := Lib.hid g4
    unfold maxLen at g2
    clear hm hB h2 h3 g4
    go_enter Tryz.func40, Tryz.ntmps40
    go_wp2_with fail
    go_loopw [8] (fun v wr => ∃ i : Nat, v = .int .i64 i ∧ i ≤ m ∧ Hid (Below w.heap.size w wr) ∧ Hid (∀ (j : Nat) (c : Rule), j < i → l[j]? = some c → rlB c = true)) (fun v _ => m - (intOf v).toNat)
    case atStart => exact ⟨0, rfl, by omega, Below.refl _ _, fun j c h => by omega⟩
    case round =>
      obtain ⟨i, rfl, hi, HBEL, HALL⟩ := hrel
      by_cases hlt : i < m
      · obtain ⟨Y, hY⟩ : ∃ y, vs[i]? = some y := ⟨_, List.getElem?_eq_getElem (by rw [H2.out]; exact hlt)⟩
        obtain ⟨t, ht⟩ : ∃ y, l[i]? = some y := ⟨_, List.getElem?_eq_getElem (by rw [← HM.out]; exact hlt)⟩
        have HTI := Lib.hid ht
        have CX : ∀ (j : Nat) (u : Value), j < 8 → Y.cells[j]? = some u → wr.cell? ⟨g, off + (i * 8 + j), none⟩ = some u := fun j u hj hu =>
          (HBEL.out.cell (p := ⟨g, off + (i * 8 + j), none⟩) g3).trans (G4.out _ u ((flatL4_at vs i j Y hY hj).trans hu))
        have HN := Lib.hid (notL_any ((H3.out i Y t hY ht).under HBEL.out) (cell_below HBB.out HBEL.out))
        obtain ⟨nm, mo, ⟨k, s, nv, lo, hi', kv⟩⟩ := Y
        have e0 := CX 0 _ (by omega) rfl
        have e1 := CX 1 _ (by omega) rfl
        have e2 := CX 2 _ (by omega) rfl
        have e3 := CX 3 _ (by omega) rfl
        have e4 := CX 4 _ (by omega) rfl
        have e5 := CX 5 _ (by omega) rfl
        have e6 := CX 6 _ (by omega) rfl
        have e7 := CX 7 _ (by omega) rfl
        rw [← Nat.add_assoc] at e0 e1 e2 e3 e4 e5 e6 e7
        rw [Nat.add_zero] at e0
        clear CX hY ht
        cases hf : rlB t
        · have HNOT := Lib.hid (allR_not (P := rlB) HTI.out hf)
          rw [hf] at HN
          clear hf
          go_wp2_with fail
          refine HN.out.mono ?_
          rintro e w' ⟨rfl, hb'⟩
          have HB2 := Lib.hid (below_then HBEL.out hb')
          clear hb'
          go_wp2_with fail
          go_ret
          exact ⟨(i : Int), rfl, HB2.out, by omega, by rw [HNOT.out]; simp⟩
        · have HNX : Hid (∀ (j : Nat) (c : Rule), j < i + 1 → l[j]? = some c → rlB c = true) := fun j c hj hc => by
            by_cases g : j = i
            · subst g
              rw [HTI.out] at hc
              rw [← Option.some.inj hc]
              exact hf
            · exact HALL.out j c (by omega) hc
          rw [hf] at HN
          clear hf
          go_wp2_with fail
          refine HN.out.mono ?_
          rintro e w' ⟨rfl, hb'⟩
          have HB2 := Lib.hid (below_then HBEL.out hb')
          clear hb' e0 e1 e2 e3 e4 e5 e6 e7
          go_wp2_with fail
          go_roundw
          case rel => exact ⟨i + 1, by go_num, by omega, HB2, HNX⟩
          case measure => simp [intOf]; omega
      · have hyes : l.all rlB = true := allR_upto (n := m) (by rw [HM.out]; exact Nat.le_refl _) (fun j c h hc => HALL.out j c (by omega) hc)
        have HYES := Lib.hid hyes
        clear hyes
        go_wp2_with fail
        go_ret
        exact ⟨-1, rfl, HBEL.out, by omega, by rw [HYES.out]; decide⟩

set_option maxRecDepth 100000 in
theorem someL_any {B : Nat} {w : World} {v : Value} {vs : List LV} {l : List Rule} (h : LinesE w v vs l) (hB : w.cell? ⟨B, 0, none⟩ = some (.func (Fn.func 14) #[] #[])) :
    Calls Tryz.prog 27 #[v, .func (Fn.func 28) #[] #[.pointer (some ⟨B, 0, none⟩)]] w (GivesBool (!l.all rlB) w) := by
  have HI := Lib.hid (indexL_any h hB)
  clear h hB
  go_enter Tryz.func27, Tryz.ntmps27
  go_wp2_with fail
  refine HI.out.mono ?_
  rintro e w' ⟨i, rfl, hb, hi, hd⟩
  have HD := Lib.hid hd
  have HB2 := Lib.hid hb
  clear hd hb
  go_wp2_with fail
  go_ret
  exact ⟨by rw [← HD.out]; exact rfl, HB2.out⟩

set_option maxRecDepth 100000 in
theorem allL_any {w : World} {v : Value} {vs : List LV} {l : List Rule} (h : LinesE w v vs l) :
    Calls Tryz.prog 13 #[v, .func (Fn.func 14) #[] #[]] w (GivesBool (l.all rlB) w) := by
  have HS := Lib.hid (fun o : Obj => someL_any (w := w.alloc o) (B := w.heap.size) (h.below ((Below.refl _ _).alloc (Nat.le_refl _) _)))
  clear h
  cases hp : l.all rlB
  all_goals
    rw [hp] at HS
    clear hp
    go_enter Tryz.func13, Tryz.ntmps13
    go_wp2_with fail
    refine (HS.out _ (by unfold World.cell?; rw [heap_alloc_new]; rfl)).mono ?_
    rintro e w' ⟨rfl, hb⟩
    have HB2 := Lib.hid (((Below.refl w.heap.size w).alloc (Nat.le_refl _) _).trans (hb.mono (by simp)))
    clear hb
    go_wp2_with fail
    go_ret
    exact ⟨rfl, HB2.out⟩

/-- Where a line lies while its text is made. -/
def LnS (w : World) (nm : ByteArray) (k lo hi : Int) (s : ByteArray) (ns ks : Value) (W : World) : Prop :=
  (W.cell? ⟨w.heap.size, 0, none⟩ = some (.string nm) ∧ W.cell? ⟨w.heap.size, 2, none⟩ = some (.int .i64 k) ∧ W.cell? ⟨w.heap.size, 3, none⟩ = some (.string s) ∧ W.cell? ⟨w.heap.size, 4, none⟩ = some ns ∧ W.cell? ⟨w.heap.size, 5, none⟩ = some (.int .i64 lo) ∧ W.cell? ⟨w.heap.size, 6, none⟩ = some (.int .i64 hi) ∧ W.cell? ⟨w.heap.size, 7, none⟩ = some ks) ∧ Below w.heap.size w W
theorem LnS.step {w : World} {nm : ByteArray} {k lo hi : Int} {s : ByteArray} {ns ks : Value} {W W' : World} (hb : Below W.heap.size W W') (h : LnS w nm k lo hi s ns ks W) : LnS w nm k lo hi s ns ks W' :=
  ⟨⟨cell_below h.1.1 hb, cell_below h.1.2.1 hb, cell_below h.1.2.2.1 hb, cell_below h.1.2.2.2.1 hb, cell_below h.1.2.2.2.2.1 hb, cell_below h.1.2.2.2.2.2.1 hb, cell_below h.1.2.2.2.2.2.2 hb⟩, below_then h.2 hb⟩
theorem LnS.drew {w : World} {nm : ByteArray} {k lo hi : Int} {s : ByteArray} {ns ks : Value} {W : World} (h : LnS w nm k lo hi s ns ks W) : LnS w nm k lo hi s ns ks W.drew := ⟨h.1, below_drawn h.2 1⟩

set_option maxRecDepth 100000 in
set_option maxHeartbeats 4000000 in
theorem ltext_any {W : World} {y : LV} {r : Rule} (h : LineE W y r) (hr : rlB r = true) (hT : Tabs W) (hlt : (lineT r).length ≤ 1000000000000) : Calls Tryz.prog 16 #[y.val] W (GivesS (lineT r) W) := by
  obtain ⟨hn, hc, hl, hm, ht⟩ := h
  obtain ⟨a, m, ca, c, n, cc, e1, e2⟩ := ht.slices
  unfold rlB at hr
  rw [Bool.and_eq_true] at hr
  have hlen : r.name.length + (textF 50 r.expr).length + 5 ≤ 1000000000002 := by
    unfold lineT at hlt
    simp only [List.length_append] at hlt
    have : (3 : Nat) ≤ (if r.more = true then ([32, 61, 47, 32] : List Int) else [32, 61, 32]).length := by split <;> simp
    have e10 : ([10] : List Int).length = 1 := rfl
    omega
  have hb := (Below.refl W.heap.size W).alloc (Nat.le_refl _) (lobj y)
  have hL := L8.new W y
  have HTX := Lib.hid (fun W' (hb' : Below W.heap.size W W') => text_all 50 W' y.expr r.expr (ht.under hb') hr.2 (hT.below hb') (by omega))
  obtain ⟨S, hS⟩ : ∃ S, S = strOf (textF 50 r.expr) := ⟨_, rfl⟩
  have hSs : S.size ≤ 1000000000000 := by rw [hS, strOf_size]; omega
  have HTX2 : Hid (∀ W', Below W.heap.size W W' → Calls Tryz.prog 30 #[y.expr.val] W' (fun e w' => e = .returned (.string S) ∧ Below W'.heap.size W' w')) := by rw [hS]; exact HTX
  obtain ⟨N, hN⟩ : ∃ N, N = strOf r.name := ⟨_, rfl⟩
  have hNs : N.size ≤ 1000000000000 := by rw [hN, strOf_size]; omega
  have HF1 := Lib.hid (show r.more = false → ((N ++ (⟨#[32, 61, 32]⟩ : ByteArray)) ++ S) ++ (⟨#[10]⟩ : ByteArray) = strOf (lineT r) from fun e => by
    rw [hN, hS, show (⟨#[32, 61, 32]⟩ : ByteArray) = strOf [32, 61, 32] from rfl, show (⟨#[10]⟩ : ByteArray) = strOf [10] from rfl, str_app4, str_app4, str_app4]
    unfold lineT
    rw [e]
    rfl)
  have HF2 := Lib.hid (show r.more = true → ((N ++ (⟨#[32, 61, 47, 32]⟩ : ByteArray)) ++ S) ++ (⟨#[10]⟩ : ByteArray) = strOf (lineT r) from fun e => by
    rw [hN, hS, show (⟨#[32, 61, 47, 32]⟩ : ByteArray) = strOf [32, 61, 47, 32] from rfl, show (⟨#[10]⟩ : ByteArray) = strOf [10] from rfl, str_app4, str_app4, str_app4]
    unfold lineT
    rw [e]
    rfl)
  obtain ⟨nm, mo, ⟨k, s, nv, lo, hi, kv⟩⟩ := y
  simp only [] at hn hm e1 e2
  have hn2 : nm = N := hn.trans hN.symm
  subst hn2 hm e1 e2
  obtain ⟨a0, a1, a2, a3, a4, a5, a6, a7⟩ := hL.cells
  unfold lobj LV.arr at hb a0 a1 a2 a3 a4 a5 a6 a7
  have HB := Lib.hid hb
  show Calls _ _ #[.agg #[.string nm, .bool r.more, .int .i64 k, .string s, .slice a m ca, .int .i64 lo, .int .i64 hi, .slice c n cc]] W _
  have g1 : (⟨#[32, 61, 32]⟩ : ByteArray).size = 3 := rfl
  have g2 : (⟨#[32, 61, 47, 32]⟩ : ByteArray).size = 4 := rfl
  have g3 : (⟨#[10]⟩ : ByteArray).size = 1 := rfl
  have d1 : ∀ W : World, (Op.stringOp .add nm ⟨#[32, 61, 32]⟩).run Tryz.prog W = .ok (.string (nm ++ ⟨#[32, 61, 32]⟩)) W := fun W => run_string_add_sum W _ _ (by omega)
  have d2 : ∀ W : World, (Op.stringOp .add (nm ++ ⟨#[32, 61, 32]⟩) S).run Tryz.prog W = .ok (.string ((nm ++ ⟨#[32, 61, 32]⟩) ++ S)) W := fun W => run_string_add_sum W _ _ (by rw [ByteArray.size_append]; omega)
  have d3 : ∀ W : World, (Op.stringOp .add ((nm ++ ⟨#[32, 61, 32]⟩) ++ S) ⟨#[10]⟩).run Tryz.prog W = .ok (.string (((nm ++ ⟨#[32, 61, 32]⟩) ++ S) ++ ⟨#[10]⟩)) W := fun W => run_string_add_sum W _ _ (by rw [ByteArray.size_append, ByteArray.size_append]; omega)
  have f1 : ∀ W : World, (Op.stringOp .add nm ⟨#[32, 61, 47, 32]⟩).run Tryz.prog W = .ok (.string (nm ++ ⟨#[32, 61, 47, 32]⟩)) W := fun W => run_string_add_sum W _ _ (by omega)
  have f2 : ∀ W : World, (Op.stringOp .add (nm ++ ⟨#[32, 61, 47, 32]⟩) S).run Tryz.prog W = .ok (.string ((nm ++ ⟨#[32, 61, 47, 32]⟩) ++ S)) W := fun W => run_string_add_sum W _ _ (by rw [ByteArray.size_append]; omega)
  have f3 : ∀ W : World, (Op.stringOp .add ((nm ++ ⟨#[32, 61, 47, 32]⟩) ++ S) ⟨#[10]⟩).run Tryz.prog W = .ok (.string (((nm ++ ⟨#[32, 61, 47, 32]⟩) ++ S) ++ ⟨#[10]⟩)) W := fun W => run_string_add_sum W _ _ (by rw [ByteArray.size_append, ByteArray.size_append]; omega)
  clear hb hL hc hl ht hS hN hn hr hT hlt hlen HTX g1 g2 g3
  cases hmo : r.more
  all_goals
    rw [hmo] at HF1 HF2 a0 a1 a2 a3 a4 a5 a6 a7 HB
    clear hmo
    go_enter Tryz.func16, Tryz.ntmps16
    go_wp2_with fail
    go_region_held3 (fun W' => (W'.cell? ⟨W.heap.size, 0, none⟩ = some (.string nm) ∧ W'.cell? ⟨W.heap.size, 2, none⟩ = some (.int .i64 k) ∧ W'.cell? ⟨W.heap.size, 3, none⟩ = some (.string s) ∧ W'.cell? ⟨W.heap.size, 4, none⟩ = some (.slice a m ca) ∧ W'.cell? ⟨W.heap.size, 5, none⟩ = some (.int .i64 lo) ∧ W'.cell? ⟨W.heap.size, 6, none⟩ = some (.int .i64 hi) ∧ W'.cell? ⟨W.heap.size, 7, none⟩ = some (.slice c n cc)) ∧ Below W.heap.size W W')
      (first | exact LnS.step (by assumption) (by assumption) | exact LnS.drew (by assumption) | exact ⟨⟨by assumption, by assumption, by assumption, by assumption, by assumption, by assumption, by assumption⟩, below_drawn HB.out 1⟩)
      (first | (go_at_call 30; refine (HTX2.out _ (And.right (by assumption))).mono ?_; rintro e w' ⟨rfl, hb'⟩))
    rename_i hS
    have HB2 := Lib.hid hS.2
    clear hS a0 a1 a2 a3 a4 a5 a6 a7
    go_wp2_with fail
    go_ret
    first
      | exact ⟨congrArg (fun u => Ending.returned (Value.string u)) (HF1.out (by simp)), HB2.out⟩
      | exact ⟨congrArg (fun u => Ending.returned (Value.string u)) (HF2.out (by simp)), HB2.out⟩

end Go.Proofs.YtddbaacibdmnaaaGreatDoor

/- The program's teller: Tell. -/
namespace Go.Proofs.YtddbaacibdmnaaaGreatDoor
open Go.RowKit
set_option linter.unusedVariables false
set_option linter.unusedSimpArgs false

theorem sep_nil : ∀ l : List (List Int), sepT [] l = l.flatten
  | [] => rfl
  | [x] => by simp [sepT]
  | x :: y :: l => by
    have := sep_nil (y :: l)
    rw [sepT, this]
    simp
theorem mem_flat : ∀ (l : List (List Int)) (x : List Int), x ∈ l → x.length ≤ l.flatten.length
  | [], x, h => by simp at h
  | y :: l, x, h => by
    rw [List.mem_cons] at h
    rw [List.flatten_cons, List.length_append]
    rcases h with rfl | h
    · omega
    · have := mem_flat l x h
      omega
theorem line_pos (r : Rule) : 1 ≤ (lineT r).length := by unfold lineT; rw [List.length_append]; exact Nat.le_add_left 1 _
theorem count_flat : ∀ (l : List Rule), l.length ≤ ((l.map lineT).flatten).length
  | [] => by simp
  | r :: l => by
    have h1 := line_pos r
    have h2 := count_flat l
    simp only [List.map_cons, List.flatten_cons, List.length_append, List.length_cons]
    omega

set_option maxRecDepth 100000 in
set_option maxHeartbeats 4000000 in
theorem joinL_any {w : World} {v : Value} {vs : List LV} {l : List Rule} (h : LinesE w v vs l) (hr : l.all rlB = true) (hT : Tabs w) (hs : ((l.map lineT).flatten).length ≤ 1000000000000) :
    Calls Tryz.prog 15 #[v, .string ⟨#[]⟩, .func (Fn.func 16) #[] #[]] w (GivesS ((l.map lineT).flatten) w) := by
  obtain ⟨h1, h2, h3⟩ := h
  have HT := Lib.hid hT
  have H2 := Lib.hid h2
  have H3 := Lib.hid h3
  have HR := Lib.hid hr
  have HS := Lib.hid hs
  have hn := Nat.le_trans (count_flat l) hs
  obtain ⟨n, hnn⟩ : ∃ n, n = l.length := ⟨_, rfl⟩
  rw [← hnn] at h1 hn
  have HNN := Lib.hid hnn
  have hmk := make_texts n (by omega) w
  have HB0 := Lib.hid ((Below.refl w.heap.size w).alloc (Nat.le_refl _) (.cells (tcells n []) 9))
  have HX0 : Hid (TX w.heap.size n [] (w.alloc (.cells (tcells n []) 9))) := heap_alloc_new w _
  obtain ⟨W0, hW0⟩ : ∃ W0, W0 = w.alloc (.cells (tcells n []) 9) := ⟨_, rfl⟩
  rw [← hW0] at hmk HB0 HX0
  clear hW0 hT h2 h3 hr hs hnn
  have HJE : Hid (∀ wr, TX w.heap.size n (l.map lineT) wr → Calls Tryz.prog 29 #[.slice (some ⟨w.heap.size, 0, none⟩) n n, .string ⟨#[]⟩] wr (GivesS ((l.map lineT).flatten) wr)) := fun wr hX => by
    have hle : (l.map lineT).length = n := by rw [List.length_map, ← HNN.out]
    have := join_row (B := w.heap.size) (xs := l.map lineT) (W := wr) (by rw [hle]; exact hX) [] (by rw [sep_nil]; exact HS.out) (by rw [hle]; omega)
    rw [sep_nil, hle, strOf_nil] at this
    exact this
  rcases h1 with ⟨h0, a, cap, rfl⟩ | ⟨g, off, cap, rfl, g1, g2, g3, g4⟩
  · have hx0 : l = [] := List.length_eq_zero_iff.1 (by rw [← HNN.out]; exact h0)
    subst h0
    have HJ := Lib.hid (HJE.out W0 (by rw [hx0]; exact HX0.out))
    rw [show ((0 : Nat) : Int) = 0 from rfl] at hmk
    clear hx0
    go_enter Tryz.func15, Tryz.ntmps15
    go_wp2_with fail
    go_loop [15] (fun v => v = .int .i64 0) (fun v => 0)
    case atStart => rfl
    case round =>
      subst hrel
      clear hmk
      go_wp2_with fail
      refine HJ.out.mono ?_
      rintro e w1 ⟨rfl, hb⟩
      have HB1 := Lib.hid (below_then HB0.out hb)
      clear hb
      go_wp2_with fail
      go_ret
      exact ⟨rfl, HB1.out⟩
  · have G4 := Lib.hid g4
    unfold maxLen at g2
    clear g4
    go_enter Tryz.func15, Tryz.ntmps15
    go_wp2_with fail
    go_loopw [15] (fun v wr => ∃ i : Nat, v = .int .i64 i ∧ i ≤ n ∧ Hid (Below w.heap.size w wr) ∧ Hid (TX w.heap.size n ((l.take i).map lineT) wr)) (fun v _ => n - (intOf v).toNat)
    case atStart => exact ⟨0, rfl, by omega, HB0, HX0⟩
    case round =>
      obtain ⟨i, rfl, hi, HBEL, HX⟩ := hrel
      clear hmk
      by_cases hlt : i < n
      · obtain ⟨Y, hY⟩ : ∃ y, vs[i]? = some y := ⟨_, List.getElem?_eq_getElem (by rw [H2.out, ← HNN.out]; exact hlt)⟩
        obtain ⟨t, ht⟩ : ∃ y, l[i]? = some y := ⟨_, List.getElem?_eq_getElem (by rw [← HNN.out]; exact hlt)⟩
        have CX : ∀ (j : Nat) (u : Value), j < 8 → Y.cells[j]? = some u → wr.cell? ⟨g, off + (i * 8 + j), none⟩ = some u := fun j u hj hu =>
          (HBEL.out.cell (p := ⟨g, off + (i * 8 + j), none⟩) g3).trans (G4.out _ u ((flatL4_at vs i j Y hY hj).trans hu))
        obtain ⟨aa, am, ac, ca, cm, cc, en, ek⟩ := (H3.out i Y t hY ht).2.2.2.2.slices
        have hlen1 : (lineT t).length ≤ 1000000000000 := Nat.le_trans (mem_flat _ _ (List.mem_map.2 ⟨t, List.mem_of_getElem? ht, rfl⟩)) HS.out
        have HH := Lib.hid (fun W' (hb : Below w.heap.size w W') => ltext_any ((H3.out i Y t hY ht).under hb) (List.all_eq_true.1 HR.out t (List.mem_of_getElem? ht)) (HT.out.below hb) hlen1)
        have hlen : ((l.take i).map lineT).length = i := by rw [List.length_map, List.length_take, ← HNN.out]; omega
        have HTK := Lib.hid (show (l.take (i + 1)).map lineT = ((l.take i).map lineT) ++ [lineT t] by
          rw [List.take_add_one, ht]; simp)
        have HLEN := Lib.hid hlen
        obtain ⟨nm, mo, ⟨k, sx, nv, lo, hi', kv⟩⟩ := Y
        simp only [] at en ek
        subst en ek
        have e0 := CX 0 _ (by omega) rfl
        have e1 := CX 1 _ (by omega) rfl
        have e2 := CX 2 _ (by omega) rfl
        have e3 := CX 3 _ (by omega) rfl
        have e4 := CX 4 _ (by omega) rfl
        have e5 := CX 5 _ (by omega) rfl
        have e6 := CX 6 _ (by omega) rfl
        have e7 := CX 7 _ (by omega) rfl
        rw [← Nat.add_assoc] at e0 e1 e2 e3 e4 e5 e6 e7
        rw [Nat.add_zero] at e0
        have hxb := HX.out.lt
        have hne : wr.heap.size ≠ w.heap.size := by omega
        have HA := Lib.hid (below_new HBEL.out (lobj ⟨nm, mo, ⟨k, sx, .slice aa am ac, lo, hi', .slice ca cm cc⟩⟩))
        have HXA := Lib.hid (HX.out.under ((Below.refl wr.heap.size wr).alloc (Nat.le_refl _) (lobj ⟨nm, mo, ⟨k, sx, .slice aa am ac, lo, hi', .slice ca cm cc⟩⟩)))
        unfold lobj LV.arr at HA HXA
        clear hY ht hlen CX hlen1
        go_wp2_with fail
        refine (HH.out _ HA.out).mono ?_
        rintro e w1 ⟨rfl, hb⟩
        have HB1 := Lib.hid (below_then HA.out hb)
        have hX1 := HXA.out.under hb
        have k0 := hX1.cell (by rw [HLEN.out]; exact hlt)
        have k1 := hX1.frozen i
        rw [HLEN.out] at k0
        have HX2 := Lib.hid (hX1.set (by rw [HLEN.out]; exact hlt) (lineT t))
        clear hb hX1 e0 e1 e2 e3 e4 e5 e6 e7
        go_wp2_with fail
        go_roundw
        case rel => exact ⟨i + 1, by go_num, by omega, HB1.out.setCell (Nat.le_refl _) _, by unfold Hid; have := HX2.out; rw [HLEN.out, ← HTK.out] at this; exact this⟩
        case measure => simp [intOf]; omega
      · have hin : i = n := by omega
        subst hin
        have HJ := Lib.hid (HJE.out wr (by have := HX.out; rw [List.take_of_length_le (by rw [← HNN.out]; omega)] at this; exact this))
        go_wp2_with fail
        refine HJ.out.mono ?_
        rintro e w1 ⟨rfl, hb⟩
        have HB1 := Lib.hid (below_then HBEL.out hb)
        clear hb
        go_wp2_with fail
        go_ret
        exact ⟨rfl, HB1.out⟩

/-- What Tell answers. -/
def tellV (l : List Rule) : Value := if l.all rlB = true then .tuple #[.string (strOf ((l.map lineT).flatten)), .int .i64 0] else .tuple #[.string ⟨#[]⟩, .int .i64 1]
def GivesTell (l : List Rule) (w : World) (e : Ending) (w' : World) : Prop := e = .returned (tellV l) ∧ Below w.heap.size w w'

set_option maxRecDepth 100000 in
theorem tell_any {w : World} {v : Value} {vs : List LV} {l : List Rule} (h : LinesE w v vs l) (hT : Tabs w) (hs : l.all rlB = true → ((l.map lineT).flatten).length ≤ 1000000000000) :
    Calls Tryz.prog 6 #[v] w (GivesTell l w) := by
  have HA := Lib.hid (allL_any h)
  cases hp : l.all rlB
  · have hv : tellV l = .tuple #[.string ⟨#[]⟩, .int .i64 1] := by unfold tellV; rw [hp, if_neg (by simp)]
    unfold GivesTell
    rw [hv]
    rw [hp] at HA
    clear hp hs h hT hv
    go_enter Tryz.func6, Tryz.ntmps6
    go_wp2_with fail
    refine HA.out.mono ?_
    rintro e w1 ⟨rfl, hb⟩
    have HB1 := Lib.hid hb
    clear hb
    go_wp2_with fail
    go_ret2
    exact ⟨rfl, HB1.out⟩
  · have hv : tellV l = .tuple #[.string (strOf ((l.map lineT).flatten)), .int .i64 0] := by unfold tellV; rw [hp, if_pos rfl]
    unfold GivesTell
    rw [hv]
    rw [hp] at HA
    have HJ := Lib.hid (fun W' (hb : Below w.heap.size w W') => joinL_any (h.below hb) hp (hT.below hb) (hs hp))
    clear hp hs h hT hv
    go_enter Tryz.func6, Tryz.ntmps6
    go_wp2_with fail
    refine HA.out.mono ?_
    rintro e w1 ⟨rfl, hb⟩
    have HB1 := Lib.hid hb
    clear hb
    go_wp2_with fail
    refine (HJ.out _ HB1.out).mono ?_
    rintro e w2 ⟨rfl, hb⟩
    have HB2 := Lib.hid (below_then HB1.out hb)
    clear hb
    go_wp2_with fail
    go_ret2
    exact ⟨rfl, HB2.out⟩

end Go.Proofs.YtddbaacibdmnaaaGreatDoor

/- What the laws of the teller ask of any right program: awake. -/
namespace Go.Proofs.YtddbaacibdmnaaaGreatDoor
open Go.RowKit
set_option linter.unusedVariables false
set_option linter.unusedSimpArgs false

def awkExpr : Tree := .mk 1 [] [] 0 0 [.mk 3 [] [] 1 2 [.mk 4 [98] [] 0 0 []], .mk 5 [99] [] 0 0 []]
def awkA : Rule := ⟨[97], false, awkExpr⟩
def awkB : Rule := ⟨[65], false, awkExpr⟩

theorem RowAny.of_block {W : World} {g n : Nat} {cs : Array Value} {t : TypeId} (h : W.heap[g]? = some (.cells cs t (0, 0))) (hn : n ≤ 1000000) : RowAny W (.slice (some ⟨g, 0, none⟩) n n) n cs.toList := by
  refine .inr ⟨g, 0, n, rfl, Nat.le_refl _, by unfold maxLen; omega, (Array.getElem?_eq_some_iff.1 h).1, fun j u hj => ?_⟩
  simp only [World.cell?, h, Nat.zero_add]
  simpa using hj
theorem RowAny.nil (W : World) (a : Option Addr) (cap : Nat) (xs : List Value) : RowAny W (.slice a 0 cap) 0 xs := .inl ⟨rfl, a, cap, rfl⟩

/-- The expression as awake lays it down. -/
theorem awk_tree {W : World} {N : Nat}
    (b0 : W.heap[N]? = some (.cells #[.int .i64 4, .string ⟨#[98]⟩, .slice none 0 0, .int .i64 0, .int .i64 0, .slice none 0 0] 36 (0, 0)))
    (b2 : W.heap[N + 2]? = some (.cells #[.int .i64 3, .string ⟨#[]⟩, .slice none 0 0, .int .i64 1, .int .i64 2, .slice (some ⟨N, 0, none⟩) 1 1, .int .i64 5, .string ⟨#[99]⟩, .slice none 0 0, .int .i64 0, .int .i64 0, .slice none 0 0] 36 (0, 0))) :
    ETree W ⟨1, ⟨#[]⟩, .slice none 0 0, 0, 0, .slice (some ⟨N + 2, 0, none⟩) 2 2⟩ awkExpr := by
  have t1 : ETree W ⟨4, ⟨#[98]⟩, .slice none 0 0, 0, 0, .slice none 0 0⟩ (.mk 4 [98] [] 0 0 []) := ETree.mk (x := [98]) (nums := []) (kids := []) [] (by simp) (by simp) (RowAny.nil _ _ _ _) (RowAny.nil _ _ _ _) rfl (fun i y t h => by simp at h)
  have t3 : ETree W ⟨5, ⟨#[99]⟩, .slice none 0 0, 0, 0, .slice none 0 0⟩ (.mk 5 [99] [] 0 0 []) := ETree.mk (x := [99]) (nums := []) (kids := []) [] (by simp) (by simp) (RowAny.nil _ _ _ _) (RowAny.nil _ _ _ _) rfl (fun i y t h => by simp at h)
  have t2 : ETree W ⟨3, ⟨#[]⟩, .slice none 0 0, 1, 2, .slice (some ⟨N, 0, none⟩) 1 1⟩ (.mk 3 [] [] 1 2 [.mk 4 [98] [] 0 0 []]) := by
    refine ETree.mk (x := []) (nums := []) [⟨4, ⟨#[98]⟩, .slice none 0 0, 0, 0, .slice none 0 0⟩] (by simp) (by simp) (RowAny.nil _ _ _ _) (RowAny.of_block b0 (by omega)) rfl (fun i y t hy ht => ?_)
    match i, hy, ht with
    | 0, hy, ht => cases hy; cases ht; exact t1
    | i + 1, hy, ht => simp at hy
  refine ETree.mk (x := []) (nums := []) [⟨3, ⟨#[]⟩, .slice none 0 0, 1, 2, .slice (some ⟨N, 0, none⟩) 1 1⟩, ⟨5, ⟨#[99]⟩, .slice none 0 0, 0, 0, .slice none 0 0⟩] (by simp) (by simp) (RowAny.nil _ _ _ _) (RowAny.of_block b2 (by omega)) rfl (fun i y t hy ht => ?_)
  match i, hy, ht with
  | 0, hy, ht => cases hy; cases ht; exact t2
  | 1, hy, ht => cases hy; cases ht; exact t3
  | i + 2, hy, ht => simp at hy

/-- A list of one rule in a block. -/
theorem one_line {W : World} {g : Nat} {y : LV} {r : Rule} (h : W.heap[g]? = some (.cells y.arr 38 (0, 0))) (hr : LineE W y r) : LinesE W (.slice (some ⟨g, 0, none⟩) 1 1) [y] [r] := by
  refine ⟨RowAny.of_block (cs := y.arr) h (by omega), rfl, fun i y' r' hy ht => ?_⟩
  match i, hy, ht with
  | 0, hy, ht => cases hy; cases ht; exact hr
  | i + 1, hy, ht => simp at hy

theorem awkA_right : rlB awkA = true := by decide +kernel
theorem awkB_right : rlB awkB = false := by decide +kernel
theorem awkE_right : rightF 50 awkExpr = true := by decide +kernel
theorem awkA_text : lineT awkA = [97, 32, 61, 32, 49, 42, 50, 98, 32, 47, 32, 34, 99, 34, 10] := by decide +kernel
theorem tell_awkA : tellV [awkA] = .tuple #[.string ⟨#[97, 32, 61, 32, 49, 42, 50, 98, 32, 47, 32, 34, 99, 34, 10]⟩, .int .i64 0] := by
  unfold tellV
  have : [awkA].all rlB = true := by rw [List.all_cons, awkA_right]; rfl
  rw [if_pos this]
  have e : ([awkA].map lineT).flatten = [97, 32, 61, 32, 49, 42, 50, 98, 32, 47, 32, 34, 99, 34, 10] := by
    show lineT awkA ++ [] = _
    rw [awkA_text]; rfl
  rw [e]
  rfl
theorem tell_awkB : tellV [awkB] = .tuple #[.string ⟨#[]⟩, .int .i64 1] := by
  unfold tellV
  have : ¬ [awkB].all rlB = true := by rw [List.all_cons, awkB_right]; simp
  rw [if_neg this]

theorem empty_tree (W : World) : ETree W ⟨0, ⟨#[]⟩, .slice none 0 0, 0, 0, .slice none 0 0⟩ (.mk 0 [] [] 0 0 []) := ETree.mk (x := []) (nums := []) (kids := []) [] (by simp) (by simp) (RowAny.nil _ _ _ _) (RowAny.nil _ _ _ _) rfl (fun i y t h => by simp at h)
theorem empty_right : rightF 50 (.mk 0 [] [] 0 0 []) = false := by decide +kernel

theorem heap_old (W : World) (o : Obj) {b : Nat} {x : Obj} (h : W.heap[b]? = some x) : (W.alloc o).heap[b]? = some x := by
  have hl : b < W.heap.size := (Array.getElem?_eq_some_iff.1 h).1
  exact (Below.heap_alloc _ _ _ (by omega)).trans h

set_option maxRecDepth 100000 in
theorem awk_laid (w : World) (W : World) (hW : W = (((((w.alloc (.cells #[.int .i64 4, .string ⟨#[98]⟩, .slice none 0 0, .int .i64 0, .int .i64 0, .slice none 0 0] 36)).alloc (.cells #[.int .i64 3, .string ⟨#[]⟩, .slice none 0 0, .int .i64 1, .int .i64 2, .slice (some ⟨w.heap.size, 0, none⟩) 1 1] 36)).alloc (.cells #[.int .i64 3, .string ⟨#[]⟩, .slice none 0 0, .int .i64 1, .int .i64 2, .slice (some ⟨w.heap.size, 0, none⟩) 1 1, .int .i64 5, .string ⟨#[99]⟩, .slice none 0 0, .int .i64 0, .int .i64 0, .slice none 0 0] 36)).alloc (.cells #[.int .i64 1, .string ⟨#[]⟩, .slice none 0 0, .int .i64 0, .int .i64 0, .slice (some ⟨w.heap.size + 1 + 1, 0, none⟩) 2 2] 36)).alloc (.cells #[.string ⟨#[97]⟩, .bool false, .int .i64 1, .string ⟨#[]⟩, .slice none 0 0, .int .i64 0, .int .i64 0, .slice (some ⟨w.heap.size + 1 + 1, 0, none⟩) 2 2] 38))) :
    ETree W ⟨1, ⟨#[]⟩, .slice none 0 0, 0, 0, .slice (some ⟨w.heap.size + 1 + 1, 0, none⟩) 2 2⟩ awkExpr ∧
    LinesE W (.slice (some ⟨w.heap.size + 1 + 1 + 1 + 1, 0, none⟩) 1 1) [⟨⟨#[97]⟩, false, ⟨1, ⟨#[]⟩, .slice none 0 0, 0, 0, .slice (some ⟨w.heap.size + 1 + 1, 0, none⟩) 2 2⟩⟩] [awkA] ∧
    X6 W (w.heap.size + 1 + 1 + 1) 1 0 0 ⟨#[]⟩ (.slice none 0 0) (.slice (some ⟨w.heap.size + 1 + 1, 0, none⟩) 2 2) ∧ Below w.heap.size w W := by
  have b0 : W.heap[w.heap.size]? = some (.cells #[.int .i64 4, .string ⟨#[98]⟩, .slice none 0 0, .int .i64 0, .int .i64 0, .slice none 0 0] 36) := by
    rw [hW]; exact heap_old _ _ (heap_old _ _ (heap_old _ _ (heap_old _ _ (heap_last _ _ _ rfl))))
  have b2 : W.heap[w.heap.size + 1 + 1]? = some (.cells #[.int .i64 3, .string ⟨#[]⟩, .slice none 0 0, .int .i64 1, .int .i64 2, .slice (some ⟨w.heap.size, 0, none⟩) 1 1, .int .i64 5, .string ⟨#[99]⟩, .slice none 0 0, .int .i64 0, .int .i64 0, .slice none 0 0] 36) := by
    rw [hW]; exact heap_old _ _ (heap_old _ _ (heap_last _ _ _ (by simp)))
  have b3 : W.heap[w.heap.size + 1 + 1 + 1]? = some (.cells #[.int .i64 1, .string ⟨#[]⟩, .slice none 0 0, .int .i64 0, .int .i64 0, .slice (some ⟨w.heap.size + 1 + 1, 0, none⟩) 2 2] 36) := by
    rw [hW]; exact heap_old _ _ (heap_last _ _ _ (by simp))
  have b4 : W.heap[w.heap.size + 1 + 1 + 1 + 1]? = some (.cells #[.string ⟨#[97]⟩, .bool false, .int .i64 1, .string ⟨#[]⟩, .slice none 0 0, .int .i64 0, .int .i64 0, .slice (some ⟨w.heap.size + 1 + 1, 0, none⟩) 2 2] 38) := by
    rw [hW]; exact heap_last _ _ _ (by simp)
  have hE := awk_tree b0 b2
  refine ⟨hE, one_line (y := ⟨⟨#[97]⟩, false, ⟨1, ⟨#[]⟩, .slice none 0 0, 0, 0, .slice (some ⟨w.heap.size + 1 + 1, 0, none⟩) 2 2⟩⟩) b4 ⟨rfl, by simp [awkA], by simp [awkA], rfl, hE⟩, b3, ?_⟩
  rw [hW]
  exact (((((Below.refl w.heap.size w).alloc (Nat.le_refl _) _).alloc (by simp) _).alloc (by simp; omega) _).alloc (by simp; omega) _).alloc (by simp; omega) _

set_option maxRecDepth 100000 in
set_option maxHeartbeats 8000000 in
theorem awake_any {w : World} (hT : Tabs w) : Calls Tryz.prog 4 #[] w (GivesBool true w) := by
  obtain ⟨hE, hL, hX, hb⟩ := awk_laid w _ rfl
  have HT := Lib.hid hT
  have HTELL := Lib.hid (tell_any hL (hT.below hb) (fun _ => by
    show (lineT awkA ++ []).length ≤ _
    rw [awkA_text]; simp))
  have HE := Lib.hid hE
  have HX := Lib.hid hX
  have HB := Lib.hid hb
  have HN := Lib.hid (fun W => name_text (x := [97, 45, 49]) W (by simp) (by simp))
  rw [show nameB [97, 45, 49] = true by decide] at HN
  clear hT hE hL hX hb
  go_enter Tryz.func4, Tryz.ntmps4
  go_wp2_with fail
  refine HTELL.out.mono ?_
  rintro e w5 ⟨rfl, hb⟩
  rw [tell_awkA]
  have HB5 := Lib.hid (below_then HB.out hb)
  have HE5 := Lib.hid (HE.out.under hb)
  have HX5 := Lib.hid (HX.out.under hb)
  obtain ⟨a0, a1, a2, a3, a4, a5⟩ := HX5.out.cells
  have hl6 : w5.heap.size + 1 = (w5.alloc (.cells #[.string ⟨#[65]⟩, .bool false, .int .i64 1, .string ⟨#[]⟩, .slice none 0 0, .int .i64 0, .int .i64 0, .slice (some ⟨w.heap.size + 1 + 1, 0, none⟩) 2 2] 38)).heap.size := by simp
  have hB6 := (Below.refl w5.heap.size w5).alloc (Nat.le_refl _) (.cells #[.string ⟨#[65]⟩, .bool false, .int .i64 1, .string ⟨#[]⟩, .slice none 0 0, .int .i64 0, .int .i64 0, .slice (some ⟨w.heap.size + 1 + 1, 0, none⟩) 2 2] 38)
  have HL6 := Lib.hid (one_line (W := w5.alloc (.cells #[.string ⟨#[65]⟩, .bool false, .int .i64 1, .string ⟨#[]⟩, .slice none 0 0, .int .i64 0, .int .i64 0, .slice (some ⟨w.heap.size + 1 + 1, 0, none⟩) 2 2] 38)) (g := w5.heap.size) (y := ⟨⟨#[65]⟩, false, ⟨1, ⟨#[]⟩, .slice none 0 0, 0, 0, .slice (some ⟨w.heap.size + 1 + 1, 0, none⟩) 2 2⟩⟩) (r := awkB) (heap_alloc_new _ _) ⟨rfl, by simp [awkB], by simp [awkB], rfl, HE5.out.under hB6⟩)
  have HB6 := Lib.hid (below_then HB5.out hB6)
  have HE6 := Lib.hid (HE5.out.under hB6)
  have HX6 := Lib.hid (HX5.out.under hB6)
  have HTELL2 := Lib.hid (tell_any HL6.out (HT.out.below HB6.out) (fun h => by rw [List.all_cons, awkB_right] at h; cases h))
  clear hb hB6 hl6
  go_wp2_with fail
  refine HTELL2.out.mono ?_
  rintro e w6 ⟨rfl, hb⟩
  rw [tell_awkB]
  have HB7 := Lib.hid (below_then HB6.out hb)
  have HR7 := Lib.hid (right_any (HE6.out.under hb))
  rw [awkE_right] at HR7
  have HX7 := Lib.hid (HX6.out.under hb)
  clear hb a0 a1 a2 a3 a4 a5
  obtain ⟨a0, a1, a2, a3, a4, a5⟩ := HX7.out.cells
  go_wp2_with fail
  refine HR7.out.mono ?_
  rintro e w7 ⟨rfl, hb⟩
  have HB8 := Lib.hid (below_then HB7.out hb)
  have HR8 := Lib.hid (right_any (empty_tree w7))
  rw [empty_right] at HR8
  clear hb a0 a1 a2 a3 a4 a5
  go_wp2_with fail
  refine HR8.out.mono ?_
  rintro e w8 ⟨rfl, hb⟩
  have HB9 := Lib.hid (below_then HB8.out hb)
  clear hb
  go_wp2_with fail
  refine (HN.out _).mono ?_
  rintro e w9 ⟨rfl, hb⟩
  have HB10 := Lib.hid (below_then HB9.out hb)
  clear hb
  go_wp2_with fail
  go_ret
  exact ⟨rfl, HB10.out⟩

end Go.Proofs.YtddbaacibdmnaaaGreatDoor
