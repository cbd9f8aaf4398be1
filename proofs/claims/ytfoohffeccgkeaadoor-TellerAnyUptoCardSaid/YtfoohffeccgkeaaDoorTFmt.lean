/- The library's FormatInt to the base 16, of numbers from 0 to 1114111. The table of math/bits lies as it is laid: its one cell is asked for. -/
import Derived.Test.YtfoohffeccgkeaaDoorTRight
import Derived.Laws.BytesString
import Derived.Maps.OwnSet
import Derived.Deep.MidRow
namespace Go.Proofs.YtfoohffeccgkeaaDoor
open Go.RowKit
set_option linter.unusedVariables false
set_option linter.unusedSimpArgs false

/-- The one cell of the library's table that is read. -/
def Bruijn (W : World) : Prop := W.cell? ⟨6, 15, none⟩ = some (.int .u8 4)
theorem Bruijn.below {W W' : World} (h : Bruijn W) (hb : Below W.heap.size W W') : Bruijn W' := cell_below h hb

theorem pow2_16 (w : World) : Calls Tryd.prog 92 #[.int .i64 16] w (SaysB true w) := by
  have h1 : bits .and .i64 16 15 = 0 := by decide +kernel
  go_enter Tryd.func92, Tryd.ntmps92
  go_wp2
  go_ret
  exact ⟨rfl, rfl⟩
theorem zeros64_16 {w : World} (h : Bruijn w) : Calls Tryd.prog 98 #[.int .u64 16] w fun e w' => e = .returned (.int .i64 4) ∧ w = w' := by
  unfold Bruijn at h
  have h1 : bits .and .u64 16 (IntKind.u64.wrap (-16)) = 16 := by decide +kernel
  have h2 : IntKind.u64.wrap 4573923408821661840 = 4573923408821661840 := by decide +kernel
  have h3 : IntKind.u64.wrap (16 * 285870213051353865) = 4573923408821661840 := by decide +kernel
  go_enter Tryd.func98, Tryd.ntmps98
  go_wp2
  go_ret
  exact ⟨rfl, rfl⟩
theorem zeros_16 {w : World} (h : Bruijn w) : Calls Tryd.prog 93 #[.int .u64 16] w fun e w' => e = .returned (.int .i64 4) ∧ w = w' := by
  have HZ := Lib.hid (zeros64_16 h)
  go_enter Tryd.func93, Tryd.ntmps93
  go_wp2_with fail
  refine HZ.out.mono ?_
  rintro e w' ⟨rfl, rfl⟩
  go_wp2_with fail
  go_ret
  exact ⟨rfl, rfl⟩

/-- Digits to the base 16, with small letters. -/
def lexC (n : Nat) : Int := if n < 10 then 48 + n else 87 + n
def lexF : Nat → Nat → List Int
  | 0, _ => []
  | f + 1, n => (if n < 16 then [] else lexF f (n / 16)) ++ [lexC (n % 16)]
theorem lexF_more {f n : Nat} (h : 16 ≤ n) : lexF (f + 1) n = lexF f (n / 16) ++ [lexC (n % 16)] := by rw [lexF, if_neg (by omega)]
theorem lexF_last {f n : Nat} (h : n < 16) : lexF (f + 1) n = [lexC n] := by rw [lexF, if_pos h, Nat.mod_eq_of_lt h]; rfl
theorem lexC_range {n : Nat} (h : n < 16) : 48 ≤ lexC n ∧ lexC n ≤ 102 := by unfold lexC; split <;> omega

theorem lexF_range : ∀ (f n : Nat) (c : Int), c ∈ lexF f n → 0 ≤ c ∧ c ≤ 255
  | 0, _, _, h => by simp [lexF] at h
  | f + 1, n, c, h => by
    unfold lexF at h
    rw [List.mem_append] at h
    rcases h with h | h
    · split at h
      · simp at h
      · exact lexF_range f _ c h
    · have := lexC_range (n := n % 16) (by omega)
      simp at h
      omega

/-- The library's array of digits, filled from its end on. -/
def dcells (y : List Int) : Array Value := (List.replicate (65 - y.length) (Value.int .u8 0) ++ y.map (Value.int .u8)).toArray
theorem dcells_set {y : List Int} (h : y.length < 65) (c : Int) : (dcells y).setIfInBounds (64 - y.length) (.int .u8 c) = dcells (c :: y) := by
  unfold dcells
  have e : 65 - y.length = (64 - y.length) + 1 := by omega
  have e2 : 65 - (c :: y).length = 64 - y.length := by simp
  rw [e, e2]
  generalize 64 - y.length = m
  rw [List.setIfInBounds_toArray]
  congr 1
  rw [List.replicate_succ', List.append_assoc, List.set_append_right _ _ (by simp)]
  simp
theorem dcells_at {y : List Int} (h : y.length ≤ 65) (j : Nat) (c : Int) (hc : y[j]? = some c) : (dcells y)[65 - y.length + j]? = some (.int .u8 c) := by
  unfold dcells
  rw [List.getElem?_toArray, List.getElem?_append_right (by simp)]
  simp [hc]
theorem dcells_zero {y : List Int} (h : y.length < 65) : (dcells y)[64 - y.length]? = some (.int .u8 0) := by
  unfold dcells
  rw [List.getElem?_toArray, List.getElem?_append_left (by simp; omega), List.getElem?_replicate, if_pos (by omega)]
theorem zeroRow65 (w : World) : (zeroValue 105).run Tryd.prog w = .ok (.agg (dcells [])) w := by kernel_rfl

def Dg (B : Nat) (y : List Int) (W : World) : Prop := W.heap[B]? = some (.cells (dcells y) 105 (0, 0))
theorem Dg.cell {B : Nat} {y : List Int} {W : World} (h : Dg B y W) (hl : y.length < 65) : W.cell? ⟨B, 64 - y.length, none⟩ = some (.int .u8 0) := by
  unfold Dg at h
  simp only [World.cell?, h]
  exact dcells_zero hl
theorem Dg.frozen {B : Nat} {y : List Int} {W : World} (h : Dg B y W) (j : Nat) : W.frozen? ⟨B, j, none⟩ = false := by
  unfold Dg at h
  simp [World.frozen?, h]
theorem Dg.set {B : Nat} {y : List Int} {W : World} (h : Dg B y W) (hl : y.length < 65) (c : Int) : Dg B (c :: y) (W.setCell ⟨B, 64 - y.length, none⟩ (.int .u8 c)) := by
  unfold Dg at h ⊢
  rw [setCell_eq_setRow _ _ _ _ _ _ _ h, dcells_set hl]
  exact setRow_heap _ _ _ _ _ _ h
theorem Dg.read {B : Nat} {y : List Int} {W : World} (h : Dg B y W) (hl : y.length ≤ 65) (j : Nat) (c : Int) (hc : y[j]? = some c) : W.cell? ⟨B, 65 - y.length + j, none⟩ = some (.int .u8 c) := by
  unfold Dg at h
  simp only [World.cell?, h]
  exact dcells_at hl j c hc

theorem ofInt_64 (n : Nat) (h : n < 18446744073709551616) : (BitVec.ofInt 64 (n : Int)).toNat = n := by
  simp [BitVec.toNat_ofInt]
  omega
theorem and15 (m : Nat) (h : m < 16777216) : bits .and .u64 (m : Int) 15 = ((m % 16 : Nat) : Int) := by
  show IntKind.u64.wrap ((BitVec.ofInt 64 (m : Int) &&& BitVec.ofInt 64 ((15 : Nat) : Int)).toNat : Int) = _
  rw [BitVec.toNat_and, ofInt_64 m (by omega), ofInt_64 15 (by omega)]
  have e := Nat.and_two_pow_sub_one_eq_mod m 4
  rw [show 2 ^ 4 - 1 = 15 by decide, show 2 ^ 4 = 16 by decide] at e
  rw [e, IntKind.wrap_u64]
  omega
theorem dig_at {a : Nat} (h : a < 16) (h2 : a < (⟨#[48, 49, 50, 51, 52, 53, 54, 55, 56, 57, 97, 98, 99, 100, 101, 102, 103, 104, 105, 106, 107, 108, 109, 110, 111, 112, 113, 114, 115, 116, 117, 118, 119, 120, 121, 122]⟩ : ByteArray).size) :
    (((⟨#[48, 49, 50, 51, 52, 53, 54, 55, 56, 57, 97, 98, 99, 100, 101, 102, 103, 104, 105, 106, 107, 108, 109, 110, 111, 112, 113, 114, 115, 116, 117, 118, 119, 120, 121, 122]⟩ : ByteArray)[a]'h2).toNat : Int) = lexC a := by
  have key : ∀ i : Fin 16, (((⟨#[48, 49, 50, 51, 52, 53, 54, 55, 56, 57, 97, 98, 99, 100, 101, 102, 103, 104, 105, 106, 107, 108, 109, 110, 111, 112, 113, 114, 115, 116, 117, 118, 119, 120, 121, 122]⟩ : ByteArray)[i.val]'(Nat.lt_of_lt_of_le i.isLt (by decide))).toNat : Int) = lexC i.val := by decide +kernel
  exact key ⟨a, h⟩

set_option maxRecDepth 100000 in
set_option maxHeartbeats 4000000 in
theorem bits16_any (n : Nat) (hn : n ≤ 1114111) {w : World} (hB : Bruijn w) : Calls Tryd.prog 85 #[.slice none 0 0, .int .u64 n, .int .i64 16, .bool false, .bool false] w
    fun e w' => e = .returned (.tuple #[.slice none 0 0, .string (strOf (lexF 6 n))]) ∧ Below w.heap.size w w' := by
  obtain ⟨Z, hZ⟩ : ∃ Z, Z = dcells [] := ⟨_, rfl⟩
  have hz : ∀ w : World, (zeroValue 105).run Tryd.prog w = .ok (.agg Z) w := by
    intro w; rw [hZ]; exact zeroRow65 w
  have HZ := Lib.hid hZ
  have HP := Lib.hid (fun W => pow2_16 W)
  have HT := Lib.hid (fun (o : Obj) => zeros_16 (w := w.alloc o) (hB.below ((Below.refl _ _).alloc (Nat.le_refl _) _)))
  clear hZ hB
  go_enter Tryd.func85, Tryd.ntmps85
  go_wp2_with fail
  refine (HP.out _).mono ?_
  rintro e w' ⟨rfl, rfl⟩
  go_wp2_with fail
  refine (HT.out _).mono ?_
  rintro e w' ⟨rfl, rfl⟩
  go_wp2_with fail
  go_loopw [1, 13] (fun u i wr => ∃ (m : Nat) (y : List Int), u = .int .u64 m ∧ i = .int .i64 (65 - (y.length : Int)) ∧ y.length ≤ 5 ∧ m < 16 ^ (6 - y.length) ∧ Hid (lexF 6 n = lexF (6 - y.length) m ++ y) ∧ Hid (Dg w.heap.size y wr) ∧ Hid (Below w.heap.size w wr)) (fun u _ _ => (intOf u).toNat)
  case atStart =>
    refine ⟨n, [], rfl, rfl, by simp, by show n < 16 ^ 6; rw [show (16 : Nat) ^ 6 = 16777216 by decide]; omega, by show lexF 6 n = lexF 6 n ++ []; simp, ?_, (Below.refl _ _).alloc (Nat.le_refl _) _⟩
    unfold Hid Dg
    rw [← HZ.out]
    exact heap_alloc_new w _
  case round =>
    obtain ⟨m, y, rfl, rfl, hy, hm, HL, HD, HBEL⟩ := hrel
    obtain ⟨l, hl⟩ : ∃ l, l = y.length := ⟨_, rfl⟩
    obtain ⟨q, hq⟩ : ∃ q : Nat, 64 - l = q := ⟨_, rfl⟩
    have hq2 : 65 - (l : Int) - 1 = (q : Int) := by omega
    have hqb : q < 65 := by omega
    have hc := HD.out.cell (by omega)
    have hf := HD.out.frozen (64 - y.length)
    rw [← hl, hq] at hc hf
    rw [← hl] at hm hy HL ⊢
    have hm24 : m < 16777216 := Nat.lt_of_lt_of_le hm (Nat.pow_le_pow_right (n := 16) (by omega) (by omega : 6 - l ≤ 6))
    obtain ⟨a, ha⟩ : ∃ a : Nat, m % 16 = a := ⟨_, rfl⟩
    have ha16 : a < 16 := by omega
    have hand : bits .and .u64 (m : Int) 15 = (a : Int) := by rw [← ha]; exact and15 m hm24
    by_cases h16 : 16 ≤ m
    · have q16 : decide ((16 : Int) ≤ (m : Int)) = true := decide_eq_true (by omega)
      obtain ⟨d, hd⟩ : ∃ d : Nat, m / 16 = d := ⟨_, rfl⟩
      have hdi : (m : Int) / 16 = (d : Int) := by omega
      have hl4 : l ≤ 4 := by
        rcases Nat.lt_or_ge l 5 with g | g
        · omega
        · have : l = 5 := by omega
          subst this
          simp at hm
          omega
      have HNX := Lib.hid (show lexF 6 n = lexF (6 - (l + 1)) d ++ (lexC a :: y) by
        rw [HL.out, show 6 - l = (6 - (l + 1)) + 1 by omega, lexF_more h16, hd, ha]
        simp)
      have HM := Lib.hid (show d < 16 ^ (6 - (l + 1)) by
        have e : 6 - l = 6 - (l + 1) + 1 := by omega
        rw [e, Nat.pow_succ] at hm
        omega)
      have HHL := Lib.hid hl
      have HQ := Lib.hid hq
      clear hm ha hd hl hq
      go_wp2_with fail
      go_roundw
      case rel =>
        refine ⟨d, lexC a :: y, rfl, ?_, ?_, ?_, ?_, ?_, ?_⟩
        · rw [List.length_cons, ← HHL.out]
          congr 1
          have := HQ.out
          omega
        · rw [List.length_cons, ← HHL.out]; omega
        · rw [List.length_cons, ← HHL.out]; exact HM.out
        · unfold Hid
          rw [List.length_cons, ← HHL.out]; exact HNX.out
        · unfold Hid
          rw [dig_at ha16]
          have := HD.out.set (by rw [← HHL.out]; omega) (lexC a)
          rw [← HHL.out, HQ.out] at this
          exact this
        · exact HBEL.out.setCell (Nat.le_refl _) _
      case measure => simp [intOf]; omega
    · have q16 : decide ((16 : Int) ≤ (m : Int)) = false := decide_eq_false (by omega)
      have hm16 : m < 16 := by omega
      have HFIN := Lib.hid (show lexF 6 n = lexC m :: y by
        rw [HL.out, show 6 - l = (5 - l) + 1 by omega, lexF_last hm16]
        rfl)
      have HHL := Lib.hid hl
      have HQ := Lib.hid hq
      have hal : Tryd.prog.arrayLen 105 = 65 := by kernel_rfl
      have hsl : ∀ W, (Instr.sliceAt 105 (.pointer (some ⟨w.heap.size, 0, none⟩)) (some (.int .i64 (q : Int))) none none).run Tryd.prog W = .ok (.slice (some ⟨w.heap.size, q, none⟩) (65 - q) (65 - q)) W := fun W => by
        rw [run_sliceAt_array_l W 105 ⟨w.heap.size, 0, none⟩ (by kernel_rfl) .i64 (q : Int) (by omega) (by rw [hal]; omega), hal]
        have hne : ¬ 65 = q := by omega
        go_simp
      obtain ⟨W2, hW2⟩ : ∃ W, W = wr.setCell ⟨w.heap.size, q, none⟩ (.int .u8 (lexC m)) := ⟨_, rfl⟩
      have hD2 : Dg w.heap.size (lexC m :: y) W2 := by
        have := HD.out.set (by rw [← HHL.out]; omega) (lexC m)
        rw [← HHL.out, HQ.out] at this
        rw [hW2]
        exact this
      have hr : ∀ c ∈ (lexC m :: y), 0 ≤ c ∧ c ≤ 255 := by
        intro c hc
        rw [← HFIN.out] at hc
        exact lexF_range 6 n c hc
      have kc : (convert 45 9 (.slice (some ⟨w.heap.size, q, none⟩) (65 - q) (65 - q))).run Tryd.prog W2 = .ok (.string (strOf (lexC m :: y))) W2 := by
        have hlen : (65 - q) = ((lexC m :: y).map byt).length := by
          rw [List.length_map, List.length_cons, ← HHL.out]
          have := HQ.out
          omega
        have := run_convert_bytes_back (P := Tryd.prog) W2 45 9 5 ⟨w.heap.size, q, none⟩ (65 - q) ((lexC m :: y).map byt) Tryd.underlying45 Tryd.underlying5 Tryd.underlying9 (fun j hj => by
          have hj2 : j < (lexC m :: y).length := by simpa using hj
          have hc := hD2.read (by rw [List.length_cons, ← HHL.out]; omega) j _ (List.getElem?_eq_getElem hj2)
          have e1 : 65 - (lexC m :: y).length + j = q + j := by
            rw [List.length_cons, ← HHL.out]
            have := HQ.out
            omega
          rw [e1] at hc
          have e2 : (⟨w.heap.size, q, none⟩ : Addr).add j = ⟨w.heap.size, q + j, none⟩ := by cases j <;> simp [Addr.add]
          rw [e2, hc]
          have := hr _ (List.getElem_mem hj2)
          rw [List.getElem_map]
          congr 2
          unfold byt
          simp
          omega)
        rw [← hlen] at this
        exact this
      have HBF := Lib.hid (show Below w.heap.size w W2 by rw [hW2]; exact HBEL.out.setCell (Nat.le_refl _) _)
      rw [hW2] at kc HBF
      have HSTR := Lib.hid (show strOf (lexC m :: y) = strOf (lexF 6 n) by rw [HFIN.out])
      rw [← dig_at hm16 (by exact Nat.lt_of_lt_of_le hm16 (by decide))] at kc HBF HSTR
      clear hm ha hl hq hand hW2 hD2 hr hal
      go_wp2_with fail
      go_ret2
      exact ⟨congrArg (fun u => Ending.returned (Value.tuple #[.slice none 0 0, Value.string u])) HSTR.out, HBF.out⟩

set_option maxRecDepth 100000 in
theorem fmt16_in (n : Nat) (hn : n ≤ 1114111) {w : World} (hB : Bruijn w) : Calls Tryd.prog 73 #[.int .i64 n, .int .i64 16] w
    fun e w' => e = .returned (.string (strOf (lexF 6 n))) ∧ Below w.heap.size w w' := by
  have HB := Lib.hid (bits16_any n hn hB)
  have hw : IntKind.u64.wrap (n : Int) = (n : Int) := by rw [IntKind.wrap_u64]; omega
  clear hB
  go_enter Tryd.func73, Tryd.ntmps73
  go_wp2_with fail
  refine HB.out.mono ?_
  rintro e w' ⟨rfl, hb⟩
  have HB2 := Lib.hid hb
  clear hb
  go_wp2_with fail
  go_ret
  exact ⟨rfl, HB2.out⟩
set_option maxRecDepth 100000 in
theorem fmt16_any (n : Nat) (hn : n ≤ 1114111) {w : World} (hB : Bruijn w) : Calls Tryd.prog 62 #[.int .i64 n, .int .i64 16] w
    fun e w' => e = .returned (.string (strOf (lexF 6 n))) ∧ Below w.heap.size w w' := by
  have HB := Lib.hid (fmt16_in n hn hB)
  clear hB
  go_enter Tryd.func62, Tryd.ntmps62
  go_wp2_with fail
  refine HB.out.mono ?_
  rintro e w' ⟨rfl, hb⟩
  have HB2 := Lib.hid hb
  clear hb
  go_wp2_with fail
  go_ret
  exact ⟨rfl, HB2.out⟩

end Go.Proofs.YtfoohffeccgkeaaDoor
