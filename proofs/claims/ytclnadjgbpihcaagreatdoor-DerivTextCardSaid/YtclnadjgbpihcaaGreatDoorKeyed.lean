/- Expressions with their texts, in a row: the comparison, the exchange of ranges. No condition. -/
import Derived.Test.YtclnadjgbpihcaaGreatDoorSMath
import Derived.Test.YtclnadjgbpihcaaGreatDoorProg
import Derived.Shelf.SlSortCmp.KitK
import Derived.Lib.Bytealg
import Derived.Lib.Hide
import Derived.BigRegion
import Derived.WalkLawsBesides
namespace Go.Proofs.YtclnadjgbpihcaaGreatDoor
open Go.RowKit Go.Sort Go.Lib Go.Shelf
set_option linter.unusedVariables false
set_option linter.unusedSimpArgs false

/-- The fields of an expression as they lie in memory. -/
structure ReV where
  kind : Int
  a : Int
  b : Int
  c : Int
  d : Int
  p : Option Addr
  n : Nat
  cap : Nat
  deriving Inhabited
def ReV.cells (x : ReV) : List Value := [.int .i64 x.kind, .int .u64 x.a, .int .u64 x.b, .int .u64 x.c, .int .u64 x.d, .slice x.p x.n x.cap]
/-- An expression with its text, and its first place. -/
structure KE where
  text : ByteArray
  re : ReV
  ix : Nat
instance : Inhabited KE := ⟨⟨⟨#[]⟩, default, 0⟩⟩
def KE.enc (x : KE) : List Value := [.string x.text, .int .i64 x.re.kind, .int .u64 x.re.a, .int .u64 x.re.b, .int .u64 x.re.c, .int .u64 x.re.d, .slice x.re.p x.re.n x.re.cap]
theorem KE.enc_len (x : KE) : x.enc.length = 7 := rfl
theorem KE.enc_one (x : KE) : ∀ v ∈ x.enc, v.oneCell' = true := by
  intro v hv
  simp [KE.enc] at hv
  rcases hv with rfl | rfl | rfl | rfl | rfl | rfl | rfl <;> rfl
/-- The comparison of two texts. -/
def KE.cmp (x y : KE) : Int := compareBytes x.text.data.toList y.text.data.toList

set_option maxRecDepth 100000 in
set_option maxHeartbeats 1000000 in
theorem cmpstr_any (a b : ByteArray) (w : World) :
    Calls Tryz.prog 84 #[.string a, .string b] w fun e w' => e = .returned (.int .i64 (compareBytes a.data.toList b.data.toList)) ∧ w' = w := by
  go_enter Tryz.func84, Tryz.ntmps84
  go_wp2
  rw [run_callFunc_extern Tryz.func92 (by kernel_rfl) (by kernel_rfl) (by kernel_rfl) (e := Extern.BytealgCompare.compare) (by kernel_rfl), Lib.run_compareString]
  simp only [Result.andThen]
  rw [Oper.upon_value]
  go_wp2
  go_ret
  exact ⟨rfl, rfl⟩
set_option maxHeartbeats 1000000 in
theorem strcmp_any (a b : ByteArray) (w : World) :
    Calls Tryz.prog 72 #[.string a, .string b] w fun e w' => e = .returned (.int .i64 (compareBytes a.data.toList b.data.toList)) ∧ w' = w := by
  go_enter Tryz.func72, Tryz.ntmps72
  go_wp2_with (go_at_call 84; refine (cmpstr_any _ _ _).mono ?_; rintro e w' ⟨rfl, rfl⟩)
  go_ret
  exact ⟨rfl, rfl⟩

set_option maxHeartbeats 1000000 in
/-- The closure that compares two texts: it lays its two parameters' boxes. -/
theorem keycmp_any (x y : KE) (W : World) : Calls Tryz.prog 71 #[.agg x.enc.toArray, .agg y.enc.toArray] W fun e w' => e = .returned (.int .i64 (KE.cmp x y)) ∧ ∃ q os', w' = grow (W.drewN q) os' := by
  have hcon := fun W' => strcmp_any x.text y.text W'
  unfold KE.cmp
  generalize compareBytes x.text.data.toList y.text.data.toList = r at hcon ⊢
  unfold KE.enc
  go_enter Tryz.func71, Tryz.ntmps71
  go_wp2_with (go_at_call 72; refine (hcon _).mono ?_; rintro e w' ⟨rfl, rfl⟩)
  go_ret
  exact ⟨rfl, 0, _, by rw [alloc_eq_grow, alloc_eq_grow, grow_grow]; rfl⟩
theorem keycmp_lays (blk off size : Nat) (w : World) : CmpLays Tryz.prog 71 #[] KE.enc 7 KE.cmp blk off size w := fun _ _ _ _ x y => keycmp_any x y _

abbrev SW7 (w0 : World) (blk off : Nat) (dk : Array KE) (W : World) : Prop := SWK KE.enc 7 w0 blk off dk W

/-- The seven cells of an element, one by one. -/
theorem cells7 {w0 W : World} {blk off : Nat} {d0 dk : Array KE} (h : SW7 w0 blk off dk W) (R : RowK KE.enc 7 w0 blk off d0) (hs : dk.size = d0.size) (i : Nat) (hi : i < dk.size) :
    ∃ u0 u1 u2 u3 u4 u5 u6 : Value, (dk[i]!).enc = [u0, u1, u2, u3, u4, u5, u6] ∧ ∀ (n : Nat) (os : Array Obj), ((grow (W.drewN n) os).cell? ⟨blk, off + i * 7, none⟩ = some u0 ∧ (grow (W.drewN n) os).cell? ⟨blk, off + i * 7 + 1, none⟩ = some u1 ∧ (grow (W.drewN n) os).cell? ⟨blk, off + i * 7 + 2, none⟩ = some u2 ∧
      (grow (W.drewN n) os).cell? ⟨blk, off + i * 7 + 3, none⟩ = some u3 ∧ (grow (W.drewN n) os).cell? ⟨blk, off + i * 7 + 4, none⟩ = some u4 ∧ (grow (W.drewN n) os).cell? ⟨blk, off + i * 7 + 5, none⟩ = some u5 ∧ (grow (W.drewN n) os).cell? ⟨blk, off + i * 7 + 6, none⟩ = some u6) := by
  refine ⟨_, _, _, _, _, _, _, rfl, fun n os => ?_⟩
  have hc := (h.grown n os).holds R.hblk R.hH hs
  exact ⟨(hc.cell hi (c := 0) (by omega)).1, (hc.cell hi (c := 1) (by omega)).1, (hc.cell hi (c := 2) (by omega)).1, (hc.cell hi (c := 3) (by omega)).1, (hc.cell hi (c := 4) (by omega)).1, (hc.cell hi (c := 5) (by omega)).1, (hc.cell hi (c := 6) (by omega)).1⟩

set_option maxHeartbeats 2000000 in
set_option maxRecDepth 100000 in
/-- swapRange: the exchange of two ranges, apart from one another. -/
theorem swaprange_any {w0 : World} {blk off : Nat} {d0 : Array KE} (R : RowK KE.enc 7 w0 blk off d0) (hsz : d0.size < 4611686018427387904) (fv : Value) (cap a b n : Nat) (d : Array KE) (w : World) (hS : SW7 w0 blk off d w) (hd : d.size = d0.size)
    (hab : a + n ≤ b) (hb : b + n ≤ d.size) :
    Calls Tryz.prog 101 #[.slice (some ⟨blk, off, none⟩) d.size cap, .int .i64 a, .int .i64 b, .int .i64 n, fv] w fun e w' =>
      e = .returned (.tuple #[]) ∧ ∃ d', SW7 w0 blk off d' w' ∧ IsSwp a b n d d' ∧ ∀ lo hi, lo ≤ a → b + n ≤ hi → hi ≤ d.size → PermIn lo hi d d' := by
  have HS : Hid (SW7 w0 blk off d w) := hS
  have HR : Hid (RowK KE.enc 7 w0 blk off d0) := R
  clear hS R
  go_enter Tryz.func101, Tryz.ntmps101
  go_wp2
  go_loopg [10] n (fun g vi wr => ∃ (i : Nat) (dk : Array KE), vi = .int .i64 i ∧ i ≤ n ∧ n - i ≤ g ∧ SW7 w0 blk off dk wr ∧ IsSwp a b i d dk ∧ Hid (∀ lo hi, lo ≤ a → b + n ≤ hi → hi ≤ d.size → PermIn lo hi d dk))
  case atStart => exact ⟨0, d, by go_num, by omega, by omega, HS.out, IsSwp.start _ _ _, fun lo hi _ _ _ => permIn_refl _ _ _⟩
  case round =>
    obtain ⟨i, dk, rfl, hi, hg, hW, hI, HP⟩ := hrel
    have hdk : dk.size = d.size := hI.1
    have HI : Hid (IsSwp a b i d dk) := hI
    clear hI
    by_cases hlt : i < n
    · have hltz : (i : Int) < (n : Int) := by omega
      have ea : IntKind.i64.wrap ((a : Int) + (i : Int)) = ((a + i : Nat) : Int) := by rw [IntKind.wrap_i64]; omega
      have eb : IntKind.i64.wrap ((b : Int) + (i : Int)) = ((b + i : Nat) : Int) := by rw [IntKind.wrap_i64]; omega
      obtain ⟨u0, u1, u2, u3, u4, u5, u6, hu, cu⟩ := cells7 hW HR.out (by omega) (a + i) (by omega)
      obtain ⟨v0, v1, v2, v3, v4, v5, v6, hv, cv⟩ := cells7 hW HR.out (by omega) (b + i) (by omega)
      have s1 := hW.st1 HR.out (by omega) Tryz.prog (a + i) (by omega) dk[b + i]!
      have s2 := hW.st2 HR.out (by omega) Tryz.prog (a + i) (b + i) (by omega) (by omega) dk[b + i]! dk[a + i]!
      have HW : Hid (SW7 w0 blk off dk wr) := hW
      obtain ⟨ca, hca⟩ : ∃ c, c = (dk[a + i]!).enc := ⟨_, rfl⟩
      obtain ⟨cb, hcb⟩ : ∃ c, c = (dk[b + i]!).enc := ⟨_, rfl⟩
      rw [← hcb] at s1
      rw [← hca, ← hcb] at s2
      have hs1 : ca.length = 7 := by rw [hca]; rfl
      have hs2 : cb.length = 7 := by rw [hcb]; rfl
      have fu : #[u0, u1, u2, u3, u4, u5, u6] = ca.toArray := by rw [hca, hu]
      have fv : #[v0, v1, v2, v3, v4, v5, v6] = cb.toArray := by rw [hcb, hv]
      have LT : Hid (ca = (dk[a + i]!).enc ∧ cb = (dk[b + i]!).enc) := ⟨hca, hcb⟩
      obtain ⟨a0, a1, a2, a3, a4, a5, a6⟩ := cu 1 #[]
      obtain ⟨b0, b1, b2, b3, b4, b5, b6⟩ := cv 1 #[]
      rw [grow_empty, World.cell?_drewN] at a0 a1 a2 a3 a4 a5 a6 b0 b1 b2 b3 b4 b5 b6
      have HD : Hid (dk.size = d.size) := hdk
      have za : ((a + i : Nat) : Int) < (d.size : Int) := by omega
      have zb : ((b + i : Nat) : Int) < (d.size : Int) := by omega
      clear hca hcb hW hdk hu hv cu cv
      have mixed : Tryz.prog.follows .mixedOrders = true := by kernel_rfl
      go_wp2_with fail

      go_big_region_o
      all_goals go_wp2
      all_goals
        go_roundg (n - (i + 1))
        case measure => omega
        case rel =>
          refine ⟨i + 1, swp dk (a + i) (b + i), by go_num, by omega, Nat.le_refl _, ?_, HI.out.step (by omega) (by omega), (show Hid _ from fun lo hi h1 h2 h3 => permIn_trans _ _ _ _ _ (HP.out lo hi h1 h2 h3) (swp_permIn _ _ _ _ _ (by omega) (by omega) (by omega) (by omega) (by rw [HD.out]; exact h3)))⟩
          rw [LT.out.1, LT.out.2]
          exact HW.out.swapped HR.out (a + i) (b + i) (by have := HD.out; omega) (by have := HD.out; omega)
    · go_wp2
      have e : i = n := by omega
      subst e
      go_end0
      exact ⟨rfl, dk, hW, HI.out, HP.out⟩

end Go.Proofs.YtclnadjgbpihcaaGreatDoor

