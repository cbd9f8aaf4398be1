/- What the laws of the grammar rest on, more of it, part 3: made by tools/merge5.py out of GCoreL. No condition but those that each says. -/
import Derived.Test.YtpopgjgngbiofaaGreatDoorM0
import Derived.Test.YtpopgjgngbiofaaGreatDoorM1
import Derived.Test.YtpopgjgngbiofaaGreatDoorM2
import Derived.Test.YtpopgjgngbiofaaGreatDoorM3
import Derived.Test.YtpopgjgngbiofaaGreatDoorM4
import Derived.Test.YtpopgjgngbiofaaGreatDoorM5
import Derived.Test.YtpopgjgngbiofaaGreatDoorM6
import Derived.Test.YtpopgjgngbiofaaGreatDoorM7
import Derived.Test.YtpopgjgngbiofaaGreatDoorM8
import Derived.Test.YtpopgjgngbiofaaGreatDoorM9
import Derived.Test.YtpopgjgngbiofaaGreatDoorM10
import Derived.Test.YtpopgjgngbiofaaGreatDoorM11
import Derived.Test.YtpopgjgngbiofaaGreatDoorM12
import Derived.Test.YtpopgjgngbiofaaGreatDoorM13
import Derived.Test.YtpopgjgngbiofaaGreatDoorM14
import Derived.Test.YtpopgjgngbiofaaGreatDoorM15
import Derived.Test.YtpopgjgngbiofaaGreatDoorM16
import Derived.Test.YtpopgjgngbiofaaGreatDoorM17
import Derived.Test.YtpopgjgngbiofaaGreatDoorM18
import Derived.Test.YtpopgjgngbiofaaGreatDoorM19
import Derived.Test.YtpopgjgngbiofaaGreatDoorM20
import Derived.Test.YtpopgjgngbiofaaGreatDoorM21
import Derived.Test.YtpopgjgngbiofaaGreatDoorM22
import Derived.Test.YtpopgjgngbiofaaGreatDoorM23
import Derived.Test.YtpopgjgngbiofaaGreatDoorM24
import Derived.Test.YtpopgjgngbiofaaGreatDoorM25
import Derived.Test.YtpopgjgngbiofaaGreatDoorM26
import Derived.Test.YtpopgjgngbiofaaGreatDoorM27
import Derived.Test.YtpopgjgngbiofaaGreatDoorM28
import Derived.Test.YtpopgjgngbiofaaGreatDoorM29
import Derived.Test.YtpopgjgngbiofaaGreatDoorM30
import Derived.Test.YtpopgjgngbiofaaGreatDoorM31
import Derived.Test.YtpopgjgngbiofaaGreatDoorM32
import Derived.Test.YtpopgjgngbiofaaGreatDoorM33
import Derived.Test.YtpopgjgngbiofaaGreatDoorM34
import Derived.Test.YtpopgjgngbiofaaGreatDoorM35
import Derived.Test.YtpopgjgngbiofaaGreatDoorM36
import Derived.Test.YtpopgjgngbiofaaGreatDoorM37
import Derived.Test.YtpopgjgngbiofaaGreatDoorK0
import Derived.Test.YtpopgjgngbiofaaGreatDoorK1
import Derived.Test.YtpopgjgngbiofaaGreatDoorK2
import Derived.Orders
set_option linter.unusedVariables false
set_option linter.unusedSimpArgs false
set_option maxRecDepth 100000
set_option maxHeartbeats 8000000
namespace Go.Proofs.YtpopgjgngbiofaaGreatDoor
open Go.RowKit
theorem core_univ : (universe5 coreM).length <= 1000000 := by
 have h : ∀ g : List GR, (∀ r ∈ g, (namesM r.expr).length <= 1000) -> (universe5 g).length <= 1000 * g.length := fun g => by
  induction g with
  | nil => intro _; simp [universe5]
  | cons r g ih =>
   intro h
   have h1 := ih (fun r hr => h r (by simp [hr]))
   have h2 := h r (by simp)
   simp only [universe5, List.map_cons, List.flatten_cons, List.length_append, List.length_cons] at h1 ⊢
   omega
 refine Nat.le_trans (h coreM (fun r h => ?_)) (by decide)
 unfold coreM at h
 simp only [List.mem_cons, List.not_mem_nil, or_false] at h
 rcases h with rfl | rfl | rfl | rfl | rfl | rfl | rfl | rfl | rfl | rfl | rfl | rfl | rfl | rfl | rfl | rfl <;> simp [alT, seT, spT, foT, nuT, rfT, namesM]
theorem core5_at {w : World} : Calls Tryz.prog 10 #[] w (fun e w' => ∃ a c ys, e = .returned (.slice a 16 c) /\ RulesX w' (.slice a 16 c) ys coreM /\ Below w.heap.size w w') :=
 core5_any.mono fun e w' ⟨v, ys, he, hX, hb⟩ => by
  obtain ⟨a, c, hv, _⟩ := hX.1.open5
  have hl : coreM.length = 16 := by decide +kernel
  rw [hl] at hv
  subst hv
  exact ⟨a, c, ys, he, hX, hb⟩
theorem coreW_any {x0 : ByteArray} {x1 : Int} {w : World} (hT : Tabs w) (h0 : x0.size <= maxLen) (h1 : 0 <= x1 /\ x1 <= 255) :
  Calls Tryz.prog 3 #[.string x0, .int .u8 x1] w (GivesBool true w) := by
 obtain ⟨m, hm, hm16⟩ : ∃ m : Nat, x1.tmod 16 = m /\ m < 16 := by
  have g1 := Int.tmod_nonneg (b := 16) (a := x1) (by omega)
  have g2 := Int.tmod_lt_of_pos x1 (b := 16) (by omega)
  exact ⟨(x1.tmod 16).toNat, by omega, by omega⟩
 obtain ⟨x, hx, hxc, hxl⟩ := str_any x0
 have HTX : Hid (TextOk x) := ⟨hxc, by unfold maxLen at h0; omega⟩
 have HX := hh9 hx
 have HT := hh9 hT
 clear hT hx hxc hxl h0
 go_enter Tryz.func3, Tryz.ntmps3
 go_wp2_with fail
 refine core5_at.mono ?_
 rintro e w1 ⟨va, vc, ys, rfl, hX, hb1⟩
 obtain ⟨va', vc', hv', hvc, hvn, hrow⟩ := hX.1.open5
 have hl : coreM.length = 16 := by decide +kernel
 rw [hl] at hrow hvc hvn hv'
 injection hv' with e1 e2 e3
 subst e1 e3
 obtain ⟨r, hr⟩ : ∃ r, coreM[m]? = some r := ⟨_, List.getElem?_eq_getElem (by rw [hl]; exact hm16)⟩
 obtain ⟨Y, hY⟩ : ∃ y, ys[m]? = some y := ⟨_, List.getElem?_eq_getElem (by rw [hX.2.1, hl]; exact hm16)⟩
 obtain ⟨hnm, hto, _⟩ := hX.2.2 m Y r hY hr
 obtain ⟨gb, ob, rfl, hgb, hcs⟩ := hrow (by omega)
 have e0 : w1.cell? ⟨gb, ob + (m * 7 + 0), none⟩ = some (.string Y.name) := hcs _ _ ((flatR_at ys m 0 Y hY (by omega)).trans rfl)
 rw [Nat.add_zero, hnm] at e0
 obtain ⟨S, hS⟩ : ∃ S, S = strOf r.name := ⟨_, rfl⟩
 rw [<- hS] at e0
 have HS := hh9 hS
 have HTO := hh9 hto
 have HXX := hh9 (show RulesX w1 (.slice (some ⟨gb, ob, none⟩) 16 vc) ys coreM from hX)
 have HB1 := hh9 hb1
 have HR := hh9 hr
 clear hX hb1 hrow hl hr hY hnm hto hgb hcs hS
 go_wp2_with fail
 refine (awake_any (HT.out.below HB1.out)).mono ?_
 rintro e w2 ⟨rfl, hb2⟩
 have HX2 := hh9 (HXX.out.below hb2)
 have HB2 := hh9 (below_then HB1.out hb2)
 clear hb2
 go_wp2_with fail
 refine (core_any w2).mono ?_
 rintro e w3 ⟨vp, yp, rfl, hP, hb3⟩
 have hPX := hP.x
 obtain ⟨pa, pc, hvp, _⟩ := hPX.1.open5
 rw [show coreM.length = 16 by decide +kernel] at hvp
 subst hvp
 have HX3 := hh9 (HX2.out.below hb3)
 have HP3 := hh9 hPX
 have HB3 := hh9 (below_then HB2.out hb3)
 clear hb3 hP hPX
 go_wp2_with fail
 refine (sameR_any HP3.out.rules HX3.out.rules).mono ?_
 rintro e w4 ⟨rfl, hb4⟩
 have HX4 := hh9 (HX3.out.below hb4)
 have HB4 := hh9 (below_then HB3.out hb4)
 have F1 := hh9 (find_any HX4.out.rules HTX.out)
 rw [<- HX.out] at F1
 clear hb4
 go_wp2_with fail
 refine F1.out.mono ?_
 rintro e w5 ⟨rfl, hb5⟩
 have HX5 := hh9 (HX4.out.below hb5)
 have HB5 := hh9 (below_then HB4.out hb5)
 have F2 := hh9 (find5_any HX5.out.rules HTX.out)
 rw [<- HX.out] at F2
 clear hb5
 go_wp2_with fail
 refine F2.out.mono ?_
 rintro e w6 ⟨rfl, hb6⟩
 have HX6 := hh9 (HX5.out.below hb6)
 have HB6 := hh9 (below_then HB5.out hb6)
 have F3 := hh9 (find_any HX6.out.rules HTO.out)
 rw [<- HS.out] at F3
 have q1 : (findI coreM x == findI coreM x) = true := by simp
 obtain ⟨N1, hN1⟩ : ∃ N, N = findI coreM x := ⟨_, rfl⟩
 clear hb6
 go_wp2_with fail
 refine F3.out.mono ?_
 rintro e w7 ⟨rfl, hb7⟩
 have HX7 := hh9 (HX6.out.below hb7)
 have HB7 := hh9 (below_then HB6.out hb7)
 have F4 := hh9 (find5_any HX7.out.rules HTO.out)
 rw [<- HS.out] at F4
 clear hb7
 go_wp2_with fail
 refine F4.out.mono ?_
 rintro e w8 ⟨rfl, hb8⟩
 have HX8 := hh9 (HX7.out.below hb8)
 have HB8 := hh9 (below_then HB7.out hb8)
 have hsm : ∀ r ∈ coreM, dep r.expr <= 9000 /\ (namesM r.expr).length <= 1000000 := fun r hr => by
  obtain ⟨i, hi⟩ := List.getElem?_of_mem hr
  exact core_small i r hi
 have R1 := hh9 (reach_any HX8.out HTO.out (by decide +kernel) hsm core_univ)
 rw [<- HS.out] at R1
 have HSM := hh9 hsm
 clear hb8 hsm
 go_wp2_with fail
 refine R1.out.mono ?_
 rintro e w9 ⟨v9, L9, rfl, hL9, hr9, _, hb9⟩
 have HX9 := hh9 (HX8.out.below hb9)
 have HB9 := hh9 (below_then HB8.out hb9)
 have R2 := hh9 (reach5_any HX9.out.rules HTO.out (by decide +kernel) (fun r hr => (HSM.out r hr).2) core_univ)
 rw [<- HS.out] at R2
 have HR9 := hh9 hr9
 have HL9 := hh9 hL9
 obtain ⟨a9, n9, c9, hv9⟩ : ∃ a n c, v9 = .slice a n c := by
  rcases row_forms hr9 with ⟨h, _⟩ | ⟨g, cap, h⟩
  ·exact ⟨_, _, _, h⟩
  ·exact ⟨_, _, _, h⟩
 subst hv9
 clear hb9 hr9 hL9
 go_wp2_with fail
 refine R2.out.mono ?_
 rintro e wa ⟨va, La, rfl, hLa, hra, _, hba⟩
 obtain rfl : La = L9 := hLa.one HL9.out
 have HBa := hh9 (below_then HB9.out hba)
 have HRa := hh9 hra
 have HR10 := hh9 (own_below HR9.out hba)
 obtain ⟨aa, na, ca, hva⟩ : ∃ a n c, va = .slice a n c := by
  rcases row_forms hra with ⟨h, _⟩ | ⟨g, cap, h⟩
  ·exact ⟨_, _, _, h⟩
  ·exact ⟨_, _, _, h⟩
 subst hva
 clear hba hra hLa
 go_wp2_with fail
 refine (sameT_any (row_any_of_own HR10.out) (row_any_of_own HRa.out)).mono ?_
 rintro e wb ⟨rfl, hbb⟩
 have HBb := hh9 (below_then HBa.out hbb)
 clear hbb
 go_wp2_with fail
 go_ret
 exact ⟨rfl, HBb.out⟩
end Go.Proofs.YtpopgjgngbiofaaGreatDoor
