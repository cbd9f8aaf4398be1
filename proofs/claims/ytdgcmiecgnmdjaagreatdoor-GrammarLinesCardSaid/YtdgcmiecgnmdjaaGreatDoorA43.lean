/- Part 43 of what the laws of the grammar rest on. -/
import Derived.Test.YtdgcmiecgnmdjaaGreatDoorA42
set_option linter.all false
set_option maxRecDepth 100000
set_option maxHeartbeats 8000000
namespace Go.Proofs.YtdgcmiecgnmdjaaGreatDoor
open Go.RowKit
theorem zpo {w:World} {v:Value} {ys:List LV} {l:List Rule} (hl:LinesE w v ys l) (hT:Tabs w) (ht:twl l<=9000):Calls Tryz.prog 20 #[v] w (zal true w):=by
 have HJ:=hh9 (znb hl hT ht)
 have HL:=hh9 hl
 have HTW:=hh9 ht
 obtain ⟨a,n,c,rfl⟩:∃ a n c,v=.slice a n c:=by
  obtain ⟨a,c,h,_⟩:=hl.1.slice
  exact ⟨a,_,c,h⟩
 clear hl hT ht
 go_enter Tryz.func20,Tryz.ntmps20
 go_wp2_with fail
 refine HJ.out.mono ?_
 rintro e w1 ⟨v1,ys1,g1,e1,rfl,hJ1,hR1,hb1⟩
 have HB1:=hh9 hb1
 have HJ1:=hh9 hJ1
 have HR1:=hh9 hR1.rules
 have HD:=hh9 (zqu (HL.out.below hb1) HTW.out)
 obtain ⟨a1,n1,c1,rfl⟩:∃ a n c,v1=.slice a n c:=by
  obtain ⟨a,c,h,_⟩:=hR1.1.slice
  exact ⟨a,_,c,h⟩
 clear hb1 hJ1 hR1
 go_wp2_with fail
 refine HD.out.mono ?_
 rintro e w2 ⟨v2,ys2,g2,e2,rfl,hJ2,hR2,hb2⟩
 obtain ⟨rfl,rfl⟩:=hJ2.one HJ1.out
 obtain ⟨a2,n2,c2,rfl⟩:∃ a n c,v2=.slice a n c:=by
  obtain ⟨a,c,h,_⟩:=hR2.1.slice
  exact ⟨a,_,c,h⟩
 have HB2:=hh9 (za0 HB1.out hb2)
 have HS:=hh9 (zw9 (HR1.out.below hb2) hR2)
 clear hb2 hJ2 hR2
 go_wp2_with fail
 refine HS.out.mono ?_
 rintro e w3 ⟨rfl,hb3⟩
 have HB3:=hh9 (za0 HB2.out hb3)
 clear hb3
 go_wp2_with fail
 go_ret
 exact ⟨rfl,HB3.out⟩
theorem zu9 {w:World} {v:Value} {zs:List Int} (hT:Tabs w) (h:zgz w v zs):Calls Tryz.prog 5 #[v] w (zal true w):=by
 have HT:=hh9 hT
 have HH:=hh9 h
 have HA:=hh9 (zxo hT)
 obtain ⟨a0,cap0,hv0,_⟩:=h
 obtain ⟨n0,hn0⟩:∃ n,n=zs.length:=⟨_,rfl⟩
 rw [<- hn0] at hv0
 subst hv0
 clear hT hn0
 go_enter Tryz.func5,Tryz.ntmps5
 go_wp2_with fail
 refine HA.out.mono ?_
 rintro e w1 ⟨rfl,hb1⟩
 have HB1:=hh9 hb1
 have HL:=hh9 (zpn (HH.out.below hb1))
 clear hb1
 go_wp2_with fail
 refine HL.out.mono ?_
 rintro e w2 ⟨v2,ys2,p,rfl,hp,hl2,hb2⟩
 have HB2:=hh9 (za0 HB1.out hb2)
 have htw:=zkt p
 have HS:=hh9 (zpo hl2 (HT.out.below HB2.out) (by omega))
 obtain ⟨a2,n2,c2,hv2⟩:∃ a n c,v2=.slice a n c:=by
  obtain ⟨a,c,h,_⟩:=hl2.1.slice
  exact ⟨a,_,c,h⟩
 subst hv2
 clear hb2 hl2
 go_wp2_with fail
 refine HS.out.mono ?_
 rintro e w3 ⟨rfl,hb3⟩
 have HB3:=hh9 (za0 HB2.out hb3)
 clear hb3
 go_wp2_with fail
 go_ret
 exact ⟨rfl,HB3.out⟩
end Go.Proofs.YtdgcmiecgnmdjaaGreatDoor
