/- Part 45 of what the laws of the grammar rest on. -/
import Derived.Test.YtekjnfldgjcgeaaGreatDoorA37
import Derived.Test.YtekjnfldgjcgeaaGreatDoorA44
set_option linter.all false
set_option maxRecDepth 100000
set_option maxHeartbeats 8000000
namespace Go.Proofs.YtekjnfldgjcgeaaGreatDoor
open Go.RowKit
theorem zpl {w:World} {v:Value} {ys:List LV} {l:List Rule} (hl:LinesE w v ys l) (hT:Tabs w) (ht:twl l<=9000):Calls Tryz.prog 6 #[v] w (zam true w):=by
 have HJ:=hh9 (zn8 hl hT ht)
 have HL:=hh9 hl
 have HTW:=hh9 ht
 obtain ⟨a,n,c,rfl⟩:∃ a n c,v=.slice a n c:=by
  obtain ⟨a,c,h,_⟩:=hl.1.slice
  exact ⟨a,_,c,h⟩
 clear hl hT ht
 go_enter Tryz.func6,Tryz.ntmps6
 go_wp2_with fail
 refine HJ.out.mono ?_
 rintro e w1 ⟨v1,ys1,g1,e1,rfl,hJ1,hR1,hb1⟩
 have HB1:=hh9 hb1
 have HJ1:=hh9 hJ1
 have HR1:=hh9 hR1.rules
 have HD:=hh9 (zqs (HL.out.below hb1) HTW.out)
 obtain ⟨a1,n1,c1,rfl⟩:∃ a n c,v1=.slice a n c:=by
  obtain ⟨a,c,h,_⟩:=hR1.1.slice
  exact ⟨a,_,c,h⟩
 clear hb1 hJ1 hR1
 go_wp2_with fail
 refine HD.out.mono ?_
 rintro e w2 ⟨v2,ys2,g2,e2,rfl,hJ2,hR2,hb2⟩
 obtain ⟨rfl,rfl⟩:=hJ2.one HJ1.out
 obtain ⟨a2,n2,c2,rfl⟩:∃ a n c,v2=.slice a n c:=by
  obtain ⟨a,c,h,_⟩:=hR2.1.slice
  exact ⟨a,_,c,h⟩
 have HB2:=hh9 (za0 HB1.out hb2)
 have HS:=hh9 (zwc (HR1.out.below hb2) hR2)
 clear hb2 hJ2 hR2
 go_wp2_with fail
 refine HS.out.mono ?_
 rintro e w3 ⟨rfl,hb3⟩
 have HB3:=hh9 (za0 HB2.out hb3)
 clear hb3
 go_wp2_with fail
 go_ret
 exact ⟨rfl,HB3.out⟩
end Go.Proofs.YtekjnfldgjcgeaaGreatDoor
