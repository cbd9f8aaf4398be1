/- Part 45 of what the laws of the grammar rest on. -/
import Derived.Test.YtahibnnhjahmnaaGreatDoorA44
set_option linter.all false
set_option maxRecDepth 100000
set_option maxHeartbeats 8000000
namespace Go.Proofs.YtahibnnhjahmnaaGreatDoor
open Go.RowKit
theorem zqp{w:World}{v:Value}{ys:List LV}{l:List Rule}(hl:dz w v ys l)(hT:gJ w)(ht:ko l<=9000):Calls Tryz.prog 9 #[v] w (gG true w):=by
 have HJ:=hh9 (TW hl hT ht);have HL:=hh9 hl;have nW:=hh9 ht
 obtain⟨a,n,c,rfl⟩:∃ a n c,v=.slice a n c:=by
  obtain⟨a,c,h,_⟩:=hl.1.slice;exact⟨a,_,c,h⟩
 clear hl hT ht;go_enter Tryz.func9,Tryz.ntmps9;go_wp2_with fail
 refine HJ.out.mono ?_;rintro e w1 ⟨v1,ys1,g1,e1,rfl,hJ1,yQ,hb1⟩;have HB1:=hh9 hb1;have ES:=hh9 hJ1;have HR1:=hh9 yQ.rules;have HD:=hh9 (zs0 (HL.out.below hb1) nW.out)
 obtain⟨a1,n1,c1,rfl⟩:∃ a n c,v1=.slice a n c:=by
  obtain⟨a,c,h,_⟩:=yQ.1.slice;exact⟨a,_,c,h⟩
 clear hb1 hJ1 yQ;go_wp2_with fail
 refine HD.out.mono ?_;rintro e w2 ⟨v2,ys2,g2,e2,rfl,hJ2,hR2,hb2⟩;obtain⟨rfl,rfl⟩:=hJ2.one ES.out
 obtain⟨a2,n2,c2,rfl⟩:∃ a n c,v2=.slice a n c:=by
  obtain⟨a,c,h,_⟩:=hR2.1.slice;exact⟨a,_,c,h⟩
 have HB2:=hh9 (aJ HB1.out hb2);have HS:=hh9 (zxt (HR1.out.below hb2) hR2);clear hb2 hJ2 hR2;go_wp2_with fail
 refine HS.out.mono ?_;rintro e w3 ⟨rfl,hb3⟩;have HB3:=hh9 (aJ HB2.out hb3);clear hb3;go_wp2_with fail
 go_ret;exact⟨rfl,HB3.out⟩
end Go.Proofs.YtahibnnhjahmnaaGreatDoor
