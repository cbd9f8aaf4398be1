/- Part 42 of what the laws of the grammar rest on. -/
import Derived.Test.YtahibnnhjahmnaaGreatDoorA41
set_option linter.all false
set_option maxRecDepth 100000
set_option maxHeartbeats 8000000
namespace Go.Proofs.YtahibnnhjahmnaaGreatDoor
open Go.RowKit
theorem CQ{R p:Nat}{c:Int}{s:ByteArray}{w:World}(h:bL w R s p c)(hs:s.size<=50000)(hp:c=0->p<=s.size) :
  Calls Tryz.prog 42 #[.pointer (some ⟨R,0,none⟩)] w fun e w'=>∃ (b:Bool) (q:Nat),aW R s (.bool b) q c w e w'/\((c=0/\bN (rd s) p=q/\p<=q/\q<=s.size)\/(c≠0/\q=p)):=by
 by_cases hc:c=0
 ·subst hc;refine(Iw h hs (hp rfl)).mono ?_;rintro e w' ⟨q,hsk,h1,h2,hg⟩;exact⟨_,q,hg,.inl ⟨rfl,hsk.eq,h1,h2⟩⟩
 ·refine(OW h hc hs).mono ?_;intro e w' hg;exact⟨_,p,hg,.inr ⟨hc,rfl⟩⟩
theorem IU{R p:Nat}{c:Int}{s:ByteArray}{w:World}(h:bL w R s p c)(x:Int)(hx:x≠0) :
  Calls Tryz.prog 29 #[.pointer (some ⟨R,0,none⟩),.int .i64 x] w fun e w'=>∃ c':Int,aW R s (.tuple #[]) p c' w e w'/\c'≠0/\((c=0/\c'=x)\/(c≠0/\c'=c)):=by
 by_cases hc:c=0
 ·subst hc;refine(tZ h x).mono ?_;intro e w' hg;exact⟨x,hg,hx,.inl ⟨rfl,rfl⟩⟩
 ·refine(FH h hc x).mono ?_;intro e w' hg;exact⟨c,hg,hc,.inr ⟨hc,rfl⟩⟩
theorem PN{R p:Nat}{c0:Int}{s:ByteArray}{w:World}(h:bL w R s p c0)(hs:s.size<=50000)(hp:c0=0->p<=s.size)(hp2:p<=54000) :
  Calls Tryz.prog 43 #[.pointer (some ⟨R,0,none⟩),.int .i64 0] w fun e w'=>∃ (x:XV) (t:Tree) (q:Nat) (c:Int),av w' (fun b=>w.heap.size<=b) x t/\aW R s x.val q c w e w'/\((c0=0/\iF true s 0 .alts p t q c)\/(c0≠0/\c=c0/\q<=p+1)):=by
 by_cases hc:c0=0
 ·subst hc;refine(zz0 (s.size-p) (d:=0) h hs (hp rfl) (by omega) (zbA _)).mono ?_;rintro e w' ⟨x,t,q,c,ht,hg,ho⟩;exact⟨x,t,q,c,ht,hg,.inl ⟨rfl,ho⟩⟩
 ·refine(zqm (d:=0) h hc hs hp2 (by omega)).mono ?_;rintro e w' ⟨x,t,q,ht,hq,hg⟩;exact⟨x,t,q,c0,ht,hg,.inr ⟨hc,rfl,hq⟩⟩
def wE(s:ByteArray)(p:Nat)(c:Int):Prop:=(aH (rd s p)=false/\c=20)\/(aH (rd s p)=true/\bU (rd s) p (.err c))
def Bd(s:ByteArray)(p:Nat)(r:Rule)(q:Nat)(c:Int):Prop :=
 (c=0/\p<q/\q<=s.size/\aH (rd s p)=true/\bU (rd s) p (.ok r q))\/(c≠0/\q<=200000/\wE s p c)
def Er(R:Nat)(s:ByteArray)(p:Nat)(w:World)(e:Ending)(w':World):Prop :=
 ∃ (y:LV) (r:Rule) (q:Nat) (c:Int),tH w' (fun b=>w.heap.size<=b) y r/\aW R s y.val q c w e w'/\Bd s p r q c
theorem qe1{s:ByteArray}{p q:Nat}{x:List Int}(hp:p<=s.size)(ha:aH (rd s p)=true)(h:lU (rd s) p=.ok x q):p<q:=by
 have h1:=(E8 hp h).1
 have hq:q=jC dM (rd s) p:=by
  unfold lU at h;split at h
  ·cases h
  ·cases h;rfl
 obtain⟨hr,_⟩:=yT (P:=dM) (by decide) hp;by_cases g:p=q
 ·have h2:=hr.stop;rw[<- hq,<- g]at h2;unfold dM at h2;rw[ha]at h2;simp at h2
 ·omega
theorem zz1{R p:Nat}{s:ByteArray}{w:World}(h:bL w R s p 0)(hs:s.size<=50000)(hp:p<=s.size) :
  Calls Tryz.prog 41 #[.pointer (some ⟨R,0,none⟩)] w fun e w'=>∃ (x:List Int) (q:Nat) (c:Int),aW R s (.string (ak x)) q c w e w'/\q<=s.size /\
   ((c=0/\p<q/\aH (rd s p)=true/\lU (rd s) p=.ok x q)\/(c≠0/\wE s p c)):=by
 refine(zpw h hs hp).mono ?_;rintro e w' (⟨h1,h2⟩|⟨h1,x,q,h2,h3⟩|⟨h1,h2,x,q,h3,h4⟩)
 ·exact⟨[],p,20,h2,hp,.inr ⟨by omega,.inl ⟨h1,rfl⟩⟩⟩
 ·exact⟨x,q,0,h3,(E8 hp h2).2,.inl ⟨rfl,qe1 hp h1 h2,h1,h2⟩⟩
 ·exact⟨x,q,2,h4,h3,.inr ⟨by omega,.inr ⟨h1,.name h2⟩⟩⟩
theorem zig(s:ByteArray)(p:Nat)(hp:p<=60000)(hs:s.size<=50000):-1<=pQ (rd s) p/\pQ (rd s) p<=60000:=by
 cases h:eH (rd s) p with
 |none=>rw[FI h];omega
 |some e =>
  rw[zI h];by_cases g:p<=s.size
  ·have:=qI g h;omega
  ·have h0:rd s p=-1:=kL (by omega);unfold eH ji at h;rw[h0]at h;simp[h0]at h;omega
def om(R:Nat)(s:ByteArray)(L:Nat)(w W:World)(cs:Array Value)(q:Nat)(c:Int):Prop:=jF W w.heap.size Kr/\jF W L cs/\bL W R s q c/\w.grownBy W (some R)/\w.heap.size+1<=L
theorem om.grown{R:Nat}{s:ByteArray}{L:Nat}{w W W':World}{cs:Array Value}{q q':Nat}{c c':Int}(h:om R s L w W cs q c)(hg:W.grownBy W' (some R))(ha:bL W' R s q' c')(hR:R<w.heap.size):om R s L w W' cs q' c' :=
 ⟨h.1.grown hg (by omega),h.2.1.grown hg (by have:=h.2.2.2.2;omega),ha,h.2.2.2.1.trans hg,h.2.2.2.2⟩
theorem om.below{R:Nat}{s:ByteArray}{L:Nat}{w W W':World}{cs:Array Value}{q:Nat}{c:Int}(h:om R s L w W cs q c)(hb:Below W.heap.size W W'):om R s L w W' cs q c :=
 ⟨h.1.under hb,h.2.1.under hb,h.2.2.1.below hb,dw h.2.2.2.1 hb,h.2.2.2.2⟩
theorem om.put{R:Nat}{s:ByteArray}{L:Nat}{w W:World}{cs:Array Value}{q q':Nat}{c:Int}(h:om R s L w W cs q c)(hR:R<w.heap.size){x:Int}(hx:x=q'):om R s L w (W.setCell ⟨R,1,none⟩ (.int .i64 x)) cs q' c :=
 h.grown (fu (iq W (some R)) 1 (.int .i64 x)) (h.2.2.1.put hx) hR
theorem om.set{R:Nat}{s:ByteArray}{L:Nat}{w W:World}{cs:Array Value}{q:Nat}{c:Int}(h:om R s L w W cs q c)(hR:R<w.heap.size)(j:Nat)(v:Value):om R s L w (W.setCell ⟨L,j,none⟩ v) (cs.setIfInBounds j v) q c :=
 ⟨h.1.other _ (by have:=h.2.2.2.2;omega),h.2.1.set _,h.2.2.1.kI (by have:=h.2.2.2.2;omega) _ _,II h.2.2.2.1 (by have:=h.2.2.2.2;omega) _ _,h.2.2.2.2⟩
theorem om.row{R:Nat}{s:ByteArray}{L:Nat}{w W:World}{cs:Array Value}{q:Nat}{c:Int}(h:om R s L w W cs q c)(hR:R<w.heap.size)(cs':Array Value)(hs:cs'.size=8):om R s L w (W.setRow L cs') cs' q c :=
 ⟨h.1.Ce _ (by have:=h.2.2.2.2;omega),h.2.1.row _ hs,h.2.2.1.aj (by have:=h.2.2.2.2;omega) _,dY h.2.2.2.1 (by have:=h.2.2.2.2;omega) _,h.2.2.2.2⟩
theorem Es{R:Nat}{s:ByteArray}{L:Nat}{w W:World}{x:List Int}{m:Bool}{X:XV}{t:Tree}{p q:Nat}{c:Int}(h:om R s L w W (LV.arr ⟨ak x,m,X⟩) q c)(hR:R<w.heap.size)(ht:av W (fun b=>w.heap.size+1<=b) X t)(ho:Bd s p ⟨x,m,t⟩ q c) :
  Er R s p w (.returned (LV.val ⟨ak x,m,X⟩)) (W.setRow w.heap.size (LV.arr ⟨ak x,m,X⟩)) :=
 ⟨_,⟨x,m,t⟩,q,c,⟨rfl,rfl,(ht.aj (fun b hb=>by omega) _).weak (fun b hb _=>by omega)⟩,⟨rfl,h.2.2.1.aj (by omega) _,dY h.2.2.2.1 (zbA _) _⟩,ho⟩
theorem PO(x:List Int)(m:Bool):((LV.arr ⟨ak x,false,⟨0,⟨#[]⟩,.slice none 0 0,0,0,.slice none 0 0⟩⟩).setIfInBounds 1 (.bool m)).toList.take 2=[.string (ak x),.bool m]:=rfl
def qfd(s:ByteArray)(p:Nat)(x:List Int)(m:Bool)(q3:Nat)(c2:Int):Prop :=
 (c2=0->∀ c,aK (rd s) .alts 0 (bN (rd s) q3) (.err c)->wE s p c)/\(c2≠0->wE s p c2) /\
 (c2=0->∀ t q',aK (rd s) .alts 0 (bN (rd s) q3) (.ok t q')->eH (rd s) q'=none->wE s p 20) /\
 (c2=0->∀ t q' e,aK (rd s) .alts 0 (bN (rd s) q3) (.ok t q')->eH (rd s) q'=some e->p<q3/\aH (rd s p)=true/\bU (rd s) p (.ok ⟨x,m,t⟩ e))
theorem PS{s:ByteArray}{p q1 q2 q3:Nat}{x:List Int}{m:Bool}{c1 c2:Int}(hno:(c1=0/\p<q1/\aH (rd s p)=true/\lU (rd s) p=.ok x q1)\/(c1≠0/\wE s p c1))
  (hsk:(c1=0/\bN (rd s) q1=q2/\q1<=q2/\q2<=s.size)\/(c1≠0/\q2=q1)) (nK:(rd s q2=61/\c2=c1)\/(rd s q2≠61/\c2≠0/\((c1=0/\c2=20)\/(c1≠0/\c2=c1))))
  (hm:(m=true/\rd s (q2+1)=47/\q3=q2+2)\/(m=false/\rd s (q2+1)≠47/\q3=q2+1)):qfd s p x m q3 c2/\(c2=0->q3<=s.size):=by
 have key:c2=0->c1=0/\rd s (bN (rd s) q1)=61/\q3=iB (rd s) q1/\m=decide (rd s (bN (rd s) q1+1)=47)/\p<q3/\aH (rd s p)=true/\lU (rd s) p=.ok x q1/\q3<=s.size:=by
  intro g;rcases nK with ⟨a1,a2⟩|⟨_,a2,_⟩
  ·have g1:c1=0:=by rw[<- a2];exact g
   rcases hno with ⟨_,b1,b2,b3⟩|⟨b1,_⟩
   ·rcases hsk with ⟨_,d1,d2,d3⟩|⟨d1,_⟩
    ·have hlt:=fP (by omega) a1;rcases hm with ⟨rfl,e1,rfl⟩|⟨rfl,e1,rfl⟩
     ·have hlt2:=fP (by omega) e1;refine⟨g1,by rw[d1];exact a1,?_,?_,by omega,b2,b3,by omega⟩
      ·unfold iB;rw[d1,if_pos e1]
      ·rw[d1];exact(zbN e1).symm
     ·refine⟨g1,by rw[d1];exact a1,?_,?_,by omega,b2,b3,by omega⟩
      ·unfold iB;rw[d1,if_neg e1]
      ·rw[d1];exact(zbM e1).symm
    ·exact absurd g1 d1
   ·exact absurd g1 b1
  ·exact absurd g a2
 refine⟨⟨fun g c ha=>?_,fun g=>?_,fun g t q' ha hl=>?_,fun g t q' e ha hl=>?_⟩,fun g=>(key g).2.2.2.2.2.2.2⟩
 ·obtain⟨_,a1,a2,a3,a4,a5,a6,_⟩:=key g;rw[a2]at ha;exact .inr ⟨a5,.err a6 a1 ha⟩
 ·rcases hno with ⟨b0,b1,b2,b3⟩|⟨b1,b2⟩
  ·rcases nK with ⟨a1,a2⟩|⟨a1,a2,⟨_,a3⟩|⟨a3,_⟩⟩
   ·exact absurd (a2.trans b0) g
   ·rw[a3];rcases hsk with ⟨_,d1,_⟩|⟨d1,_⟩
    ·exact .inr ⟨b2,.sj b3 (by rw[d1];exact a1)⟩
    ·exact absurd b0 d1
   ·exact absurd b0 a3
  ·rcases nK with ⟨a1,a2⟩|⟨a1,a2,⟨a3,_⟩|⟨_,a3⟩⟩
   ·rw[a2];exact b2
   ·exact absurd a3 b1
   ·rw[a3];exact b2
 ·obtain⟨_,a1,a2,a3,a4,a5,a6,_⟩:=key g;rw[a2]at ha;exact .inr ⟨a5,.mD a6 a1 ha hl⟩
 ·obtain⟨_,a1,a2,a3,a4,a5,a6,_⟩:=key g;rw[a2]at ha;rw[a3];exact⟨a4,a5,.ok a6 a1 ha hl⟩
theorem zz2{R p:Nat}{s:ByteArray}{w:World}(h:bL w R s p 0)(hs:s.size<=50000)(hp:p<=s.size) :
  Calls Tryz.prog 28 #[.pointer (some ⟨R,0,none⟩)] w (Er R s p w):=by
 have hR:=h.lt;have Ky:=hh9 (Kt w);have HA:=hh9 (h.alloc (.cells #[.string ⟨#[]⟩,.bool false,.int .i64 0,.string ⟨#[]⟩,.slice none 0 0,.int .i64 0,.int .i64 0,.slice none 0 0] 31));have HG:=hh9 (World.grownBy_alloc w (.cells #[.string ⟨#[]⟩,.bool false,.int .i64 0,.string ⟨#[]⟩,.slice none 0 0,.int .i64 0,.int .i64 0,.slice none 0 0] 31) (some R));clear h;go_enter Tryz.func28,Tryz.ntmps28;go_wp2_with fail
 refine(zz1 HA.out hs hp).mono ?_;rintro e w1 ⟨x,q1,c1,⟨rfl,ha,hg⟩,hq1,hno⟩;have lq:=hh9 hno;have hz1:w.heap.size+1<=w1.heap.size:=by have:=hg.size;simp at this;omega
 obtain⟨L,hL⟩:∃ L,w1.heap.size=L:=⟨_,rfl⟩
 have Il:=hh9 hL;obtain⟨W1,hW1⟩:∃ W1,W1=(w1.alloc (.cells #[.string ⟨#[]⟩,.bool false,.int .i64 0,.string ⟨#[]⟩,.slice none 0 0,.int .i64 0,.int .i64 0,.slice none 0 0] 31)).setRow L (LV.arr ⟨ak x,false,⟨0,⟨#[]⟩,.slice none 0 0,0,0,.slice none 0 0⟩⟩):=⟨_,rfl⟩
 have HI1:Hid (om R s L w W1 (LV.arr ⟨ak x,false,⟨0,⟨#[]⟩,.slice none 0 0,0,0,.slice none 0 0⟩⟩) q1 c1):=by
  rw[hW1,<- hL];exact⟨(Yt (Ky.out.grown hg (by omega)) _).Ce _ (by omega),(Kt w1).row _ rfl,(ha.alloc _).aj (by omega) _,dY (dn (HG.out.trans hg) _) (by omega) _,by omega⟩
 have HW1:=hh9 hW1;clear ha hg hno hL hW1 HA HG Ky;go_wp2_with (refine yU rfl _ _ rfl w1.heap.size ⟨ak x,false,⟨0,⟨#[]⟩,.slice none 0 0,0,0,.slice none 0 0⟩⟩ _ rfl rfl (Kt w1) rfl rfl ?_)
 rw[Il.out,<- HW1.out];clear HW1 Il hz1;refine(CQ HI1.out.2.2.1 hs (fun _=>hq1)).mono ?_;rintro e w2 ⟨b2,q2,⟨rfl,ha,hg⟩,hsk⟩;have HI2:=hh9 (HI1.out.grown hg ha hR);have hq2:q2<=s.size:=by rcases hsk with g|g<;>omega
 have oN:=hh9 hsk;clear ha hg hsk HI1;by_cases nK:rd s q2=61
 ·have wZ:=hh9 nK;obtain⟨c2,hc2⟩:∃ c2,c2=c1:=⟨_,rfl⟩
  have vU:Hid ((rd s q2=61/\c2=c1)\/(rd s q2≠61/\c2≠0/\((c1=0/\c2=20)\/(c1≠0/\c2=c1)))):=.inl ⟨nK,hc2⟩;have HC:=hh9 hc2;clear nK hc2;go_wp2_with fail
  refine(aQ HI2.out.2.2.1 hs (by omega) _ wZ.out).mono ?_;rintro e w3 ⟨rfl,hb⟩;have HI3:=hh9 (HI2.out.below hb);rw[<- HC.out]at HI3;clear hb HI2 HC wZ;obtain⟨d0,d1,d2,y0,y1,y2⟩:=HI3.out.2.2.1.cells;have xS:=hh9 (HI3.out.put hR (x:=(q2:Int)+1) (q':=q2+1) (by omega));obtain⟨W5,yS⟩:∃ W5,W5=w3.setCell ⟨R,1,none⟩ (.int .i64 ((q2:Int)+1)):=⟨_,rfl⟩
  rw[<- yS]at xS;have zX:=hh9 yS;clear yS;obtain⟨p2,hp2⟩:∃ p2,q2+1=p2:=⟨_,rfl⟩
  rw[hp2]at xS;have fZ:=hh9 hp2;have Vi:p2<=q2+1/\q2+1<=p2:=by omega
  clear hp2;by_cases h47:rd s p2=47
  ·have uU:=hh9 h47;obtain⟨q3,hq3⟩:∃ q3,p2+1=q3:=⟨_,rfl⟩
   have Gt:q3<=51000:=by omega
   have hst:=PS (m:=true) (q3:=q3) lq.out oN.out vU.out (.inl ⟨rfl,by rw[fZ.out];exact h47,by omega⟩);have jq:=hh9 hst.1;have uG:=hh9 hst.2;have Gu:(p2:Int)+1=(q3:Int):=by omega
   clear h47 hst hq3;go_wp2_with fail
   rw[<- zX.out];refine(aQ xS.out.2.2.1 hs (by omega) _ uU.out).mono ?_;rintro e w6 ⟨rfl,hb⟩;have qD:=hh9 (xS.out.below hb);clear hb zX d0 d1 d2 y0 y1 y2;obtain⟨k1,l1⟩:=qD.out.2.1.cell 1 _ rfl;obtain⟨d0,d1,d2,y0,y1,y2⟩:=(qD.out.set hR 1 (.bool true)).2.2.1.cells;obtain⟨k2,l2⟩:=(qD.out.set hR 1 (.bool true)).2.1.cell 1 _ rfl;obtain⟨W,hW⟩:∃ W,W=(w6.setCell ⟨L,1,none⟩ (.bool true)).setCell ⟨R,1,none⟩ (.int .i64 (q3:Int)):=⟨_,rfl⟩
   have HI:Hid (om R s L w W ((LV.arr ⟨ak x,false,⟨0,⟨#[]⟩,.slice none 0 0,0,0,.slice none 0 0⟩⟩).setIfInBounds 1 (.bool true)) q3 c2):=by rw[hW];exact(qD.out.set hR 1 (.bool true)).put hR rfl
   have HW:=hh9 hW;clear hW;go_wp2_with fail
   rw[<- HW.out];clear HW k1 l1 k2 l2 d0 d1 d2 y0 y1 y2 qD Gu;go_wp2_with fail
   refine(CQ HI.out.2.2.1 hs uG.out).mono ?_;rintro e w7 ⟨b7,q4,⟨rfl,ha,hg⟩,iG⟩;have nC:=hh9 (HI.out.grown hg ha hR);have hq4:q4<=51000:=by rcases iG with g|g<;>omega
   have rY:Hid (c2=0->q4<=s.size):=fun g=>by rcases iG with g2|g2<;>omega
   have kr:=hh9 iG;clear ha hg iG HI;go_wp2_with fail
   refine(PN nC.out.2.2.1 hs rY.out (by omega)).mono ?_;rintro e w8 ⟨X,t,q5,c5,ht,⟨rfl,ha,hg⟩,hout⟩;have H2:=hh9 (fq ht);have H5:=hh9 (eU ht);have hw7:w.heap.size+1<=w7.heap.size:=by have:=nC.out.2.1.lt;have:=nC.out.2.2.2.2;omega
   have hL7:=nC.out.2.1.lt;have vL:=hh9 (nC.out.grown hg ha hR)
   have uh:Hid (c5=0->q5<=s.size):=fun g=>by
    rcases hout with ⟨_,⟨_,_,g2,_⟩|⟨g2,_⟩⟩|⟨g2,g3,_⟩
    ·exact g2
    ·exact absurd g g2
    ·exact absurd (g3.symm.trans g) g2
   have yA:q5<=52000:=by
    rcases hout with ⟨_,⟨_,_,g2,_⟩|⟨_,g2,_⟩⟩|⟨_,_,g2⟩<;>omega
   have nD:Hid (c5≠0->wE s p c5):=fun g=>by
    rcases hout with ⟨g1,⟨g2,_⟩|⟨_,_,g3⟩⟩|⟨g2,g3,_⟩
    ·exact absurd g2 g
    ·exact jq.out.1 g1 _ (kr.out.elim (fun h3=>by rw[h3.2.1];exact g3) (fun h3=>absurd g1 h3.1))
    ·rw[g3];exact jq.out.2.1 g2
   have hok:c5=0->c2=0/\aK (rd s) .alts 0 (bN (rd s) q3) (.ok t (bN (rd s) q5))/\q3<=q5:=fun g=>by
    rcases hout with ⟨g1,⟨_,g2,_,g3⟩|⟨g2,_⟩⟩|⟨g2,g3,_⟩
    ·rcases kr.out with ⟨_,h3,h4,_⟩|⟨h3,_⟩
     ·exact⟨g1,by rw[h3];exact g3,by omega⟩
     ·exact absurd g1 h3
    ·exact absurd g g2
    ·exact absurd (g3.symm.trans g) g2
   have lM:Hid (c5=0->eH (rd s) (bN (rd s) q5)=none->wE s p 20):=fun g h=>by
    obtain⟨a1,a2,_⟩:=hok g;exact jq.out.2.2.1 a1 t _ a2 h
   have Gv:Hid (c5=0->∀ e,eH (rd s) (bN (rd s) q5)=some e->p<q5/\aH (rd s p)=true/\bU (rd s) p (.ok ⟨x,true,t⟩ e)):=fun g e h=>by
    obtain⟨a1,a2,a3⟩:=hok g;have a4:=jq.out.2.2.2 a1 t _ e a2 h;exact⟨by have:=a4.1;omega,a4.2⟩
   have HT:Hid (av (w8.setRow L #[.string (ak x),.bool true,.int .i64 X.kind,.string X.text,X.ns,.int .i64 X.lo,.int .i64 X.hi,X.ks]) (fun b=>w.heap.size+1<=b/\True) X t):=by
    have h1:=ht.weak (P':=fun b=>w.heap.size+1<=b/\b≠L) (fun b hP _=>⟨by omega,by omega⟩);exact(h1.aj (fun b hP=>hP.2) _).weak (fun b hP _=>⟨hP.1,trivial⟩)
   have zY:=hh9 vL.out.2.1;have HI:Hid (om R s L w (w8.setRow L #[.string (ak x),.bool true,.int .i64 X.kind,.string X.text,X.ns,.int .i64 X.lo,.int .i64 X.hi,X.ks]) (LV.arr ⟨ak x,true,X⟩) q5 c5):=vL.out.row hR _ rfl;clear ht ha hg hout hok nC vL jq kr rY uG;go_wp2_with (refine Ib rfl _ _ rfl L X _ _ _ rfl rfl zY.out (PO x true) H2.out H5.out ?_)
   obtain⟨Vj,hw8⟩:∃ y,y=w8.setRow L #[.string (ak x),.bool true,.int .i64 X.kind,.string X.text,X.ns,.int .i64 X.lo,.int .i64 X.hi,X.ks]:=⟨_,rfl⟩
   rw[<- hw8]at HT HI ⊢;clear hw8 zY;go_wp2_with fail
   refine(CQ HI.out.2.2.1 hs uh.out).mono ?_;rintro e w9 ⟨b9,q6,⟨rfl,ha,hg⟩,lN⟩;have vM:=hh9 (HI.out.grown hg ha hR);have rF:=hh9 (HT.out.kept (P':=fun b=>w.heap.size+1<=b) (fun b hP hl=>⟨hg.block b hl (fun e=>by have:=zbB e;omega),hP.1⟩) hg.size);have FZ:q6<=52000:=by rcases lN with g|g<;>omega
   have lQ:=hh9 lN;clear ha hg lN HI HT;go_wp2_with fail
   refine(A9 vM.out.2.2.1 hs (by omega)).mono ?_;rintro e Fq ⟨rfl,hb⟩;have gD:=hh9 (vM.out.below hb);have iE:=hh9 (rF.out.under hb);clear hb vM rF;obtain⟨hn1,hn2⟩:=zig s q6 (by omega) hs;obtain⟨N,hN⟩:∃ N,pQ (rd s) q6=N:=⟨_,rfl⟩
   rw[hN]at hn1 hn2 ⊢;have HN:=hh9 hN;clear hN;by_cases hneg:N<0
   ·have hmx:max N 0=0:=by omega
    go_wp2_with fail
    refine(IU gD.out.2.2.1 20 (by omega)).mono ?_;rintro e Vk ⟨c7,⟨rfl,ha,hg⟩,Bf,hcc⟩;have pz:=hh9 (gD.out.grown hg ha hR);have vN:=hh9 (iE.out.kept (P':=fun b=>w.heap.size+1<=b) (fun b hP hl=>⟨hg.block b hl (fun e=>by have:=zbB e;omega),hP⟩) hg.size)
    have ay:Hid (Bd s p ⟨x,true,t⟩ q6 c7):=by
     refine .inr ⟨Bf,by omega,?_⟩;rcases hcc with ⟨g1,rfl⟩|⟨g1,rfl⟩
     ·exact lM.out g1 (by
       have h1:=lQ.out;have h2:=HN.out;rcases h1 with ⟨_,h3,_⟩|⟨h3,_⟩
       ·rw[h3]
        cases h4:eH (rd s) q6 with
        |none=>rfl
        |some e =>
         rw[zI h4]at h2;have:=qI (s:=s) (p:=q6) (by rcases lQ.out with g|g<;>omega) h4;omega
       ·exact absurd g1 h3)
     ·exact nD.out g1
    clear ha hg hcc gD iE;obtain⟨d0,d1,d2,y0,y1,y2⟩:=pz.out.2.2.1.cells;have eY:=hh9 (pz.out.put hR (x:=(q6:Int)) (q':=q6) rfl);have lS:=hh9 (vN.out.cell (R:=R) (k:=1) (v:=.int .i64 (q6:Int)) (fun b hb=>by omega));have lT:=hh9 eY.out.2.1;have gQ:=hh9 eY.out.1
    go_wp2_with (first
     |(refine AO rfl _ rfl L ⟨ak x,true,X⟩ rfl lT.out ?_)
     |(refine yU rfl _ _ rfl w.heap.size ⟨ak x,true,X⟩ _ rfl rfl gQ.out H2.out H5.out ?_))
    exact bodyPost_ret_by (AP rfl _ _ w.heap.size ⟨ak x,true,X⟩ _ rfl gQ.out) rfl (Es eY.out hR lS.out ay.out)
   ·have hmx:max N 0=N:=by omega
    obtain⟨q8,hq8⟩:∃ q8:Nat,(q6:Int)+N=(q8:Int):=⟨(q6+N.toNat),by omega⟩
    have ay:Hid (Bd s p ⟨x,true,t⟩ q8 c5):=by
     by_cases g1:c5=0
     ·rcases lQ.out with ⟨_,h3,h4,h5⟩|⟨h3,_⟩
      ·cases h6:eH (rd s) q6 with
       |none =>
        have h7:=HN.out;rw[FI h6]at h7;omega
       |some e =>
        have h7:=HN.out;rw[zI h6]at h7;have h8:=qI (s:=s) (p:=q6) h5 h6;have h9:e=q8:=by omega
        rw[g1];have h10:=Gv.out g1 e (by rw[h3];exact h6);rw[h9]at h10;exact .inl ⟨rfl,by have:=h10.1;omega,by omega,h10.2⟩
      ·exact absurd g1 h3
     ·exact .inr ⟨g1,by omega,nD.out g1⟩
    obtain⟨d0,d1,d2,y0,y1,y2⟩:=gD.out.2.2.1.cells;have eY:=hh9 (gD.out.put hR (x:=(q8:Int)) (q':=q8) rfl);have lS:=hh9 (iE.out.cell (R:=R) (k:=1) (v:=.int .i64 (q8:Int)) (fun b hb=>by omega));have lT:=hh9 eY.out.2.1;have gQ:=hh9 eY.out.1;clear gD iE
    go_wp2_with (first
     |(refine AO rfl _ rfl L ⟨ak x,true,X⟩ rfl lT.out ?_)
     |(refine yU rfl _ _ rfl w.heap.size ⟨ak x,true,X⟩ _ rfl rfl gQ.out H2.out H5.out ?_))
    exact bodyPost_ret_by (AP rfl _ _ w.heap.size ⟨ak x,true,X⟩ _ rfl gQ.out) rfl (Es eY.out hR lS.out ay.out)
  ·obtain⟨Y,hY⟩:∃ y,rd s p2=y:=⟨_,rfl⟩
   have qy:(Y==47)=false:=by rw[<- hY];simpa using h47
   have HY:=hh9 hY;obtain⟨q3,hq3⟩:∃ q3,p2=q3:=⟨_,rfl⟩
   have hst:=PS (m:=false) (q3:=q3) lq.out oN.out vU.out (.inr ⟨rfl,by rw[fZ.out];exact h47,by omega⟩);have jq:=hh9 hst.1;have uG:=hh9 hst.2;have zZ:=hh9 hq3;clear h47 hst hY hq3;go_wp2_with fail
   rw[<- zX.out];refine(aQ xS.out.2.2.1 hs (by omega) _ HY.out).mono ?_;rintro e w6 ⟨rfl,hb⟩;have qD:=hh9 (xS.out.below hb);clear hb zX d0 d1 d2 y0 y1 y2;obtain⟨k1,l1⟩:=qD.out.2.1.cell 1 _ rfl;obtain⟨k2,l2⟩:=(qD.out.set hR 1 (.bool false)).2.1.cell 1 _ rfl;obtain⟨W,hW⟩:∃ W,W=w6.setCell ⟨L,1,none⟩ (.bool false):=⟨_,rfl⟩
   have HI:Hid (om R s L w W ((LV.arr ⟨ak x,false,⟨0,⟨#[]⟩,.slice none 0 0,0,0,.slice none 0 0⟩⟩).setIfInBounds 1 (.bool false)) q3 c2):=by rw[hW,<- zZ.out];exact qD.out.set hR 1 (.bool false)
   have HW:=hh9 hW;have Gt:q3<=51000:=by have:=zZ.out;omega
   clear hW;go_wp2_with fail
   rw[<- HW.out];clear HW k1 l1 k2 l2 qD;go_wp2_with fail
   refine(CQ HI.out.2.2.1 hs uG.out).mono ?_;rintro e w7 ⟨b7,q4,⟨rfl,ha,hg⟩,iG⟩;have nC:=hh9 (HI.out.grown hg ha hR);have hq4:q4<=51000:=by rcases iG with g|g<;>omega
   have rY:Hid (c2=0->q4<=s.size):=fun g=>by rcases iG with g2|g2<;>omega
   have kr:=hh9 iG;clear ha hg iG HI;go_wp2_with fail
   refine(PN nC.out.2.2.1 hs rY.out (by omega)).mono ?_;rintro e w8 ⟨X,t,q5,c5,ht,⟨rfl,ha,hg⟩,hout⟩;have H2:=hh9 (fq ht);have H5:=hh9 (eU ht);have hw7:w.heap.size+1<=w7.heap.size:=by have:=nC.out.2.1.lt;have:=nC.out.2.2.2.2;omega
   have hL7:=nC.out.2.1.lt;have vL:=hh9 (nC.out.grown hg ha hR)
   have uh:Hid (c5=0->q5<=s.size):=fun g=>by
    rcases hout with ⟨_,⟨_,_,g2,_⟩|⟨g2,_⟩⟩|⟨g2,g3,_⟩
    ·exact g2
    ·exact absurd g g2
    ·exact absurd (g3.symm.trans g) g2
   have yA:q5<=52000:=by
    rcases hout with ⟨_,⟨_,_,g2,_⟩|⟨_,g2,_⟩⟩|⟨_,_,g2⟩<;>omega
   have nD:Hid (c5≠0->wE s p c5):=fun g=>by
    rcases hout with ⟨g1,⟨g2,_⟩|⟨_,_,g3⟩⟩|⟨g2,g3,_⟩
    ·exact absurd g2 g
    ·exact jq.out.1 g1 _ (kr.out.elim (fun h3=>by rw[h3.2.1];exact g3) (fun h3=>absurd g1 h3.1))
    ·rw[g3];exact jq.out.2.1 g2
   have hok:c5=0->c2=0/\aK (rd s) .alts 0 (bN (rd s) q3) (.ok t (bN (rd s) q5))/\q3<=q5:=fun g=>by
    rcases hout with ⟨g1,⟨_,g2,_,g3⟩|⟨g2,_⟩⟩|⟨g2,g3,_⟩
    ·rcases kr.out with ⟨_,h3,h4,_⟩|⟨h3,_⟩
     ·exact⟨g1,by rw[h3];exact g3,by omega⟩
     ·exact absurd g1 h3
    ·exact absurd g g2
    ·exact absurd (g3.symm.trans g) g2
   have lM:Hid (c5=0->eH (rd s) (bN (rd s) q5)=none->wE s p 20):=fun g h=>by
    obtain⟨a1,a2,_⟩:=hok g;exact jq.out.2.2.1 a1 t _ a2 h
   have Gv:Hid (c5=0->∀ e,eH (rd s) (bN (rd s) q5)=some e->p<q5/\aH (rd s p)=true/\bU (rd s) p (.ok ⟨x,false,t⟩ e)):=fun g e h=>by
    obtain⟨a1,a2,a3⟩:=hok g;have a4:=jq.out.2.2.2 a1 t _ e a2 h;exact⟨by have:=a4.1;omega,a4.2⟩
   have HT:Hid (av (w8.setRow L #[.string (ak x),.bool false,.int .i64 X.kind,.string X.text,X.ns,.int .i64 X.lo,.int .i64 X.hi,X.ks]) (fun b=>w.heap.size+1<=b/\True) X t):=by
    have h1:=ht.weak (P':=fun b=>w.heap.size+1<=b/\b≠L) (fun b hP _=>⟨by omega,by omega⟩);exact(h1.aj (fun b hP=>hP.2) _).weak (fun b hP _=>⟨hP.1,trivial⟩)
   have zY:=hh9 vL.out.2.1;have HI:Hid (om R s L w (w8.setRow L #[.string (ak x),.bool false,.int .i64 X.kind,.string X.text,X.ns,.int .i64 X.lo,.int .i64 X.hi,X.ks]) (LV.arr ⟨ak x,false,X⟩) q5 c5):=vL.out.row hR _ rfl;clear ht ha hg hout hok nC vL jq kr rY uG;go_wp2_with (refine Ib rfl _ _ rfl L X _ _ _ rfl rfl zY.out (PO x false) H2.out H5.out ?_)
   obtain⟨Vj,hw8⟩:∃ y,y=w8.setRow L #[.string (ak x),.bool false,.int .i64 X.kind,.string X.text,X.ns,.int .i64 X.lo,.int .i64 X.hi,X.ks]:=⟨_,rfl⟩
   rw[<- hw8]at HT HI ⊢;clear hw8 zY;go_wp2_with fail
   refine(CQ HI.out.2.2.1 hs uh.out).mono ?_;rintro e w9 ⟨b9,q6,⟨rfl,ha,hg⟩,lN⟩;have vM:=hh9 (HI.out.grown hg ha hR);have rF:=hh9 (HT.out.kept (P':=fun b=>w.heap.size+1<=b) (fun b hP hl=>⟨hg.block b hl (fun e=>by have:=zbB e;omega),hP.1⟩) hg.size);have FZ:q6<=52000:=by rcases lN with g|g<;>omega
   have lQ:=hh9 lN;clear ha hg lN HI HT;go_wp2_with fail
   refine(A9 vM.out.2.2.1 hs (by omega)).mono ?_;rintro e Fq ⟨rfl,hb⟩;have gD:=hh9 (vM.out.below hb);have iE:=hh9 (rF.out.under hb);clear hb vM rF;obtain⟨hn1,hn2⟩:=zig s q6 (by omega) hs;obtain⟨N,hN⟩:∃ N,pQ (rd s) q6=N:=⟨_,rfl⟩
   rw[hN]at hn1 hn2 ⊢;have HN:=hh9 hN;clear hN;by_cases hneg:N<0
   ·have hmx:max N 0=0:=by omega
    go_wp2_with fail
    refine(IU gD.out.2.2.1 20 (by omega)).mono ?_;rintro e Vk ⟨c7,⟨rfl,ha,hg⟩,Bf,hcc⟩;have pz:=hh9 (gD.out.grown hg ha hR);have vN:=hh9 (iE.out.kept (P':=fun b=>w.heap.size+1<=b) (fun b hP hl=>⟨hg.block b hl (fun e=>by have:=zbB e;omega),hP⟩) hg.size)
    have ay:Hid (Bd s p ⟨x,false,t⟩ q6 c7):=by
     refine .inr ⟨Bf,by omega,?_⟩;rcases hcc with ⟨g1,rfl⟩|⟨g1,rfl⟩
     ·exact lM.out g1 (by
       have h1:=lQ.out;have h2:=HN.out;rcases h1 with ⟨_,h3,_⟩|⟨h3,_⟩
       ·rw[h3]
        cases h4:eH (rd s) q6 with
        |none=>rfl
        |some e =>
         rw[zI h4]at h2;have:=qI (s:=s) (p:=q6) (by rcases lQ.out with g|g<;>omega) h4;omega
       ·exact absurd g1 h3)
     ·exact nD.out g1
    clear ha hg hcc gD iE;obtain⟨d0,d1,d2,y0,y1,y2⟩:=pz.out.2.2.1.cells;have eY:=hh9 (pz.out.put hR (x:=(q6:Int)) (q':=q6) rfl);have lS:=hh9 (vN.out.cell (R:=R) (k:=1) (v:=.int .i64 (q6:Int)) (fun b hb=>by omega));have lT:=hh9 eY.out.2.1;have gQ:=hh9 eY.out.1
    go_wp2_with (first
     |(refine AO rfl _ rfl L ⟨ak x,false,X⟩ rfl lT.out ?_)
     |(refine yU rfl _ _ rfl w.heap.size ⟨ak x,false,X⟩ _ rfl rfl gQ.out H2.out H5.out ?_))
    exact bodyPost_ret_by (AP rfl _ _ w.heap.size ⟨ak x,false,X⟩ _ rfl gQ.out) rfl (Es eY.out hR lS.out ay.out)
   ·have hmx:max N 0=N:=by omega
    obtain⟨q8,hq8⟩:∃ q8:Nat,(q6:Int)+N=(q8:Int):=⟨(q6+N.toNat),by omega⟩
    have ay:Hid (Bd s p ⟨x,false,t⟩ q8 c5):=by
     by_cases g1:c5=0
     ·rcases lQ.out with ⟨_,h3,h4,h5⟩|⟨h3,_⟩
      ·cases h6:eH (rd s) q6 with
       |none =>
        have h7:=HN.out;rw[FI h6]at h7;omega
       |some e =>
        have h7:=HN.out;rw[zI h6]at h7;have h8:=qI (s:=s) (p:=q6) h5 h6;have h9:e=q8:=by omega
        rw[g1];have h10:=Gv.out g1 e (by rw[h3];exact h6);rw[h9]at h10;exact .inl ⟨rfl,by have:=h10.1;omega,by omega,h10.2⟩
      ·exact absurd g1 h3
     ·exact .inr ⟨g1,by omega,nD.out g1⟩
    obtain⟨d0,d1,d2,y0,y1,y2⟩:=gD.out.2.2.1.cells;have eY:=hh9 (gD.out.put hR (x:=(q8:Int)) (q':=q8) rfl);have lS:=hh9 (iE.out.cell (R:=R) (k:=1) (v:=.int .i64 (q8:Int)) (fun b hb=>by omega));have lT:=hh9 eY.out.2.1;have gQ:=hh9 eY.out.1;clear gD iE
    go_wp2_with (first
     |(refine AO rfl _ rfl L ⟨ak x,false,X⟩ rfl lT.out ?_)
     |(refine yU rfl _ _ rfl w.heap.size ⟨ak x,false,X⟩ _ rfl rfl gQ.out H2.out H5.out ?_))
    exact bodyPost_ret_by (AP rfl _ _ w.heap.size ⟨ak x,false,X⟩ _ rfl gQ.out) rfl (Es eY.out hR lS.out ay.out)
 ·obtain⟨Z,hZ⟩:∃ z,rd s q2=z:=⟨_,rfl⟩
  have qz:(Z != 61)=true:=by rw[<- hZ];simpa using nK
  have HZ:=hh9 hZ;have Vl:=hh9 nK;clear hZ nK;go_wp2_with fail
  refine(aQ HI2.out.2.2.1 hs (by omega) _ HZ.out).mono ?_;rintro e w3 ⟨rfl,hb⟩;have HI3:=hh9 (HI2.out.below hb);clear hb HI2;go_wp2_with fail
  refine(IU HI3.out.2.2.1 20 (by omega)).mono ?_;rintro e w4 ⟨c2,⟨rfl,ha,hg⟩,hc2,hcc⟩;have HI4:=hh9 (HI3.out.grown hg ha hR);have vU:Hid ((rd s q2=61/\c2=c1)\/(rd s q2≠61/\c2≠0/\((c1=0/\c2=20)\/(c1≠0/\c2=c1)))):=.inr ⟨Vl.out,hc2,hcc⟩;clear ha hg hcc hc2 HI3 qz;obtain⟨d0,d1,d2,y0,y1,y2⟩:=HI4.out.2.2.1.cells;have xS:=hh9 (HI4.out.put hR (x:=(q2:Int)+1) (q':=q2+1) (by omega));obtain⟨W5,yS⟩:∃ W5,W5=w4.setCell ⟨R,1,none⟩ (.int .i64 ((q2:Int)+1)):=⟨_,rfl⟩
  rw[<- yS]at xS;have zX:=hh9 yS;clear yS;obtain⟨p2,hp2⟩:∃ p2,q2+1=p2:=⟨_,rfl⟩
  rw[hp2]at xS;have fZ:=hh9 hp2;have Vi:p2<=q2+1/\q2+1<=p2:=by omega
  clear hp2;by_cases h47:rd s p2=47
  ·have uU:=hh9 h47;obtain⟨q3,hq3⟩:∃ q3,p2+1=q3:=⟨_,rfl⟩
   have Gt:q3<=51000:=by omega
   have hst:=PS (m:=true) (q3:=q3) lq.out oN.out vU.out (.inl ⟨rfl,by rw[fZ.out];exact h47,by omega⟩);have jq:=hh9 hst.1;have uG:=hh9 hst.2;have Gu:(p2:Int)+1=(q3:Int):=by omega
   clear h47 hst hq3;go_wp2_with fail
   rw[<- zX.out];refine(aQ xS.out.2.2.1 hs (by omega) _ uU.out).mono ?_;rintro e w6 ⟨rfl,hb⟩;have qD:=hh9 (xS.out.below hb);clear hb zX d0 d1 d2 y0 y1 y2;obtain⟨k1,l1⟩:=qD.out.2.1.cell 1 _ rfl;obtain⟨d0,d1,d2,y0,y1,y2⟩:=(qD.out.set hR 1 (.bool true)).2.2.1.cells;obtain⟨k2,l2⟩:=(qD.out.set hR 1 (.bool true)).2.1.cell 1 _ rfl;obtain⟨W,hW⟩:∃ W,W=(w6.setCell ⟨L,1,none⟩ (.bool true)).setCell ⟨R,1,none⟩ (.int .i64 (q3:Int)):=⟨_,rfl⟩
   have HI:Hid (om R s L w W ((LV.arr ⟨ak x,false,⟨0,⟨#[]⟩,.slice none 0 0,0,0,.slice none 0 0⟩⟩).setIfInBounds 1 (.bool true)) q3 c2):=by rw[hW];exact(qD.out.set hR 1 (.bool true)).put hR rfl
   have HW:=hh9 hW;clear hW;go_wp2_with fail
   rw[<- HW.out];clear HW k1 l1 k2 l2 d0 d1 d2 y0 y1 y2 qD Gu;go_wp2_with fail
   refine(CQ HI.out.2.2.1 hs uG.out).mono ?_;rintro e w7 ⟨b7,q4,⟨rfl,ha,hg⟩,iG⟩;have nC:=hh9 (HI.out.grown hg ha hR);have hq4:q4<=51000:=by rcases iG with g|g<;>omega
   have rY:Hid (c2=0->q4<=s.size):=fun g=>by rcases iG with g2|g2<;>omega
   have kr:=hh9 iG;clear ha hg iG HI;go_wp2_with fail
   refine(PN nC.out.2.2.1 hs rY.out (by omega)).mono ?_;rintro e w8 ⟨X,t,q5,c5,ht,⟨rfl,ha,hg⟩,hout⟩;have H2:=hh9 (fq ht);have H5:=hh9 (eU ht);have hw7:w.heap.size+1<=w7.heap.size:=by have:=nC.out.2.1.lt;have:=nC.out.2.2.2.2;omega
   have hL7:=nC.out.2.1.lt;have vL:=hh9 (nC.out.grown hg ha hR)
   have uh:Hid (c5=0->q5<=s.size):=fun g=>by
    rcases hout with ⟨_,⟨_,_,g2,_⟩|⟨g2,_⟩⟩|⟨g2,g3,_⟩
    ·exact g2
    ·exact absurd g g2
    ·exact absurd (g3.symm.trans g) g2
   have yA:q5<=52000:=by
    rcases hout with ⟨_,⟨_,_,g2,_⟩|⟨_,g2,_⟩⟩|⟨_,_,g2⟩<;>omega
   have nD:Hid (c5≠0->wE s p c5):=fun g=>by
    rcases hout with ⟨g1,⟨g2,_⟩|⟨_,_,g3⟩⟩|⟨g2,g3,_⟩
    ·exact absurd g2 g
    ·exact jq.out.1 g1 _ (kr.out.elim (fun h3=>by rw[h3.2.1];exact g3) (fun h3=>absurd g1 h3.1))
    ·rw[g3];exact jq.out.2.1 g2
   have hok:c5=0->c2=0/\aK (rd s) .alts 0 (bN (rd s) q3) (.ok t (bN (rd s) q5))/\q3<=q5:=fun g=>by
    rcases hout with ⟨g1,⟨_,g2,_,g3⟩|⟨g2,_⟩⟩|⟨g2,g3,_⟩
    ·rcases kr.out with ⟨_,h3,h4,_⟩|⟨h3,_⟩
     ·exact⟨g1,by rw[h3];exact g3,by omega⟩
     ·exact absurd g1 h3
    ·exact absurd g g2
    ·exact absurd (g3.symm.trans g) g2
   have lM:Hid (c5=0->eH (rd s) (bN (rd s) q5)=none->wE s p 20):=fun g h=>by
    obtain⟨a1,a2,_⟩:=hok g;exact jq.out.2.2.1 a1 t _ a2 h
   have Gv:Hid (c5=0->∀ e,eH (rd s) (bN (rd s) q5)=some e->p<q5/\aH (rd s p)=true/\bU (rd s) p (.ok ⟨x,true,t⟩ e)):=fun g e h=>by
    obtain⟨a1,a2,a3⟩:=hok g;have a4:=jq.out.2.2.2 a1 t _ e a2 h;exact⟨by have:=a4.1;omega,a4.2⟩
   have HT:Hid (av (w8.setRow L #[.string (ak x),.bool true,.int .i64 X.kind,.string X.text,X.ns,.int .i64 X.lo,.int .i64 X.hi,X.ks]) (fun b=>w.heap.size+1<=b/\True) X t):=by
    have h1:=ht.weak (P':=fun b=>w.heap.size+1<=b/\b≠L) (fun b hP _=>⟨by omega,by omega⟩);exact(h1.aj (fun b hP=>hP.2) _).weak (fun b hP _=>⟨hP.1,trivial⟩)
   have zY:=hh9 vL.out.2.1;have HI:Hid (om R s L w (w8.setRow L #[.string (ak x),.bool true,.int .i64 X.kind,.string X.text,X.ns,.int .i64 X.lo,.int .i64 X.hi,X.ks]) (LV.arr ⟨ak x,true,X⟩) q5 c5):=vL.out.row hR _ rfl;clear ht ha hg hout hok nC vL jq kr rY uG;go_wp2_with (refine Ib rfl _ _ rfl L X _ _ _ rfl rfl zY.out (PO x true) H2.out H5.out ?_)
   obtain⟨Vj,hw8⟩:∃ y,y=w8.setRow L #[.string (ak x),.bool true,.int .i64 X.kind,.string X.text,X.ns,.int .i64 X.lo,.int .i64 X.hi,X.ks]:=⟨_,rfl⟩
   rw[<- hw8]at HT HI ⊢;clear hw8 zY;go_wp2_with fail
   refine(CQ HI.out.2.2.1 hs uh.out).mono ?_;rintro e w9 ⟨b9,q6,⟨rfl,ha,hg⟩,lN⟩;have vM:=hh9 (HI.out.grown hg ha hR);have rF:=hh9 (HT.out.kept (P':=fun b=>w.heap.size+1<=b) (fun b hP hl=>⟨hg.block b hl (fun e=>by have:=zbB e;omega),hP.1⟩) hg.size);have FZ:q6<=52000:=by rcases lN with g|g<;>omega
   have lQ:=hh9 lN;clear ha hg lN HI HT;go_wp2_with fail
   refine(A9 vM.out.2.2.1 hs (by omega)).mono ?_;rintro e Fq ⟨rfl,hb⟩;have gD:=hh9 (vM.out.below hb);have iE:=hh9 (rF.out.under hb);clear hb vM rF;obtain⟨hn1,hn2⟩:=zig s q6 (by omega) hs;obtain⟨N,hN⟩:∃ N,pQ (rd s) q6=N:=⟨_,rfl⟩
   rw[hN]at hn1 hn2 ⊢;have HN:=hh9 hN;clear hN;by_cases hneg:N<0
   ·have hmx:max N 0=0:=by omega
    go_wp2_with fail
    refine(IU gD.out.2.2.1 20 (by omega)).mono ?_;rintro e Vk ⟨c7,⟨rfl,ha,hg⟩,Bf,hcc⟩;have pz:=hh9 (gD.out.grown hg ha hR);have vN:=hh9 (iE.out.kept (P':=fun b=>w.heap.size+1<=b) (fun b hP hl=>⟨hg.block b hl (fun e=>by have:=zbB e;omega),hP⟩) hg.size)
    have ay:Hid (Bd s p ⟨x,true,t⟩ q6 c7):=by
     refine .inr ⟨Bf,by omega,?_⟩;rcases hcc with ⟨g1,rfl⟩|⟨g1,rfl⟩
     ·exact lM.out g1 (by
       have h1:=lQ.out;have h2:=HN.out;rcases h1 with ⟨_,h3,_⟩|⟨h3,_⟩
       ·rw[h3]
        cases h4:eH (rd s) q6 with
        |none=>rfl
        |some e =>
         rw[zI h4]at h2;have:=qI (s:=s) (p:=q6) (by rcases lQ.out with g|g<;>omega) h4;omega
       ·exact absurd g1 h3)
     ·exact nD.out g1
    clear ha hg hcc gD iE;obtain⟨d0,d1,d2,y0,y1,y2⟩:=pz.out.2.2.1.cells;have eY:=hh9 (pz.out.put hR (x:=(q6:Int)) (q':=q6) rfl);have lS:=hh9 (vN.out.cell (R:=R) (k:=1) (v:=.int .i64 (q6:Int)) (fun b hb=>by omega));have lT:=hh9 eY.out.2.1;have gQ:=hh9 eY.out.1
    go_wp2_with (first
     |(refine AO rfl _ rfl L ⟨ak x,true,X⟩ rfl lT.out ?_)
     |(refine yU rfl _ _ rfl w.heap.size ⟨ak x,true,X⟩ _ rfl rfl gQ.out H2.out H5.out ?_))
    exact bodyPost_ret_by (AP rfl _ _ w.heap.size ⟨ak x,true,X⟩ _ rfl gQ.out) rfl (Es eY.out hR lS.out ay.out)
   ·have hmx:max N 0=N:=by omega
    obtain⟨q8,hq8⟩:∃ q8:Nat,(q6:Int)+N=(q8:Int):=⟨(q6+N.toNat),by omega⟩
    have ay:Hid (Bd s p ⟨x,true,t⟩ q8 c5):=by
     by_cases g1:c5=0
     ·rcases lQ.out with ⟨_,h3,h4,h5⟩|⟨h3,_⟩
      ·cases h6:eH (rd s) q6 with
       |none =>
        have h7:=HN.out;rw[FI h6]at h7;omega
       |some e =>
        have h7:=HN.out;rw[zI h6]at h7;have h8:=qI (s:=s) (p:=q6) h5 h6;have h9:e=q8:=by omega
        rw[g1];have h10:=Gv.out g1 e (by rw[h3];exact h6);rw[h9]at h10;exact .inl ⟨rfl,by have:=h10.1;omega,by omega,h10.2⟩
      ·exact absurd g1 h3
     ·exact .inr ⟨g1,by omega,nD.out g1⟩
    obtain⟨d0,d1,d2,y0,y1,y2⟩:=gD.out.2.2.1.cells;have eY:=hh9 (gD.out.put hR (x:=(q8:Int)) (q':=q8) rfl);have lS:=hh9 (iE.out.cell (R:=R) (k:=1) (v:=.int .i64 (q8:Int)) (fun b hb=>by omega));have lT:=hh9 eY.out.2.1;have gQ:=hh9 eY.out.1;clear gD iE
    go_wp2_with (first
     |(refine AO rfl _ rfl L ⟨ak x,true,X⟩ rfl lT.out ?_)
     |(refine yU rfl _ _ rfl w.heap.size ⟨ak x,true,X⟩ _ rfl rfl gQ.out H2.out H5.out ?_))
    exact bodyPost_ret_by (AP rfl _ _ w.heap.size ⟨ak x,true,X⟩ _ rfl gQ.out) rfl (Es eY.out hR lS.out ay.out)
  ·obtain⟨Y,hY⟩:∃ y,rd s p2=y:=⟨_,rfl⟩
   have qy:(Y==47)=false:=by rw[<- hY];simpa using h47
   have HY:=hh9 hY;obtain⟨q3,hq3⟩:∃ q3,p2=q3:=⟨_,rfl⟩
   have hst:=PS (m:=false) (q3:=q3) lq.out oN.out vU.out (.inr ⟨rfl,by rw[fZ.out];exact h47,by omega⟩);have jq:=hh9 hst.1;have uG:=hh9 hst.2;have zZ:=hh9 hq3;clear h47 hst hY hq3;go_wp2_with fail
   rw[<- zX.out];refine(aQ xS.out.2.2.1 hs (by omega) _ HY.out).mono ?_;rintro e w6 ⟨rfl,hb⟩;have qD:=hh9 (xS.out.below hb);clear hb zX d0 d1 d2 y0 y1 y2;obtain⟨k1,l1⟩:=qD.out.2.1.cell 1 _ rfl;obtain⟨k2,l2⟩:=(qD.out.set hR 1 (.bool false)).2.1.cell 1 _ rfl;obtain⟨W,hW⟩:∃ W,W=w6.setCell ⟨L,1,none⟩ (.bool false):=⟨_,rfl⟩
   have HI:Hid (om R s L w W ((LV.arr ⟨ak x,false,⟨0,⟨#[]⟩,.slice none 0 0,0,0,.slice none 0 0⟩⟩).setIfInBounds 1 (.bool false)) q3 c2):=by rw[hW,<- zZ.out];exact qD.out.set hR 1 (.bool false)
   have HW:=hh9 hW;have Gt:q3<=51000:=by have:=zZ.out;omega
   clear hW;go_wp2_with fail
   rw[<- HW.out];clear HW k1 l1 k2 l2 qD;go_wp2_with fail
   refine(CQ HI.out.2.2.1 hs uG.out).mono ?_;rintro e w7 ⟨b7,q4,⟨rfl,ha,hg⟩,iG⟩;have nC:=hh9 (HI.out.grown hg ha hR);have hq4:q4<=51000:=by rcases iG with g|g<;>omega
   have rY:Hid (c2=0->q4<=s.size):=fun g=>by rcases iG with g2|g2<;>omega
   have kr:=hh9 iG;clear ha hg iG HI;go_wp2_with fail
   refine(PN nC.out.2.2.1 hs rY.out (by omega)).mono ?_;rintro e w8 ⟨X,t,q5,c5,ht,⟨rfl,ha,hg⟩,hout⟩;have H2:=hh9 (fq ht);have H5:=hh9 (eU ht);have hw7:w.heap.size+1<=w7.heap.size:=by have:=nC.out.2.1.lt;have:=nC.out.2.2.2.2;omega
   have hL7:=nC.out.2.1.lt;have vL:=hh9 (nC.out.grown hg ha hR)
   have uh:Hid (c5=0->q5<=s.size):=fun g=>by
    rcases hout with ⟨_,⟨_,_,g2,_⟩|⟨g2,_⟩⟩|⟨g2,g3,_⟩
    ·exact g2
    ·exact absurd g g2
    ·exact absurd (g3.symm.trans g) g2
   have yA:q5<=52000:=by
    rcases hout with ⟨_,⟨_,_,g2,_⟩|⟨_,g2,_⟩⟩|⟨_,_,g2⟩<;>omega
   have nD:Hid (c5≠0->wE s p c5):=fun g=>by
    rcases hout with ⟨g1,⟨g2,_⟩|⟨_,_,g3⟩⟩|⟨g2,g3,_⟩
    ·exact absurd g2 g
    ·exact jq.out.1 g1 _ (kr.out.elim (fun h3=>by rw[h3.2.1];exact g3) (fun h3=>absurd g1 h3.1))
    ·rw[g3];exact jq.out.2.1 g2
   have hok:c5=0->c2=0/\aK (rd s) .alts 0 (bN (rd s) q3) (.ok t (bN (rd s) q5))/\q3<=q5:=fun g=>by
    rcases hout with ⟨g1,⟨_,g2,_,g3⟩|⟨g2,_⟩⟩|⟨g2,g3,_⟩
    ·rcases kr.out with ⟨_,h3,h4,_⟩|⟨h3,_⟩
     ·exact⟨g1,by rw[h3];exact g3,by omega⟩
     ·exact absurd g1 h3
    ·exact absurd g g2
    ·exact absurd (g3.symm.trans g) g2
   have lM:Hid (c5=0->eH (rd s) (bN (rd s) q5)=none->wE s p 20):=fun g h=>by
    obtain⟨a1,a2,_⟩:=hok g;exact jq.out.2.2.1 a1 t _ a2 h
   have Gv:Hid (c5=0->∀ e,eH (rd s) (bN (rd s) q5)=some e->p<q5/\aH (rd s p)=true/\bU (rd s) p (.ok ⟨x,false,t⟩ e)):=fun g e h=>by
    obtain⟨a1,a2,a3⟩:=hok g;have a4:=jq.out.2.2.2 a1 t _ e a2 h;exact⟨by have:=a4.1;omega,a4.2⟩
   have HT:Hid (av (w8.setRow L #[.string (ak x),.bool false,.int .i64 X.kind,.string X.text,X.ns,.int .i64 X.lo,.int .i64 X.hi,X.ks]) (fun b=>w.heap.size+1<=b/\True) X t):=by
    have h1:=ht.weak (P':=fun b=>w.heap.size+1<=b/\b≠L) (fun b hP _=>⟨by omega,by omega⟩);exact(h1.aj (fun b hP=>hP.2) _).weak (fun b hP _=>⟨hP.1,trivial⟩)
   have zY:=hh9 vL.out.2.1;have HI:Hid (om R s L w (w8.setRow L #[.string (ak x),.bool false,.int .i64 X.kind,.string X.text,X.ns,.int .i64 X.lo,.int .i64 X.hi,X.ks]) (LV.arr ⟨ak x,false,X⟩) q5 c5):=vL.out.row hR _ rfl;clear ht ha hg hout hok nC vL jq kr rY uG;go_wp2_with (refine Ib rfl _ _ rfl L X _ _ _ rfl rfl zY.out (PO x false) H2.out H5.out ?_)
   obtain⟨Vj,hw8⟩:∃ y,y=w8.setRow L #[.string (ak x),.bool false,.int .i64 X.kind,.string X.text,X.ns,.int .i64 X.lo,.int .i64 X.hi,X.ks]:=⟨_,rfl⟩
   rw[<- hw8]at HT HI ⊢;clear hw8 zY;go_wp2_with fail
   refine(CQ HI.out.2.2.1 hs uh.out).mono ?_;rintro e w9 ⟨b9,q6,⟨rfl,ha,hg⟩,lN⟩;have vM:=hh9 (HI.out.grown hg ha hR);have rF:=hh9 (HT.out.kept (P':=fun b=>w.heap.size+1<=b) (fun b hP hl=>⟨hg.block b hl (fun e=>by have:=zbB e;omega),hP.1⟩) hg.size);have FZ:q6<=52000:=by rcases lN with g|g<;>omega
   have lQ:=hh9 lN;clear ha hg lN HI HT;go_wp2_with fail
   refine(A9 vM.out.2.2.1 hs (by omega)).mono ?_;rintro e Fq ⟨rfl,hb⟩;have gD:=hh9 (vM.out.below hb);have iE:=hh9 (rF.out.under hb);clear hb vM rF;obtain⟨hn1,hn2⟩:=zig s q6 (by omega) hs;obtain⟨N,hN⟩:∃ N,pQ (rd s) q6=N:=⟨_,rfl⟩
   rw[hN]at hn1 hn2 ⊢;have HN:=hh9 hN;clear hN;by_cases hneg:N<0
   ·have hmx:max N 0=0:=by omega
    go_wp2_with fail
    refine(IU gD.out.2.2.1 20 (by omega)).mono ?_;rintro e Vk ⟨c7,⟨rfl,ha,hg⟩,Bf,hcc⟩;have pz:=hh9 (gD.out.grown hg ha hR);have vN:=hh9 (iE.out.kept (P':=fun b=>w.heap.size+1<=b) (fun b hP hl=>⟨hg.block b hl (fun e=>by have:=zbB e;omega),hP⟩) hg.size)
    have ay:Hid (Bd s p ⟨x,false,t⟩ q6 c7):=by
     refine .inr ⟨Bf,by omega,?_⟩;rcases hcc with ⟨g1,rfl⟩|⟨g1,rfl⟩
     ·exact lM.out g1 (by
       have h1:=lQ.out;have h2:=HN.out;rcases h1 with ⟨_,h3,_⟩|⟨h3,_⟩
       ·rw[h3]
        cases h4:eH (rd s) q6 with
        |none=>rfl
        |some e =>
         rw[zI h4]at h2;have:=qI (s:=s) (p:=q6) (by rcases lQ.out with g|g<;>omega) h4;omega
       ·exact absurd g1 h3)
     ·exact nD.out g1
    clear ha hg hcc gD iE;obtain⟨d0,d1,d2,y0,y1,y2⟩:=pz.out.2.2.1.cells;have eY:=hh9 (pz.out.put hR (x:=(q6:Int)) (q':=q6) rfl);have lS:=hh9 (vN.out.cell (R:=R) (k:=1) (v:=.int .i64 (q6:Int)) (fun b hb=>by omega));have lT:=hh9 eY.out.2.1;have gQ:=hh9 eY.out.1
    go_wp2_with (first
     |(refine AO rfl _ rfl L ⟨ak x,false,X⟩ rfl lT.out ?_)
     |(refine yU rfl _ _ rfl w.heap.size ⟨ak x,false,X⟩ _ rfl rfl gQ.out H2.out H5.out ?_))
    exact bodyPost_ret_by (AP rfl _ _ w.heap.size ⟨ak x,false,X⟩ _ rfl gQ.out) rfl (Es eY.out hR lS.out ay.out)
   ·have hmx:max N 0=N:=by omega
    obtain⟨q8,hq8⟩:∃ q8:Nat,(q6:Int)+N=(q8:Int):=⟨(q6+N.toNat),by omega⟩
    have ay:Hid (Bd s p ⟨x,false,t⟩ q8 c5):=by
     by_cases g1:c5=0
     ·rcases lQ.out with ⟨_,h3,h4,h5⟩|⟨h3,_⟩
      ·cases h6:eH (rd s) q6 with
       |none =>
        have h7:=HN.out;rw[FI h6]at h7;omega
       |some e =>
        have h7:=HN.out;rw[zI h6]at h7;have h8:=qI (s:=s) (p:=q6) h5 h6;have h9:e=q8:=by omega
        rw[g1];have h10:=Gv.out g1 e (by rw[h3];exact h6);rw[h9]at h10;exact .inl ⟨rfl,by have:=h10.1;omega,by omega,h10.2⟩
      ·exact absurd g1 h3
     ·exact .inr ⟨g1,by omega,nD.out g1⟩
    obtain⟨d0,d1,d2,y0,y1,y2⟩:=gD.out.2.2.1.cells;have eY:=hh9 (gD.out.put hR (x:=(q8:Int)) (q':=q8) rfl);have lS:=hh9 (iE.out.cell (R:=R) (k:=1) (v:=.int .i64 (q8:Int)) (fun b hb=>by omega));have lT:=hh9 eY.out.2.1;have gQ:=hh9 eY.out.1;clear gD iE
    go_wp2_with (first
     |(refine AO rfl _ rfl L ⟨ak x,false,X⟩ rfl lT.out ?_)
     |(refine yU rfl _ _ rfl w.heap.size ⟨ak x,false,X⟩ _ rfl rfl gQ.out H2.out H5.out ?_))
    exact bodyPost_ret_by (AP rfl _ _ w.heap.size ⟨ak x,false,X⟩ _ rfl gQ.out) rfl (Es eY.out hR lS.out ay.out)
def zz3(R:Nat)(s:ByteArray)(w wr:World)(v:Value)(q:Nat)(c:Int)(l:List Rule):Prop :=
 jD wr (w.heap.size+1) v l/\bL wr R s q c/\Below w.heap.size w wr /\
  ((c=0/\q<=s.size/\l.length<=500/\∀ r,Rules (rd s) l q r->Rules (rd s) [] 0 r)\/(c≠0/\l.length<=501/\Rules (rd s) [] 0 (.err c)))
theorem zz4{w w':World}{base R:Nat}{s:ByteArray}{p:Nat}{c:Int}{v:Value}{l:List Rule}(hk:jD w base v l)(h:bL w R s p c)(hg:w.grownBy w' v.ownBlock)(hR:R<base):bL w' R s p c:=by
 obtain⟨vs,_,h2,_⟩:=hk;exact h.kept hg (Gh h2 hR)
theorem zru{w w1 w':World}{base:Nat}{v:Value}{l:List Rule}(hk:jD w1 base v l)(h:Below w.heap.size w w1)(hg:w1.grownBy w' v.ownBlock)(hb:w.heap.size<=base):Below w.heap.size w w':=by
 obtain⟨vs,_,h2,_⟩:=hk;refine⟨hg.os.trans h.os,hg.tape.trans h.tape,hg.output.trans h.output,zbH h.size hg.size,fun k hk=>(hg.block k (Nat.lt_of_lt_of_le hk h.size) (Gh h2 (by omega))).trans (h.block k hk)⟩
theorem MS{w w1 w':World}{R:Nat}(h:Below w.heap.size w w1)(hg:w1.grownBy w' (some R))(hR:w.heap.size<=R):Below w.heap.size w w' :=
 ⟨hg.os.trans h.os,hg.tape.trans h.tape,hg.output.trans h.output,zbH h.size hg.size,fun k hk=>(hg.block k (Nat.lt_of_lt_of_le hk h.size) (fun e=>by have:=zbB e;omega)).trans (h.block k hk)⟩
theorem zz5{f:Nat->Int}{p:Nat}(h:aH (f p)=true):eH f p=none:=by
 have hc:=H7.1 h;have e:ji f p=p:=by unfold ji;rw[if_neg (by omega)]
 unfold eH;rw[e,if_neg (by omega),if_neg (by omega),if_neg (fun g=>by omega)]
theorem qc1{f:Nat->Int}{p:Nat}(h:aH (f p)=true):jC aZ f p=p:=by
 have hc:=H7.1 h;refine eG.eq ⟨zbA _,fun i h1 h2=>by omega,?_⟩;unfold aZ;simp;omega
theorem zz6(s:ByteArray)(w:World)(hs:s.size<=maxLen):Calls Tryz.prog 15 #[.string s] w (YA s w):=by
 unfold maxLen at hs;by_cases hbig:50000<s.size
 ·have hq:decide (50000<s.size)=true:=zbN hbig;go_enter Tryz.func15,Tryz.ntmps15;go_wp2
  go_ret2
  exact⟨.err 2,by unfold uN;rw[if_pos hbig],zbE _ _,rfl⟩
 ·have hq:decide (50000<s.size)=false:=zbM hbig;have hs5:s.size<=50000:=by omega
  have MU:=hh9 hbig
  have H0:Hid (zz3 w.heap.size s w (w.alloc (.cells #[.string s,.int .i64 0,.int .i64 0] 72)) (.slice none 0 0) 0 0 []) :=
   ⟨jD.nil _ _,zbO _ _,(zbE _ _).alloc (zbA _) _,.inl ⟨rfl,by omega,by simp,fun r hr=>hr⟩⟩
  clear hs hbig;go_enter Tryz.func15,Tryz.ntmps15;go_wp2_with fail
  go_loopw [5] (fun v wr=>∃ (q:Nat) (c:Int) (l:List Rule),Hid (zz3 w.heap.size s w wr v q c l)) (fun _ wr=>IG w.heap.size s.size wr)
  case atStart=>exact⟨0,0,[],H0⟩
  case round =>
   clear H0;obtain⟨q,c,l,HI⟩:=hrel;obtain⟨hk0,ha,hb,hst⟩:=HI.out;have HA:=hh9 ha;have HB:=hh9 hb;have HK:=hh9 hk0;have HM:=hh9 (ha.meas s.size);have hz:w.heap.size+1<=wr.heap.size:=ha.lt;obtain⟨c0,c1,c2,z0,z1,z2⟩:=ha.cells;clear ha hb hk0;rcases hst with ⟨hc0,aR,hl5,hall⟩|⟨hc,hl5,aD⟩
   ·subst hc0;have aF:=hh9 hall;clear hall HI;by_cases hlt:q<s.size
    ·have q1:decide ((q:Int)<(s.size:Int))=true:=zbN (by omega);have q2:decide (q<s.size)=true:=zbN hlt;go_wp2_with fail
     obtain⟨wo,hwo⟩:∃ x:World,x=wr:=⟨_,rfl⟩
     subst hwo;go_loopw [] (fun wi=>∃ q':Nat,Hid (bL wi w.heap.size s q' 0/\wo.grownBy wi (some w.heap.size)/\q<=q'/\q'<=s.size/\∀ i,q<=i->i<q'->aZ (rd s i)=true)) (fun wi=>s.size-qH w.heap.size wi)
     case atStart=>exact⟨q,HA.out,iq _ _,zbA _,aR,fun i h1 h2=>by omega⟩
     case round =>
      obtain⟨q',HJ⟩:=hrel;obtain⟨hja,MV,hqq,Vm,hrun⟩:=HJ.out;have IV:=hh9 hja;have HJG:=hh9 MV;have HJM:=hh9 hja.pos;have nX:=hh9 hrun;obtain⟨d0,d1,d2,y0,y1,y2⟩:=hja.cells;have HKJ:=hh9 (HK.out.grown MV (by omega));have HBJ:=hh9 (MS HB.out MV (zbA _));have hzj:w.heap.size+1<=wr.heap.size:=zbH hz MV.size;clear hja MV hrun HJ c0 c1 c2 z0 z1 z2;obtain⟨Z,hZ⟩:∃ z,rd s q'=z:=⟨_,rfl⟩
      have HZ:=hh9 hZ
      cases hbl:aZ Z
      ·have DI:=hh9 hbl;have hre:jC aZ (rd s) q=q':=eG.eq ⟨hqq,nX.out,by rw[hZ];exact hbl⟩;have jq:=hh9 hre;clear hbl hZ hre
       cases hle:eH (rd s) q' with
       |some e0 =>
        have jY:=hh9 hle;have he1:=qI Vm hle
        have he2:q<e0:=by
         by_cases g:q<q'
         ·omega
         ·have h2:q'=q:=by omega
          rw[h2]at hle;exact Yz hlt hle
        have CU:=hh9 (zI hle)
        have hal:aH (rd s q)=false:=by
         cases hal:aH (rd s q)
         ·rfl
         ·have h3:=qc1 hal;rw[jq.out]at h3;rw[h3,zz5 hal]at hle
          cases hle
        have MW:Hid (∀ r,Rules (rd s) l e0 r->Rules (rd s) [] 0 r):=fun r hr=>aF.out r (.empty (by rw[pO hlt];omega) hal (by rw[jq.out];exact jY.out) hr)
        obtain⟨N,hN⟩:∃ N:Int,(e0:Int)-(q':Int)=N:=⟨_,rfl⟩
        have hN0:¬ N<0:=by omega
        have hN1:0<=N:=by omega
        have hNq:(q':Int)+N=(e0:Int):=by omega
        rw[hN]at CU;clear hle hal hN;go_wp2_with fail
        refine(aQ IV.out hs5 (by omega) _ HZ.out).mono ?_;rintro e w1 ⟨rfl,hb⟩;have HA1:=hh9 (IV.out.below hb);have AA:=hh9 (HKJ.out.below hb);have HB1:=hh9 (aJ HBJ.out hb);have hz1:w.heap.size+1<=w1.heap.size:=zbH hzj hb.size;clear hb;go_wp2_with fail
        refine(xD _ _).mono ?_;rw[DI.out];rintro e w' ⟨rfl,rfl⟩;go_wp2_with fail
        refine(A9 HA1.out hs5 (by omega)).mono ?_;rw[CU.out];rintro e w2 ⟨rfl,hb⟩;have HA2:=hh9 (HA1.out.below hb);have jG:=hh9 (AA.out.below hb);have HB2:=hh9 (aJ HB1.out hb);clear hb d0 d1 d2 y0 y1 y2 HA1 AA HB1;obtain⟨d0,d1,d2,y0,y1,y2⟩:=HA2.out.cells;have aC:=hh9 (HA2.out.put (x:=(e0:Int)) (q:=e0) rfl);have jN:=hh9 (jG.out.grown (fu (iq w2 (some w.heap.size)) 1 (.int .i64 (e0:Int))) (by omega));have HB3:=hh9 (MS HB2.out (fu (iq w2 (some w.heap.size)) 1 (.int .i64 (e0:Int))) (zbA _));go_wp2_with fail
        go_roundw
        case rel=>exact⟨e0,0,l,jN.out,aC.out,HB3.out,.inl ⟨rfl,he1.2,hl5,MW.out⟩⟩
        case measure =>
         rw[HM.out,aC.out.meas];simp only[if_true];omega
       |none =>
        have jY:=hh9 hle;have CU:=hh9 (FI hle);clear hle;go_wp2_with fail
        refine(aQ IV.out hs5 (by omega) _ HZ.out).mono ?_;rintro e w1 ⟨rfl,hb⟩;have HA1:=hh9 (IV.out.below hb);have AA:=hh9 (HKJ.out.below hb);have HB1:=hh9 (aJ HBJ.out hb);have hz1:w.heap.size+1<=w1.heap.size:=zbH hzj hb.size;clear hb;go_wp2_with fail
        refine(xD _ _).mono ?_;rw[DI.out];rintro e w' ⟨rfl,rfl⟩;go_wp2_with fail
        refine(A9 HA1.out hs5 (by omega)).mono ?_;rw[CU.out];rintro e w2 ⟨rfl,hb⟩;have HA2:=hh9 (HA1.out.below hb);have jG:=hh9 (AA.out.below hb);have HB2:=hh9 (aJ HB1.out hb);have hz2:w.heap.size+1<=w2.heap.size:=zbH hz1 hb.size;clear hb d0 d1 d2 y0 y1 y2 HA1 AA HB1;obtain⟨d0,d1,d2,y0,y1,y2⟩:=HA2.out.cells;have aC:=hh9 (HA2.out.put (x:=(q:Int)) (q:=q) rfl);have jN:=hh9 (jG.out.grown (fu (iq w2 (some w.heap.size)) 1 (.int .i64 (q:Int))) (by omega));have HB3:=hh9 (MS HB2.out (fu (iq w2 (some w.heap.size)) 1 (.int .i64 (q:Int))) (zbA _));have hz3:w.heap.size+1<=(w2.setCell ⟨w.heap.size,1,none⟩ (.int .i64 (q:Int))).heap.size:=by simpa using hz2
        go_wp2_with fail
        refine(zz2 aC.out hs5 aR).mono ?_;rintro e w4 ⟨y,x,q3,c3,ht,⟨rfl,ha,hg⟩,hout⟩;have tF:=hh9 hout;have H2:=hh9 (fq ht.2.2);have H5:=hh9 (eU ht.2.2);have dF:w.heap.size+1<=w4.heap.size:=zbH hz3 hg.size;have nP:=hh9 ((jN.out.grown hg (by omega)).below ((zbE w4.heap.size w4).alloc (zbA _) (.cells y.arr 31)));have uT:=hh9 ((Yy jN.out ht hz3).kept (W':=w4.alloc (.cells y.arr 31)) (fun b hP hl=>⟨zbP _ _ _ hl,hP⟩) (by simp));have bf:=hh9 (ha.alloc (.cells y.arr 31));have eB:=hh9 (Qc (MS HB3.out hg (zbA _)) (.cells y.arr 31));clear ha hg ht hout jN aC HB3 jG HA2 HB2 d0 d1 d2 y0 y1 y2
        go_wp2_with (first
         |(refine Yw rfl _ rfl y rfl H2.out H5.out ?_)
         |(at_builtin;go_loud (refine Yx rfl _ _ rfl (w.heap.size+1) _ l x y w4.heap.size rfl rfl nP.out uT.out (zbO w4 _) ?c1 ?c2 ?_)))
        case c1=>omega
        case c2=>simp;omega
        intro v' w5 hk5 hgrow;have tV:=hh9 hk5;have bQ:=hh9 (zz4 nP.out bf.out hgrow (by omega));have iR:=hh9 (zru nP.out eB.out hgrow (by omega));have hform:=Sw hk5;have hlen:(l++[x]).length=l.length+1:=by simp
        rw[hlen]at hform;obtain⟨g5,cap5,rfl⟩:=hform.resolve_left (fun h=>by omega);have HLEN:=hh9 hlen
        have HBAD:Hid (c3≠0->Rules (rd s) [] 0 (.err c3)):=fun g=>by
         rcases tF.out with ⟨g1,_⟩|⟨_,_,⟨h1,h2⟩|⟨h1,h2⟩⟩
         ·exact absurd g1 g
         ·rw[h2];exact aF.out _ (.bad (by rw[pO hlt];omega) h1 (by rw[jq.out];exact jY.out))
         ·exact aF.out _ (.err h1 h2)
        clear hk5 hgrow nP bf eB uT H2 H5 hform hlen;by_cases zi:500<=l.length
        ·have p3:decide ((500:Int)<((l.length+1:Nat):Int))=true:=zbN (by omega);have p4:decide (500<l.length+1)=true:=zbN (by omega);go_wp2_with fail
         refine(IU bQ.out 2 (by omega)).mono ?_;rintro e w6 ⟨c7,⟨rfl,ha,hg⟩,Bf,hcc⟩;have jL:=hh9 ha;have U4:=hh9 (tV.out.grown hg (by omega));have sJ:=hh9 (MS iR.out hg (zbA _))
         have nD:Hid (Rules (rd s) [] 0 (.err c7)):=by
          rcases hcc with ⟨g1,g2⟩|⟨g1,g2⟩
          ·rcases tF.out with ⟨_,_,_,h1,h2⟩|⟨h1,_⟩
           ·rw[g2];exact aF.out _ (.many h1 h2 zi)
           ·exact absurd g1 h1
          ·rw[g2];exact HBAD.out g1
         have HC7:=hh9 Bf;clear ha hg hcc Bf;go_wp2_with fail
         go_roundw
         case rel=>exact⟨q3,c7,l++[x],U4.out,jL.out,sJ.out,.inr ⟨HC7.out,by rw[HLEN.out];omega,nD.out⟩⟩
         case measure =>
          rw[HM.out,jL.out.meas,if_neg HC7.out];simp only[if_true];omega
        ·have p3:decide ((500:Int)<((l.length+1:Nat):Int))=false:=zbM (by omega);have p4:decide (500<l.length+1)=false:=zbM (by omega)
         have HST:Hid (((c3=0/\q3<=s.size/\(l++[x]).length<=500/\∀ r,Rules (rd s) (l++[x]) q3 r->Rules (rd s) [] 0 r)\/(c3≠0/\(l++[x]).length<=501/\Rules (rd s) [] 0 (.err c3)))/\(c3=0->q<q3)):=by
          rcases tF.out with ⟨g1,g2,g3,g4,g5⟩|⟨g1,_⟩
          ·exact⟨.inl ⟨g1,g3,by rw[HLEN.out];omega,fun r hr=>aF.out r (.rule g4 g5 (by omega) hr)⟩,fun _=>g2⟩
          ·exact⟨.inr ⟨g1,by rw[HLEN.out];omega,HBAD.out g1⟩,fun g=>absurd g g1⟩
         go_wp2_with fail
         go_roundw
         case rel=>exact⟨q3,c3,l++[x],tV.out,bQ.out,iR.out,HST.out.1⟩
         case measure =>
          rw[HM.out,bQ.out.meas];simp only[if_true];have:=HST.out.2;split
          ·rename_i g;have:=this g;omega
          ·omega
      ·have DI:=hh9 hbl;have LZ:q'<s.size:=fP (by unfold aZ at hbl;simp at hbl;omega) hZ;have Vn:Hid (∀ i,q<=i->i<q'+1->aZ (rd s i)=true):=Cc (P:=aZ) nX.out (by rw[hZ];exact hbl);clear hbl hZ;go_wp2_with fail
       refine(aQ IV.out hs5 (by omega) _ HZ.out).mono ?_;rintro e w1 ⟨rfl,hb⟩;have HA1:=hh9 (IV.out.below hb);have aT:=hh9 (dw HJG.out hb);clear hb d0 d1 d2 y0 y1 y2;obtain⟨d0,d1,d2,y0,y1,y2⟩:=HA1.out.cells;go_wp2_with fail
       refine(xD _ _).mono ?_;rw[DI.out];rintro e w' ⟨rfl,rfl⟩;go_wp2_with fail
       go_roundw
       case rel=>exact⟨q'+1,HA1.out.step,fu aT.out _ _,by omega,by omega,Vn.out⟩
       case measure =>
        rw[HJM.out,HA1.out.step.pos];omega
    ·have q1:decide ((q:Int)<(s.size:Int))=false:=zbM (by omega);have q2:decide (q<s.size)=false:=zbM hlt;have ay:Hid (uN s (.ok l q)):=(if_neg MU.out).mpr (aF.out _ (.done (by rw[kL hlt];omega)));have HKb:=hh9 (HK.out.base (show w.heap.size<=w.heap.size+1 by omega));go_wp2_with fail
     go_ret2
     exact⟨.ok l q,ay.out,HB.out,_,rfl,HKb.out⟩
   ·have qc:(c==0)=false:=by simpa using hc
    have qc':(c != 0)=true:=by simpa using hc
    have ay:Hid (uN s (.err c)):=(if_neg MU.out).mpr aD;clear aD HI;by_cases hlt:q<s.size
    ·have q1:decide ((q:Int)<(s.size:Int))=true:=zbN (by omega);have q2:decide (q<s.size)=true:=zbN hlt;go_wp2_with fail
     go_quiet (fail)
     go_wp2_with fail
     go_ret2
     exact⟨.err c,ay.out,dJ HB.out _,rfl⟩
    ·have q1:decide ((q:Int)<(s.size:Int))=false:=zbM (by omega);have q2:decide (q<s.size)=false:=zbM hlt;go_wp2_with fail
     go_quiet (fail)
     go_wp2_with fail
     go_ret2
     exact⟨.err c,ay.out,dJ HB.out _,rfl⟩
end Go.Proofs.YtahibnnhjahmnaaGreatDoor
