/- Part 41 of what the laws of the grammar rest on. -/
import Derived.Test.YtahibnnhjahmnaaGreatDoorA40
set_option linter.all false
set_option maxRecDepth 100000
set_option maxHeartbeats 8000000
namespace Go.Proofs.YtahibnnhjahmnaaGreatDoor
open Go.RowKit
theorem zve{R p:Nat}{s:ByteArray}{w:World}(h:bL w R s p 0)(hs:s.size<=50000)(h37:rd s p=37) :
  Calls Tryz.prog 119 #[.pointer (some ⟨R,0,none⟩)] w (vI R s p w):=by
 by_cases nV:0<=rd s (p+1)/\(oz (rd s (p+1))=98\/oz (rd s (p+1))=100\/oz (rd s (p+1))=120)
 ·obtain⟨h0,hC⟩:=nV;rcases hC with hC|hC|hC
  ·exact Vd (.inl ⟨rfl,rfl⟩) h hs h37 hC h0
  ·exact Vd (.inr (.inl ⟨rfl,rfl⟩)) h hs h37 hC h0
  ·exact Vd (.inr (.inr ⟨rfl,rfl⟩)) h hs h37 hC h0
 have hR:=h.lt;have hlt:=fP (by omega) h37;obtain⟨p1,hp1⟩:∃ p1,p+1=p1:=⟨_,rfl⟩
 obtain⟨p2,hp2⟩:∃ p2,p1+1=p2:=⟨_,rfl⟩
 obtain⟨c0,c1,c2,z0,z1,z2⟩:=h.cells;have HA1:=hh9 ((h.put (x:=(p:Int)+1) (q:=p1) (by omega)).alloc (.cells #[.int .i64 0,.string ⟨#[]⟩,.slice none 0 0,.int .i64 0,.int .i64 0,.slice none 0 0] 29));have aT:=hh9 (dn (fu (iq w (some R)) 1 (.int .i64 ((p:Int)+1))) (.cells #[.int .i64 0,.string ⟨#[]⟩,.slice none 0 0,.int .i64 0,.int .i64 0,.slice none 0 0] 29))
 have HR1:Hid (bg ((w.setCell ⟨R,1,none⟩ (.int .i64 ((p:Int)+1))).alloc (.cells #[.int .i64 0,.string ⟨#[]⟩,.slice none 0 0,.int .i64 0,.int .i64 0,.slice none 0 0] 29)) w.heap.size):=by
  have g:=fG (w.setCell ⟨R,1,none⟩ (.int .i64 ((p:Int)+1)));rwa[show (w.setCell ⟨R,1,none⟩ (.int .i64 ((p:Int)+1))).heap.size=w.heap.size by simp]at g
 have hz1:w.heap.size+1<=((w.setCell ⟨R,1,none⟩ (.int .i64 ((p:Int)+1))).alloc (.cells #[.int .i64 0,.string ⟨#[]⟩,.slice none 0 0,.int .i64 0,.int .i64 0,.slice none 0 0] 29)).heap.size:=by simp
 have rV:=H6 s p1;obtain⟨Z,hZ⟩:∃ z,rd s p1=z:=⟨_,rfl⟩
 rw[hZ]at rV;have HZ:=hh9 hZ;have jB:=hh9 h37;have iJ:=hh9 hp1;have fZ:=hh9 hp2;have e1:p1+1<=p2/\p2<=p1+1/\p+1<=p1/\p1<=p+1/\p1<=s.size:=by omega
 obtain⟨e1,e2,e3,e4,e5⟩:=e1;have lq:Hid (kP Z=.none->∀ d,aK (rd s) .elem d p (.err 20)):=fun g d=>.kD h37 (by rw[hp1,hZ];exact g)
 clear h h37 hZ hp1 hp2;rw[iJ.out,HZ.out]at nV;by_cases hneg:Z<0
 ·have hz:Z=-1:=by omega
  subst hz;have hor:bits .or .i64 (-1) 32=-1:=by decide
  have pq:=hh9 (lq.out (zyx (.inl (by omega))));clear lq nV;go_enter Tryz.func119,Tryz.ntmps119;go_wp2_with fail
  refine(aQ HA1.out hs (by omega) _ HZ.out).mono ?_;rintro e w2 ⟨rfl,hb⟩;have HA2:=hh9 (HA1.out.below hb);have HG2:=hh9 (dw aT.out hb);have HR2:=hh9 (HR1.out.kept (hb.block _ HR1.out.lt));have hz2:w.heap.size+1<=w2.heap.size:=zbH hz1 hb.size;clear hb;go_wp2_with fail
  refine(aQ HA2.out hs (by omega) _ HZ.out).mono ?_;rintro e w3 ⟨rfl,hb⟩;have aC:=hh9 (HA2.out.below hb);have aG:=hh9 (dw HG2.out hb);have HR3:=hh9 (HR2.out.kept (hb.block _ HR2.out.lt));have hz3:w.heap.size+1<=w3.heap.size:=zbH hz2 hb.size;obtain⟨d0,d1,d2,y0,y1,y2⟩:=aC.out.cells;clear hb HA1 aT HR1 HA2 HG2 HR2 hz1 hz2 c0 c1 c2 z0 z1 z2;have vK:=hh9 (aC.out.put (x:=(p1:Int)+1) (q:=p2) (by omega));go_wp2_with fail
  refine(tZ vK.out 20).mono ?_;rintro e w5 ⟨rfl,ha,hg⟩;have hg':=(fu (iq w3 (some R)) 1 (.int .i64 ((p1:Int)+1))).trans hg;have bQ:=hh9 ha;have dR:=hh9 (aG.out.trans hg');have fT:=hh9 (bG HR3.out hg' (by omega));clear ha hg hg';go_wp2_with (refine bA rfl _ _ rfl w.heap.size ⟨0,⟨#[]⟩,.slice none 0 0,0,0,.slice none 0 0⟩ rfl rfl fT.out rfl rfl ?_)
  exact bodyPost_ret_by (zag rfl _ _ w.heap.size ⟨0,⟨#[]⟩,.slice none 0 0,0,0,.slice none 0 0⟩ rfl fT.out) rfl ⟨_,.mk 0 [] [] 0 0 [],p2,20,Ah _ _ 0 0 0 [],⟨rfl,bQ.out.aj (by omega) _,dY dR.out (zbA _) _⟩,.inr ⟨by omega,by omega,pq.out⟩⟩
 ·have vJ:=Uc Z (by omega) (by omega);obtain⟨C,hC⟩:∃ C,oz Z=C:=⟨_,rfl⟩
  have hor:bits .or .i64 Z 32=C:=by rw[vJ,hC]
  have hlt1:p1<s.size:=fP (by omega) HZ.out;have hnot:C≠98/\C≠100/\C≠120:=by rw[hC]at nV;exact⟨fun e=>nV ⟨by omega,.inl e⟩,fun e=>nV ⟨by omega,.inr (.inl e)⟩,fun e=>nV ⟨by omega,.inr (.inr e)⟩⟩
  clear nV;by_cases CP:C=105
  ·subst CP;clear hnot;have hK:=qf9 (Z:=Z) (by omega) (by omega) hC;have zO:=hh9 (show kP (rd s p1)=.text false by rw[HZ.out];exact hK)
   have hV2:Hid (∀ x q,iY (rd s) p2=.ok x q->∀ d,aK (rd s) .elem d p (.ok (mU x false) q)):=by
    have g1:=iJ.out;have g2:=fZ.out;have e:p2=p+2:=by omega
    rw[e];exact fun x q hr d=>.mq jB.out (by rw[g1];exact zO.out) hr
   have MQ:Hid (∀ c,iY (rd s) p2=.err c->∀ d,aK (rd s) .elem d p (.err c)):=by
    have g1:=iJ.out;have g2:=fZ.out;have e:p2=p+2:=by omega
    rw[e];exact fun c hr d=>.jl jB.out (by rw[g1];exact zO.out) hr
   clear lq hC vJ;by_cases fI:rd s p2=34
   ·have qj:Hid (rd s (p1+1)=34):=by rw[fZ.out];exact fI
    have Gr:=hh9 fI;clear fI;go_enter Tryz.func119,Tryz.ntmps119;go_wp2_with fail
    refine(aQ HA1.out hs (by omega) _ HZ.out).mono ?_;rintro e w2 ⟨rfl,hb⟩;have HA2:=hh9 (HA1.out.below hb);have HG2:=hh9 (dw aT.out hb);have HR2:=hh9 (HR1.out.kept (hb.block _ HR1.out.lt));have hz2:w.heap.size+1<=w2.heap.size:=zbH hz1 hb.size;clear hb;go_wp2_with fail
    refine(aQ HA2.out hs (by omega) _ HZ.out).mono ?_;rintro e w3 ⟨rfl,hb⟩;have aC:=hh9 (HA2.out.below hb);have aG:=hh9 (dw HG2.out hb);have HR3:=hh9 (HR2.out.kept (hb.block _ HR2.out.lt));have hz3:w.heap.size+1<=w3.heap.size:=zbH hz2 hb.size;obtain⟨d0,d1,d2,y0,y1,y2⟩:=aC.out.cells;clear hb HA1 aT HR1 HA2 HG2 HR2 hz1 hz2 c0 c1 c2 z0 z1 z2;go_wp2_with fail
    refine(iI aC.out hs (by omega) 1 (by omega) 1 rfl 34 qj.out).mono ?_;rintro e w4 ⟨rfl,hb⟩;have bf:=hh9 (aC.out.below hb);have bD:=hh9 (dw aG.out hb);have HR4:=hh9 (HR3.out.kept (hb.block _ HR3.out.lt));have dF:w.heap.size+1<=w4.heap.size:=zbH hz3 hb.size;clear hb d0 d1 d2 y0 y1 y2;obtain⟨d0,d1,d2,y0,y1,y2⟩:=bf.out.cells;have bQ:=hh9 (bf.out.put (x:=(p1:Int)+1) (q:=p2) (by omega));have dR:=hh9 (fu bD.out 1 (.int .i64 ((p1:Int)+1)));have fT:Hid (bg (w4.setCell ⟨R,1,none⟩ (.int .i64 ((p1:Int)+1))) w.heap.size):=zdt HR4.out (by omega);have rT:w.heap.size+1<=(w4.setCell ⟨R,1,none⟩ (.int .i64 ((p1:Int)+1))).heap.size:=by simpa using dF
    clear aC aG HR3 hz3 bf bD HR4 dF;go_wp2_with fail
    refine(zn8 bQ.out hs Gr.out).mono ?_;rintro e w6 ⟨x,t,q,c,ht,⟨rfl,ha,hg⟩,hout⟩;have H2:=hh9 (fq ht);have H5:=hh9 (eU ht);have HT:=hh9 (ht.weak (P':=fun b=>w.heap.size+1<=b) (fun b hP _=>by omega));have jL:=hh9 ha;have mP:=hh9 (dR.out.trans hg);have nZ:=hh9 (bG fT.out hg (by omega))
    have ay:Hid (qC s p t q c):=by
     rcases hout with ⟨rfl,h1,xs,h2,h3⟩|⟨rfl,h1,h2⟩
     ·refine .inl ⟨rfl,?_,h1,fun d=>?_⟩
      ·have:=(Ko h2).1;omega
      ·have h4:=hV2.out _ _ h2 d;rw[h3];exact h4
     ·exact .inr ⟨by omega,by omega,MQ.out _ h2⟩
    clear ht ha hg hout bQ dR fT;go_wp2_with (refine bA rfl _ _ rfl w.heap.size x rfl rfl nZ.out H2.out H5.out ?_)
    exact bodyPost_ret_by (zag rfl _ _ w.heap.size x rfl nZ.out) rfl ⟨x,t,q,c,(HT.out.aj (fun b hb=>by omega) _).weak (fun b hb _=>by omega),⟨rfl,jL.out.aj (by omega) _,dY mP.out (zbA _) _⟩,ay.out⟩
   ·have pq:Hid (∀ d,aK (rd s) .elem d p (.err 20)):=MQ.out 20 (by unfold iY;rw[if_neg fI]);obtain⟨Y,hY⟩:∃ y,rd s p2=y:=⟨_,rfl⟩
    have qy:(Y==34)=false:=by rw[<- hY];simpa using fI
    have HY:Hid (rd s (p1+1)=Y):=by rw[fZ.out];exact hY
    clear hY fI;go_enter Tryz.func119,Tryz.ntmps119;go_wp2_with fail
    refine(aQ HA1.out hs (by omega) _ HZ.out).mono ?_;rintro e w2 ⟨rfl,hb⟩;have HA2:=hh9 (HA1.out.below hb);have HG2:=hh9 (dw aT.out hb);have HR2:=hh9 (HR1.out.kept (hb.block _ HR1.out.lt));have hz2:w.heap.size+1<=w2.heap.size:=zbH hz1 hb.size;clear hb;go_wp2_with fail
    refine(aQ HA2.out hs (by omega) _ HZ.out).mono ?_;rintro e w3 ⟨rfl,hb⟩;have aC:=hh9 (HA2.out.below hb);have aG:=hh9 (dw HG2.out hb);have HR3:=hh9 (HR2.out.kept (hb.block _ HR2.out.lt));have hz3:w.heap.size+1<=w3.heap.size:=zbH hz2 hb.size;obtain⟨d0,d1,d2,y0,y1,y2⟩:=aC.out.cells;clear hb HA1 aT HR1 HA2 HG2 HR2 hz1 hz2 c0 c1 c2 z0 z1 z2;go_wp2_with fail
    refine(iI aC.out hs (by omega) 1 (by omega) 1 rfl Y HY.out).mono ?_;rintro e w4 ⟨rfl,hb⟩;have bf:=hh9 (aC.out.below hb);have bD:=hh9 (dw aG.out hb);have HR4:=hh9 (HR3.out.kept (hb.block _ HR3.out.lt));have dF:w.heap.size+1<=w4.heap.size:=zbH hz3 hb.size;clear hb d0 d1 d2 y0 y1 y2 aC aG HR3;obtain⟨d0,d1,d2,y0,y1,y2⟩:=bf.out.cells;have vK:=hh9 (bf.out.put (x:=(p1:Int)+1) (q:=p2) (by omega));go_wp2_with fail
    refine(tZ vK.out 20).mono ?_;rintro e w5 ⟨rfl,ha,hg⟩;have hg':=(fu (iq w4 (some R)) 1 (.int .i64 ((p1:Int)+1))).trans hg;have bQ:=hh9 ha;have dR:=hh9 (bD.out.trans hg');have fT:=hh9 (bG HR4.out hg' (by omega));clear ha hg hg';go_wp2_with (refine bA rfl _ _ rfl w.heap.size ⟨0,⟨#[]⟩,.slice none 0 0,0,0,.slice none 0 0⟩ rfl rfl fT.out rfl rfl ?_)
    exact bodyPost_ret_by (zag rfl _ _ w.heap.size ⟨0,⟨#[]⟩,.slice none 0 0,0,0,.slice none 0 0⟩ rfl fT.out) rfl ⟨_,.mk 0 [] [] 0 0 [],p2,20,Ah _ _ 0 0 0 [],⟨rfl,bQ.out.aj (by omega) _,dY dR.out (zbA _) _⟩,.inr ⟨by omega,by omega,pq.out⟩⟩
  ·by_cases Gs:C=115
   ·subst Gs;clear hnot CP;have hK:=qfa (Z:=Z) (by omega) (by omega) hC;have zO:=hh9 (show kP (rd s p1)=.text true by rw[HZ.out];exact hK)
    have hV2:Hid (∀ x q,iY (rd s) p2=.ok x q->∀ d,aK (rd s) .elem d p (.ok (mU x true) q)):=by
     have g1:=iJ.out;have g2:=fZ.out;have e:p2=p+2:=by omega
     rw[e];exact fun x q hr d=>.mq jB.out (by rw[g1];exact zO.out) hr
    have MQ:Hid (∀ c,iY (rd s) p2=.err c->∀ d,aK (rd s) .elem d p (.err c)):=by
     have g1:=iJ.out;have g2:=fZ.out;have e:p2=p+2:=by omega
     rw[e];exact fun c hr d=>.jl jB.out (by rw[g1];exact zO.out) hr
    clear lq hC vJ;by_cases fI:rd s p2=34
    ·have qj:Hid (rd s (p1+1)=34):=by rw[fZ.out];exact fI
     have Gr:=hh9 fI;clear fI;go_enter Tryz.func119,Tryz.ntmps119;go_wp2_with fail
     refine(aQ HA1.out hs (by omega) _ HZ.out).mono ?_;rintro e w2 ⟨rfl,hb⟩;have HA2:=hh9 (HA1.out.below hb);have HG2:=hh9 (dw aT.out hb);have HR2:=hh9 (HR1.out.kept (hb.block _ HR1.out.lt));have hz2:w.heap.size+1<=w2.heap.size:=zbH hz1 hb.size;clear hb;go_wp2_with fail
     refine(aQ HA2.out hs (by omega) _ HZ.out).mono ?_;rintro e w3 ⟨rfl,hb⟩;have aC:=hh9 (HA2.out.below hb);have aG:=hh9 (dw HG2.out hb);have HR3:=hh9 (HR2.out.kept (hb.block _ HR2.out.lt));have hz3:w.heap.size+1<=w3.heap.size:=zbH hz2 hb.size;obtain⟨d0,d1,d2,y0,y1,y2⟩:=aC.out.cells;clear hb HA1 aT HR1 HA2 HG2 HR2 hz1 hz2 c0 c1 c2 z0 z1 z2;go_wp2_with fail
     refine(iI aC.out hs (by omega) 1 (by omega) 1 rfl 34 qj.out).mono ?_;rintro e w4 ⟨rfl,hb⟩;have bf:=hh9 (aC.out.below hb);have bD:=hh9 (dw aG.out hb);have HR4:=hh9 (HR3.out.kept (hb.block _ HR3.out.lt));have dF:w.heap.size+1<=w4.heap.size:=zbH hz3 hb.size;clear hb d0 d1 d2 y0 y1 y2;obtain⟨d0,d1,d2,y0,y1,y2⟩:=bf.out.cells;have bQ:=hh9 (bf.out.put (x:=(p1:Int)+1) (q:=p2) (by omega));have dR:=hh9 (fu bD.out 1 (.int .i64 ((p1:Int)+1)));have fT:Hid (bg (w4.setCell ⟨R,1,none⟩ (.int .i64 ((p1:Int)+1))) w.heap.size):=zdt HR4.out (by omega);have rT:w.heap.size+1<=(w4.setCell ⟨R,1,none⟩ (.int .i64 ((p1:Int)+1))).heap.size:=by simpa using dF
     clear aC aG HR3 hz3 bf bD HR4 dF;go_wp2_with fail
     refine(zvc bQ.out hs Gr.out).mono ?_;rintro e w6 ⟨x,t,q,c,ht,⟨rfl,ha,hg⟩,hout⟩;have H2:=hh9 (fq ht);have H5:=hh9 (eU ht);have HT:=hh9 (ht.weak (P':=fun b=>w.heap.size+1<=b) (fun b hP _=>by omega));have jL:=hh9 ha;have mP:=hh9 (dR.out.trans hg);have nZ:=hh9 (bG fT.out hg (by omega))
     have ay:Hid (qC s p t q c):=by
      rcases hout with ⟨rfl,h1,xs,h2,h3⟩|⟨rfl,h1,h2⟩
      ·refine .inl ⟨rfl,?_,h1,fun d=>?_⟩
       ·have:=(Ko h2).1;omega
       ·have h4:=hV2.out _ _ h2 d;rw[h3];exact h4
      ·exact .inr ⟨by omega,by omega,MQ.out _ h2⟩
     clear ht ha hg hout bQ dR fT;go_wp2_with (refine bA rfl _ _ rfl w.heap.size x rfl rfl nZ.out H2.out H5.out ?_)
     exact bodyPost_ret_by (zag rfl _ _ w.heap.size x rfl nZ.out) rfl ⟨x,t,q,c,(HT.out.aj (fun b hb=>by omega) _).weak (fun b hb _=>by omega),⟨rfl,jL.out.aj (by omega) _,dY mP.out (zbA _) _⟩,ay.out⟩
    ·have pq:Hid (∀ d,aK (rd s) .elem d p (.err 20)):=MQ.out 20 (by unfold iY;rw[if_neg fI]);obtain⟨Y,hY⟩:∃ y,rd s p2=y:=⟨_,rfl⟩
     have qy:(Y==34)=false:=by rw[<- hY];simpa using fI
     have HY:Hid (rd s (p1+1)=Y):=by rw[fZ.out];exact hY
     clear hY fI;go_enter Tryz.func119,Tryz.ntmps119;go_wp2_with fail
     refine(aQ HA1.out hs (by omega) _ HZ.out).mono ?_;rintro e w2 ⟨rfl,hb⟩;have HA2:=hh9 (HA1.out.below hb);have HG2:=hh9 (dw aT.out hb);have HR2:=hh9 (HR1.out.kept (hb.block _ HR1.out.lt));have hz2:w.heap.size+1<=w2.heap.size:=zbH hz1 hb.size;clear hb;go_wp2_with fail
     refine(aQ HA2.out hs (by omega) _ HZ.out).mono ?_;rintro e w3 ⟨rfl,hb⟩;have aC:=hh9 (HA2.out.below hb);have aG:=hh9 (dw HG2.out hb);have HR3:=hh9 (HR2.out.kept (hb.block _ HR2.out.lt));have hz3:w.heap.size+1<=w3.heap.size:=zbH hz2 hb.size;obtain⟨d0,d1,d2,y0,y1,y2⟩:=aC.out.cells;clear hb HA1 aT HR1 HA2 HG2 HR2 hz1 hz2 c0 c1 c2 z0 z1 z2;go_wp2_with fail
     refine(iI aC.out hs (by omega) 1 (by omega) 1 rfl Y HY.out).mono ?_;rintro e w4 ⟨rfl,hb⟩;have bf:=hh9 (aC.out.below hb);have bD:=hh9 (dw aG.out hb);have HR4:=hh9 (HR3.out.kept (hb.block _ HR3.out.lt));have dF:w.heap.size+1<=w4.heap.size:=zbH hz3 hb.size;clear hb d0 d1 d2 y0 y1 y2 aC aG HR3;obtain⟨d0,d1,d2,y0,y1,y2⟩:=bf.out.cells;have vK:=hh9 (bf.out.put (x:=(p1:Int)+1) (q:=p2) (by omega));go_wp2_with fail
     refine(tZ vK.out 20).mono ?_;rintro e w5 ⟨rfl,ha,hg⟩;have hg':=(fu (iq w4 (some R)) 1 (.int .i64 ((p1:Int)+1))).trans hg;have bQ:=hh9 ha;have dR:=hh9 (bD.out.trans hg');have fT:=hh9 (bG HR4.out hg' (by omega));clear ha hg hg';go_wp2_with (refine bA rfl _ _ rfl w.heap.size ⟨0,⟨#[]⟩,.slice none 0 0,0,0,.slice none 0 0⟩ rfl rfl fT.out rfl rfl ?_)
     exact bodyPost_ret_by (zag rfl _ _ w.heap.size ⟨0,⟨#[]⟩,.slice none 0 0,0,0,.slice none 0 0⟩ rfl fT.out) rfl ⟨_,.mk 0 [] [] 0 0 [],p2,20,Ah _ _ 0 0 0 [],⟨rfl,bQ.out.aj (by omega) _,dY dR.out (zbA _) _⟩,.inr ⟨by omega,by omega,pq.out⟩⟩
   ·obtain⟨h98,MR,wN⟩:=hnot;have q1:(C==98)=false:=by simpa using h98
    have q2:(C==100)=false:=by simpa using MR
    have q3:(C==120)=false:=by simpa using wN
    have q4:(C==105)=false:=by simpa using CP
    have q5:(C==115)=false:=by simpa using Gs
    have pq:=hh9 (lq.out (zyx (.inr ⟨by omega,by omega,by omega,by omega,by omega,by omega,by omega⟩)));clear lq vJ hC h98 MR wN CP Gs;go_enter Tryz.func119,Tryz.ntmps119;go_wp2_with fail
    refine(aQ HA1.out hs (by omega) _ HZ.out).mono ?_;rintro e w2 ⟨rfl,hb⟩;have HA2:=hh9 (HA1.out.below hb);have HG2:=hh9 (dw aT.out hb);have HR2:=hh9 (HR1.out.kept (hb.block _ HR1.out.lt));have hz2:w.heap.size+1<=w2.heap.size:=zbH hz1 hb.size;clear hb;go_wp2_with fail
    refine(aQ HA2.out hs (by omega) _ HZ.out).mono ?_;rintro e w3 ⟨rfl,hb⟩;have aC:=hh9 (HA2.out.below hb);have aG:=hh9 (dw HG2.out hb);have HR3:=hh9 (HR2.out.kept (hb.block _ HR2.out.lt));have hz3:w.heap.size+1<=w3.heap.size:=zbH hz2 hb.size;obtain⟨d0,d1,d2,y0,y1,y2⟩:=aC.out.cells;clear hb HA1 aT HR1 HA2 HG2 HR2 hz1 hz2 c0 c1 c2 z0 z1 z2;have vK:=hh9 (aC.out.put (x:=(p1:Int)+1) (q:=p2) (by omega));go_wp2_with fail
    refine(tZ vK.out 20).mono ?_;rintro e w5 ⟨rfl,ha,hg⟩;have hg':=(fu (iq w3 (some R)) 1 (.int .i64 ((p1:Int)+1))).trans hg;have bQ:=hh9 ha;have dR:=hh9 (aG.out.trans hg');have fT:=hh9 (bG HR3.out hg' (by omega));clear ha hg hg';go_wp2_with (refine bA rfl _ _ rfl w.heap.size ⟨0,⟨#[]⟩,.slice none 0 0,0,0,.slice none 0 0⟩ rfl rfl fT.out rfl rfl ?_)
    exact bodyPost_ret_by (zag rfl _ _ w.heap.size ⟨0,⟨#[]⟩,.slice none 0 0,0,0,.slice none 0 0⟩ rfl fT.out) rfl ⟨_,.mk 0 [] [] 0 0 [],p2,20,Ah _ _ 0 0 0 [],⟨rfl,bQ.out.aj (by omega) _,dY dR.out (zbA _) _⟩,.inr ⟨by omega,by omega,pq.out⟩⟩
theorem qfb{s:ByteArray}{d p:Nat}{t:Tree}{q:Nat}{c:Int}(kT:rd s p=40)(h:Gf s d p 41 t q c):iF false s d .elem p t q c:=by
 rcases h with ⟨rfl,h1,h2,h3⟩|⟨h1,h2,h3⟩
 ·exact .inl ⟨rfl,h1,h2,Sr kT h3⟩
 ·exact .inr ⟨h1,h2,Sr kT h3⟩
theorem qfc{s:ByteArray}{d p:Nat}{t:Tree}{q:Nat}{c:Int}(pY:rd s p=91)(h:Gf s d p 93 t q c):iF false s d .elem p (pU 0 1 t) q c:=by
 rcases h with ⟨rfl,h1,h2,h3⟩|⟨h1,h2,h3⟩
 ·exact .inl ⟨rfl,h1,h2,Yq pY h3⟩
 ·exact .inr ⟨h1,h2,Yp pY h3⟩
theorem zvf{k:Nat}(hel:∀ k',k'<k->yj 43 true .alts k')(hbe:k≠0->yu 43):Py 98 k:=by
 intro R p d c0 s w h hs hp hp2 hd;have hR:=h.lt;have HR:=hh9 (fG w);have HA:=hh9 (h.alloc (.cells #[.int .i64 0,.string ⟨#[]⟩,.slice none 0 0,.int .i64 0,.int .i64 0,.slice none 0 0] 29));have HG:=hh9 (World.grownBy_alloc w (.cells #[.int .i64 0,.string ⟨#[]⟩,.slice none 0 0,.int .i64 0,.int .i64 0,.slice none 0 0] 29) (some R));obtain⟨Z,hZ⟩:∃ z,rd s p=z:=⟨_,rfl⟩
 have HZ:=hh9 hZ;clear h;by_cases hc0:c0=0
 ·subst hc0;obtain⟨hps,hd5,hkk⟩:=hp rfl;clear hp hd;have lX:Hid (∀ k',k'<s.size-p->yj 43 true .alts k'):=fun k' hk'=>hel k' (by omega)
  have pK:Hid (p<s.size->yu 43):=fun g=>hbe (by omega)
  clear hel hbe;by_cases kT:Z=40
  ·subst kT;have HZ2:=hh9 hZ;have hlt:=fP (by omega) hZ;clear hZ;go_enter Tryz.func98,Tryz.ntmps98;go_wp2_with fail
   refine(aQ HA.out hs (by omega) _ HZ.out).mono ?_;rintro e w1 ⟨rfl,hb⟩;have HA1:=hh9 (HA.out.below hb);have aT:=hh9 (dw HG.out hb);have HR1:=hh9 (HR.out.kept (hb.block _ HR.out.lt));have hz1:w.heap.size+1<=w1.heap.size:=by have:=hb.size;simp at this;omega
   obtain⟨d0,d1,d2,y0,y1,y2⟩:=HA1.out.cells;clear hb HA HG HR;go_wp2_with fail
   refine(zn7 40 41 (by omega) (by omega) lX.out (pK.out hlt) HA1.out hs hd5 HZ.out).mono ?_;rintro e w2 ⟨x,t,q,c,ht,⟨rfl,ha,hg⟩,hout⟩;have ay:=hh9 (qfb HZ.out hout);clear hout;have H2:=hh9 (fq ht);have H5:=hh9 (eU ht);have HT:=hh9 (ht.weak (P':=fun b=>w.heap.size+1<=b) (fun b hP _=>by omega));have HA2:=hh9 ha;have HG2:=hh9 (aT.out.trans hg);have HR2:=hh9 (bG HR1.out hg (by omega));clear ht ha hg HA1 aT HR1 d0 d1 d2 y0 y1 y2;go_wp2_with (refine bA rfl _ _ rfl w.heap.size x rfl rfl HR2.out H2.out H5.out ?_)
   exact bodyPost_ret_by (zag rfl _ _ w.heap.size x rfl HR2.out) rfl ⟨x,t,q,c,(HT.out.aj (fun b hb=>by omega) _).weak (fun b hb _=>by omega),⟨rfl,HA2.out.aj (by omega) _,dY HG2.out (zbA _) _⟩,.inl ⟨rfl,ay.out⟩⟩
  ·have q40:(Z==40)=false:=by simpa using kT
   by_cases pY:Z=91
   ·subst pY;have hlt:=fP (by omega) hZ;clear hZ kT;go_enter Tryz.func98,Tryz.ntmps98;go_wp2_with fail
    refine(aQ HA.out hs (by omega) _ HZ.out).mono ?_;rintro e w1 ⟨rfl,hb⟩;have HA1:=hh9 (HA.out.below hb);have aT:=hh9 (dw HG.out hb);have HR1:=hh9 (HR.out.kept (hb.block _ HR.out.lt));have hz1:w.heap.size+1<=w1.heap.size:=by have:=hb.size;simp at this;omega
    obtain⟨d0,d1,d2,y0,y1,y2⟩:=HA1.out.cells;clear hb HA HG HR;go_wp2_with fail
    refine(zn7 91 93 (by omega) (by omega) lX.out (pK.out hlt) HA1.out hs hd5 HZ.out).mono ?_;rintro e w2 ⟨x,t,q,c,ht,⟨rfl,ha,hg⟩,hout⟩;have ay:=hh9 (qfc HZ.out hout);have H2:=hh9 (fq ht);have H5:=hh9 (eU ht);have hz2:w.heap.size+1<=w2.heap.size:=by have:=hg.size;omega
    have HR2:=hh9 (lV (bG HR1.out hg (by omega)) (.cells x.arr 29));have HG2:=hh9 (dn (aT.out.trans hg) (.cells x.arr 29));have HA2:=hh9 (ha.alloc (.cells x.arr 29));have sN:=fK.one (W:=w2) (W':=w2.alloc (.cells x.arr 29)) (base:=w.heap.size+1) (g:=w2.heap.size) (ht.weak (fun b hP _=>by omega)) (zbA _) hz2 (zbO _ _) (fun b _ hl=>heap_alloc_old _ _ hl) (by simp);have HT:=hh9 (sN.tree 3 0 1);clear ht ha hg hout sN HA1 aT HR1 d0 d1 d2 y0 y1 y2
    go_wp2_with (first
     |(refine nR rfl _ rfl x rfl H2.out H5.out ?_)
     |(refine bA rfl _ _ rfl w.heap.size ⟨3,⟨#[]⟩,.slice none 0 0,0,1,.slice (some ⟨w2.heap.size,0,none⟩) 1 1⟩ rfl rfl HR2.out rfl rfl ?_))
    exact bodyPost_ret_by (zag rfl _ _ w.heap.size ⟨3,⟨#[]⟩,.slice none 0 0,0,1,.slice (some ⟨w2.heap.size,0,none⟩) 1 1⟩ rfl HR2.out) rfl ⟨_,_,q,c,(HT.out.aj (fun b hb=>by omega) _).weak (fun b hb _=>by omega),⟨rfl,HA2.out.aj (by omega) _,dY HG2.out (zbA _) _⟩,.inl ⟨rfl,ay.out⟩⟩
   ·have q91:(Z==91)=false:=by simpa using pY
    by_cases fI:Z=34
    ·subst fI;clear hZ kT pY;go_enter Tryz.func98,Tryz.ntmps98;go_wp2_with fail
     refine(aQ HA.out hs (by omega) _ HZ.out).mono ?_;rintro e w1 ⟨rfl,hb⟩;have HA1:=hh9 (HA.out.below hb);have aT:=hh9 (dw HG.out hb);have HR1:=hh9 (HR.out.kept (hb.block _ HR.out.lt));have hz1:w.heap.size+1<=w1.heap.size:=by have:=hb.size;simp at this;omega
     obtain⟨d0,d1,d2,y0,y1,y2⟩:=HA1.out.cells;clear hb HA HG HR;go_wp2_with fail
     refine(zn8 HA1.out hs HZ.out).mono ?_;rintro e w2 ⟨x,t,q,c,ht,⟨rfl,ha,hg⟩,hout⟩;have hpq:p<s.size:=fP (by omega) HZ.out
     have ay:Hid (iF false s d .elem p t q c):=by
      rcases hout with ⟨rfl,h1,xs,h2,h3⟩|⟨rfl,h1,h2⟩
      ·exact .inl ⟨rfl,Nat.le_of_lt (Ko h2).1,h1,by rw[h3];exact .mg HZ.out h2⟩
      ·exact .inr ⟨by omega,by omega,.mh HZ.out h2⟩
     clear hout;have H2:=hh9 (fq ht);have H5:=hh9 (eU ht);have HT:=hh9 (ht.weak (P':=fun b=>w.heap.size+1<=b) (fun b hP _=>by omega));have HA2:=hh9 ha;have HG2:=hh9 (aT.out.trans hg);have HR2:=hh9 (bG HR1.out hg (by omega));clear ht ha hg HA1 aT HR1 d0 d1 d2 y0 y1 y2;go_wp2_with (refine bA rfl _ _ rfl w.heap.size x rfl rfl HR2.out H2.out H5.out ?_)
     exact bodyPost_ret_by (zag rfl _ _ w.heap.size x rfl HR2.out) rfl ⟨x,t,q,c,(HT.out.aj (fun b hb=>by omega) _).weak (fun b hb _=>by omega),⟨rfl,HA2.out.aj (by omega) _,dY HG2.out (zbA _) _⟩,.inl ⟨rfl,ay.out⟩⟩
    ·have U2:(Z==34)=false:=by simpa using fI
     by_cases h37:Z=37
     ·subst h37;clear hZ kT pY fI;go_enter Tryz.func98,Tryz.ntmps98;go_wp2_with fail
      refine(aQ HA.out hs (by omega) _ HZ.out).mono ?_;rintro e w1 ⟨rfl,hb⟩;have HA1:=hh9 (HA.out.below hb);have aT:=hh9 (dw HG.out hb);have HR1:=hh9 (HR.out.kept (hb.block _ HR.out.lt));have hz1:w.heap.size+1<=w1.heap.size:=by have:=hb.size;simp at this;omega
      obtain⟨d0,d1,d2,y0,y1,y2⟩:=HA1.out.cells;clear hb HA HG HR;go_wp2_with fail
      refine(zve HA1.out hs HZ.out).mono ?_;rintro e w2 ⟨x,t,q,c,ht,⟨rfl,ha,hg⟩,hout⟩
      have ay:Hid (iF false s d .elem p t q c):=by
       rcases hout with ⟨rfl,h1,h2,h3⟩|⟨h0,h1,h3⟩
       ·exact .inl ⟨rfl,h1,h2,h3 d⟩
       ·exact .inr ⟨h0,by omega,h3 d⟩
      clear hout;have H2:=hh9 (fq ht);have H5:=hh9 (eU ht);have HT:=hh9 (ht.weak (P':=fun b=>w.heap.size+1<=b) (fun b hP _=>by omega));have HA2:=hh9 ha;have HG2:=hh9 (aT.out.trans hg);have HR2:=hh9 (bG HR1.out hg (by omega));clear ht ha hg HA1 aT HR1 d0 d1 d2 y0 y1 y2;go_wp2_with (refine bA rfl _ _ rfl w.heap.size x rfl rfl HR2.out H2.out H5.out ?_)
      exact bodyPost_ret_by (zag rfl _ _ w.heap.size x rfl HR2.out) rfl ⟨x,t,q,c,(HT.out.aj (fun b hb=>by omega) _).weak (fun b hb _=>by omega),⟨rfl,HA2.out.aj (by omega) _,dY HG2.out (zbA _) _⟩,.inl ⟨rfl,ay.out⟩⟩
     ·have q37:(Z==37)=false:=by simpa using h37
      have lq:Hid (aH Z=false->aK (rd s) .elem d p (.err 20)):=fun g=>.no (by rw[hZ];exact g) (by rw[hZ];exact kT) (by rw[hZ];exact pY) (by rw[hZ];exact fI) (by rw[hZ];exact h37)
      clear hZ kT pY fI h37;go_enter Tryz.func98,Tryz.ntmps98;go_wp2_with fail
      refine(aQ HA.out hs (by omega) _ HZ.out).mono ?_;rintro e w1 ⟨rfl,hb⟩;have HA1:=hh9 (HA.out.below hb);have aT:=hh9 (dw HG.out hb);have HR1:=hh9 (HR.out.kept (hb.block _ HR.out.lt));have hz1:w.heap.size+1<=w1.heap.size:=by have:=hb.size;simp at this;omega
      obtain⟨d0,d1,d2,y0,y1,y2⟩:=HA1.out.cells;clear hb HA HG HR;go_wp2_with fail
      refine(zpw HA1.out hs hps).mono ?_;intro e w2 hn
      obtain⟨x,q,c,hg3,hout⟩:∃ (x:List Int) (q:Nat) (c:Int),aW R s (.string (ak x)) q c w1 e w2/\iF false s d .elem p (Ew x) q c:=by
       rcases hn with ⟨h1,h2⟩|⟨h1,x,q,h2,h3⟩|⟨h1,h2,x,q,h3,h4⟩
       ·exact⟨[],p,20,h2,.inr ⟨by omega,by omega,lq.out (by rw[<- HZ.out];exact h1)⟩⟩
       ·exact⟨x,q,0,h3,.inl ⟨rfl,(E8 hps h2).1,(E8 hps h2).2,.mV h1 h2⟩⟩
       ·exact⟨x,q,2,h4,.inr ⟨by omega,by omega,.l9 h1 h2⟩⟩
      obtain⟨rfl,ha,hg⟩:=hg3;have ay:=hh9 hout;have HA2:=hh9 ha;have HG2:=hh9 (aT.out.trans hg);have HR2:=hh9 (bG HR1.out hg (by omega));obtain⟨T,hT⟩:∃ T,T=ak x:=⟨_,rfl⟩
      have HT:=hh9 hT;rw[<- hT];clear hn hout ha hg hT HA1 aT HR1 d0 d1 d2 y0 y1 y2;go_wp2_with (refine bA rfl _ _ rfl w.heap.size ⟨4,T,.slice none 0 0,0,0,.slice none 0 0⟩ rfl rfl HR2.out rfl rfl ?_)
      refine bodyPost_ret_by (zag rfl _ _ w.heap.size ⟨4,T,.slice none 0 0,0,0,.slice none 0 0⟩ rfl HR2.out) rfl ⟨_,Ew x,q,c,?_,⟨rfl,HA2.out.aj (by omega) _,dY HG2.out (zbA _) _⟩,.inl ⟨rfl,ay.out⟩⟩;rw[HT.out];exact Ah _ _ _ _ _ _
 ·have qc:(c0 != 0)=true:=by simpa using hc0
  clear hZ hel hbe hp;go_enter Tryz.func98,Tryz.ntmps98;go_wp2_with fail
  refine(aQ HA.out hs (by omega) _ HZ.out).mono ?_;rintro e w1 ⟨rfl,hb⟩;have HA1:=hh9 (HA.out.below hb);have aT:=hh9 (dw HG.out hb);have HR1:=hh9 (HR.out.kept (hb.block _ HR.out.lt));have hz1:w.heap.size+1<=w1.heap.size:=by have:=hb.size;simp at this;omega
  obtain⟨d0,d1,d2,y0,y1,y2⟩:=HA1.out.cells;clear hb HA HG HR;go_wp2_with (refine bA rfl _ _ rfl w.heap.size ⟨0,⟨#[]⟩,.slice none 0 0,0,0,.slice none 0 0⟩ rfl rfl HR1.out rfl rfl ?_)
  exact bodyPost_ret_by (zag rfl _ _ w.heap.size ⟨0,⟨#[]⟩,.slice none 0 0,0,0,.slice none 0 0⟩ rfl HR1.out) rfl ⟨_,.mk 0 [] [] 0 0 [],p,c0,Ah _ _ 0 0 0 [],⟨rfl,HA1.out.aj (by omega) _,dY aT.out (zbA _) _⟩,.inr ⟨hc0,rfl,rfl⟩⟩
theorem zql:∀ k,Py 98 k:=fun k=>by
 induction k using Nat.strongRecOn with
 |ind k ih=>exact zvf (fun k' hk'=>zqk (zqj (ztl (Pz (ih k' hk'))))) (fun hk=>zlr (zlq (zlp (Pz (ih (k-1) (by omega))))))
theorem zz0(k:Nat):yj 43 true .alts k:=zqk (zqj (ztl (Pz (zql k))))
theorem zqm:yu 43:=zlr (zlq (zlp (Pz (zql 0))))
end Go.Proofs.YtahibnnhjahmnaaGreatDoor
