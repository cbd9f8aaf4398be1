/- Part 37 of what the laws of the grammar rest on. -/
import Derived.Test.YtahibnnhjahmnaaGreatDoorA36
set_option linter.all false
set_option maxRecDepth 100000
set_option maxHeartbeats 8000000
namespace Go.Proofs.YtahibnnhjahmnaaGreatDoor
open Go.RowKit
def CK(c0:Int)(s:ByteArray)(d p:Nat)(t:Tree)(q:Nat)(c:Int):Prop:=(c0=0/\iF false s d .rep p t q c)\/(c0≠0/\c=c0/\q<=p+1)
theorem qbu{s:ByteArray}{d p q1 q2 q3:Nat}{c0 c1 c2 c3 n1 n2:Int}{t:Tree}(lW:rd s q1=42)
  (h1:(c0=0/\c1=0/\p<=q1/\q1<=s.size/\yt (rd s) p=.ok n1 q1)\/(c0=0/\c1=2/\q1<=s.size/\yt (rd s) p=.err 2/\n1=-1)\/(c0≠0/\c1=c0/\q1=p/\n1=-1))
  (h2:(c1=0/\c2=0/\q1+1<=q2/\q2<=s.size/\yt (rd s) (q1+1)=.ok n2 q2)\/(c1=0/\c2=2/\q2<=s.size/\yt (rd s) (q1+1)=.err 2/\n2=-1)\/(c1≠0/\c2=c1/\q2=q1+1/\n2=-1))
  (h3:(c2=0/\iF false s d .elem q2 t q3 c3)\/(c2≠0/\c3=c2/\q3=q2)) :
  (¬ (0<=n2/\n2<max n1 0)->CK c0 s d p (pU (max n1 0) n2 t) q3 c3)/\(0<=n2/\n2<max n1 0->CK c0 s d p (pU (max n1 0) n2 t) q3 (if c3=0 then 20 else c3)):=by
 rcases h1 with ⟨rfl,rfl,a1,a2,a3⟩|⟨rfl,rfl,a2,a3,rfl⟩|⟨a0,rfl,rfl,rfl⟩
 ·rcases h2 with ⟨_,rfl,b1,b2,b3⟩|⟨_,rfl,b2,b3,rfl⟩|⟨b0,_⟩
  ·rcases h3 with ⟨_,ho⟩|⟨g,_⟩
   ·have hf:=ztk (p:=p) (by omega) (Km a3 lW b3) ho;exact⟨fun h=>.inl ⟨rfl,hf.1 h⟩,fun h=>.inl ⟨rfl,hf.2 h⟩⟩
   ·exact absurd rfl g
  ·rcases h3 with ⟨g,_⟩|⟨_,rfl,rfl⟩
   ·cases g
   ·have hco:=Sb a3 lW b3;refine⟨fun _=>.inl ⟨rfl,.inr ⟨by omega,by omega,.dU hco⟩⟩,fun h=>by omega⟩
  ·exact absurd rfl b0
 ·rcases h2 with ⟨g,_⟩|⟨g,_⟩|⟨_,rfl,rfl,rfl⟩
  ·cases g
  ·cases g
  ·rcases h3 with ⟨g,_⟩|⟨_,rfl,rfl⟩
   ·cases g
   ·refine⟨fun _=>.inl ⟨rfl,.inr ⟨by omega,by omega,.dU (Sc a3)⟩⟩,fun h=>by omega⟩
 ·rcases h2 with ⟨g,_⟩|⟨g,_⟩|⟨_,rfl,rfl,rfl⟩
  ·exact absurd g a0
  ·exact absurd g a0
  ·rcases h3 with ⟨g,_⟩|⟨_,rfl,rfl⟩
   ·exact absurd g a0
   ·exact⟨fun _=>.inr ⟨a0,rfl,by omega⟩,fun h=>by omega⟩
theorem zys{s:ByteArray}{d p q1 q3:Nat}{c0 c1 c3 n1:Int}{t:Tree}(lW:rd s q1≠42)
  (h1:(c0=0/\c1=0/\p<=q1/\q1<=s.size/\yt (rd s) p=.ok n1 q1)\/(c0=0/\c1=2/\q1<=s.size/\yt (rd s) p=.err 2/\n1=-1)\/(c0≠0/\c1=c0/\q1=p/\n1=-1))
  (h3:(c1=0/\iF false s d .elem q1 t q3 c3)\/(c1≠0/\c3=c1/\q3=q1)) :
  (n1<0->CK c0 s d p t q3 c3)/\(0<=n1->CK c0 s d p (pU n1 n1 t) q3 c3):=by
 rcases h1 with ⟨rfl,rfl,a1,a2,a3⟩|⟨rfl,rfl,a2,a3,rfl⟩|⟨a0,rfl,rfl,rfl⟩
 ·rcases h3 with ⟨_,ho⟩|⟨g,_⟩
  ·refine⟨fun h=>.inl ⟨rfl,qbt a1 a3 lW h ho⟩,fun h=>?_⟩;have hc:=Oj a3 lW;rw[show decide (0<=n1)=true from zbN h,show max n1 0=n1 by omega]at hc;exact .inl ⟨rfl,(ztk a1 hc ho).1 (by omega)⟩
  ·exact absurd rfl g
 ·rcases h3 with ⟨g,_⟩|⟨_,rfl,rfl⟩
  ·cases g
  ·exact⟨fun _=>.inl ⟨rfl,.inr ⟨by omega,by omega,.dU (Sc a3)⟩⟩,fun h=>by omega⟩
 ·rcases h3 with ⟨g,_⟩|⟨_,rfl,rfl⟩
  ·exact absurd g a0
  ·exact⟨fun _=>.inr ⟨a0,rfl,by omega⟩,fun h=>by omega⟩
theorem Pz{k:Nat}(hel:Py 98 k):U7 80 k:=by
 intro R p d c0 s w h hs hp hp2 hd;have hR:=h.lt;have HR:=hh9 (fG w);have HA:=hh9 (h.alloc (.cells #[.int .i64 0,.string ⟨#[]⟩,.slice none 0 0,.int .i64 0,.int .i64 0,.slice none 0 0] 29));have HG:=hh9 (World.grownBy_alloc w (.cells #[.int .i64 0,.string ⟨#[]⟩,.slice none 0 0,.int .i64 0,.int .i64 0,.slice none 0 0] 29) (some R));have lX:Hid (Py 98 k):=@hel;have HP:=hh9 hp;clear h hel hp;go_enter Tryz.func80,Tryz.ntmps80;go_wp2_with fail
 refine(ztj HA.out hs (fun g=>(HP.out g).1)).mono ?_;rintro e w1 ⟨n1,q1,c1,⟨rfl,ha,hg⟩,hn1,hn2,hout1⟩;have HA1:=hh9 ha;have aT:=hh9 (HG.out.trans hg);have HR1:=hh9 (bG HR.out hg (by omega));have hz1:w.heap.size+1<=w1.heap.size:=by have:=hg.size;simp at this;omega
 have hq1:q1<=54000:=by rcases hout1 with g|g|g<;>omega
 have jv:=hh9 hout1;clear ha hg HA HG HR hout1;by_cases lW:rd s q1=42
 ·have rR:=hh9 lW;have hlt:q1<s.size:=fP (by omega) lW;clear lW;go_wp2_with fail
  refine(aQ HA1.out hs (by omega) _ rR.out).mono ?_;rintro e PD ⟨rfl,hb⟩;have xR:=hh9 (HA1.out.below hb);have zT:=hh9 (dw aT.out hb);have zU:=hh9 (HR1.out.kept (hb.block _ HR1.out.lt));have hz1b:w.heap.size+1<=PD.heap.size:=by have:=hb.size;omega
  obtain⟨d0,d1,d2,y0,y1,y2⟩:=xR.out.cells;clear hb;go_wp2_with fail
  refine(ztj xR.out.step hs (fun g=>by omega)).mono ?_;rintro e w2 ⟨n2,q2,c2,⟨rfl,ha,hg⟩,hm1,hm2,hout2⟩;have hg':=(fu (iq PD (some R)) 1 (.int .i64 ((q1:Int)+1))).trans hg;have HA2:=hh9 ha;have HG2:=hh9 (zT.out.trans hg');have HR2:=hh9 (bG zU.out hg' (by omega));have hz2:w.heap.size+1<=w2.heap.size:=by have:=hg'.size;omega
  have hq2:q2<=55000:=by rcases hout2 with g|g|g<;>omega
  have sG:Hid (c2=0->q2<=s.size/\d<=50/\s.size-q2<=k):=by
   intro g;rcases hout2 with g2|g2|g2
   ·rcases jv.out with g1|g1|g1
    ·have:=HP.out g1.1;omega
    ·omega
    ·omega
   ·omega
   ·omega
  have Aj:=hh9 hout2;clear ha hg hg' hout2 HA1 aT HR1 xR zT zU d0 d1 d2 y0 y1 y2;go_wp2_with fail
  refine(lX.out HA2.out hs sG.out hq2 hd).mono ?_;rintro e w3 ⟨x,t,q3,c3,ht,⟨rfl,ha,hg⟩,tu⟩;have aF:=hh9 (qbu rR.out jv.out Aj.out tu);obtain⟨M,hM⟩:∃ M,max n1 0=M:=⟨_,rfl⟩
  rw[hM]at aF;have hMr:0<=M:=by omega
  have H2:=hh9 (fq ht);have H5:=hh9 (eU ht);have hz3:w.heap.size+1<=w3.heap.size:=by have:=hg.size;omega
  have HX:Hid (((w3.alloc (.cells #[.int .i64 0,.string ⟨#[]⟩,.slice none 0 0,.int .i64 0,.int .i64 0,.slice none 0 0] 29)).setRow w3.heap.size x.arr).heap[w3.heap.size]?=some (.cells x.arr 29 (0,0))):=wF (fG w3) _
  have HT3:Hid (av ((w3.alloc (.cells #[.int .i64 0,.string ⟨#[]⟩,.slice none 0 0,.int .i64 0,.int .i64 0,.slice none 0 0] 29)).setRow w3.heap.size x.arr) (fun b=>w.heap.size+1<=b) x t):=by
   have h1:=ht.weak (P':=fun b=>w.heap.size+1<=b/\b≠w3.heap.size) (fun b hP hl=>⟨by omega,by omega⟩);have h3:=h1.under (W':=w3.alloc (.cells #[.int .i64 0,.string ⟨#[]⟩,.slice none 0 0,.int .i64 0,.int .i64 0,.slice none 0 0] 29)) ((zbE _ _).alloc (zbA _) _);exact(h3.aj (fun b hP=>hP.2) _).weak (fun b hP _=>hP.1)
  have aG:Hid (w.grownBy ((w3.alloc (.cells #[.int .i64 0,.string ⟨#[]⟩,.slice none 0 0,.int .i64 0,.int .i64 0,.slice none 0 0] 29)).setRow w3.heap.size x.arr) (some R)):=dY (dn (HG2.out.trans hg) _) (by omega) _;have aC:Hid (bL ((w3.alloc (.cells #[.int .i64 0,.string ⟨#[]⟩,.slice none 0 0,.int .i64 0,.int .i64 0,.slice none 0 0] 29)).setRow w3.heap.size x.arr) R s q3 c3):=(ha.alloc _).aj (by omega) _;have HR3:Hid (bg ((w3.alloc (.cells #[.int .i64 0,.string ⟨#[]⟩,.slice none 0 0,.int .i64 0,.int .i64 0,.slice none 0 0] 29)).setRow w3.heap.size x.arr) w.heap.size):=Ai (lV (bG HR2.out hg (by omega)) _) _ (by omega);have dF:w.heap.size+1<=((w3.alloc (.cells #[.int .i64 0,.string ⟨#[]⟩,.slice none 0 0,.int .i64 0,.int .i64 0,.slice none 0 0] 29)).setRow w3.heap.size x.arr).heap.size:=by simp[World.setRow];omega
  clear ht ha hg;clear tu;by_cases hbad:0<=n2/\n2<M
  ·obtain⟨b1,b2⟩:=hbad;have wC:=hh9 (aF.out.2 ⟨b1,b2⟩);clear aF;by_cases hc3:c3=0
   ·subst hc3;rw[if_pos rfl]at wC;have ay:=wC;have b3:¬ n1<0:=by omega
    go_wp2_with (refine bA rfl _ _ rfl w3.heap.size x rfl rfl (fG w3) H2.out H5.out ?_)
    refine(tZ aC.out 20).mono ?_;rintro e w5 ⟨rfl,ha,hg⟩;have hlt3:w3.heap.size<((w3.alloc (.cells #[.int .i64 0,.string ⟨#[]⟩,.slice none 0 0,.int .i64 0,.int .i64 0,.slice none 0 0] 29)).setRow w3.heap.size x.arr).heap.size:=by simp[World.setRow]
    have rZ:Hid (w5.heap[w3.heap.size]?=some (.cells x.arr 29 (0,0))):=(hg.block w3.heap.size hlt3 (fun e=>by have:=zbB e;omega)).trans HX.out;have o8:=hh9 (HT3.out.kept (P':=fun b=>w.heap.size+1<=b) (fun b hP hl=>⟨hg.block b hl (fun e=>by have:=zbB e;omega),hP⟩) hg.size);have dR:=hh9 (aG.out.trans hg);have fT:=hh9 (bG HR3.out hg (by omega));have bQ:=hh9 ha;have rT:w.heap.size+1<=w5.heap.size:=by have:=hg.size;omega
    have HF:=hh9 (Gd M n2 hR rT o8.out bQ.out dR.out fT.out);clear ha hg hlt3 HT3 aC aG HR3 dF o8 dR fT bQ HX
    go_wp2_with (first
     |(refine mO rfl _ rfl w3.heap.size x rfl rZ.out ?_)
     |(refine nR rfl _ rfl x rfl H2.out H5.out ?_)
     |(refine bA rfl _ _ rfl w.heap.size ⟨3,⟨#[]⟩,.slice none 0 0,M,n2,.slice (some ⟨w5.heap.size,0,none⟩) 1 1⟩ rfl rfl HF.out.1 rfl rfl ?_))
    exact bodyPost_ret_by (zag rfl _ _ w.heap.size ⟨3,⟨#[]⟩,.slice none 0 0,M,n2,.slice (some ⟨w5.heap.size,0,none⟩) 1 1⟩ rfl HF.out.1) rfl ⟨_,_,q3,_,HF.out.2.1,HF.out.2.2,ay.out⟩
   ·rw[if_neg hc3]at wC;have ay:=wC;have b3:¬ n1<0:=by omega
    go_wp2_with (refine bA rfl _ _ rfl w3.heap.size x rfl rfl (fG w3) H2.out H5.out ?_)
    refine(FH aC.out hc3 20).mono ?_;rintro e w5 ⟨rfl,ha,hg⟩;have hlt3:w3.heap.size<((w3.alloc (.cells #[.int .i64 0,.string ⟨#[]⟩,.slice none 0 0,.int .i64 0,.int .i64 0,.slice none 0 0] 29)).setRow w3.heap.size x.arr).heap.size:=by simp[World.setRow]
    have rZ:Hid (w5.heap[w3.heap.size]?=some (.cells x.arr 29 (0,0))):=(hg.block w3.heap.size hlt3 (fun e=>by have:=zbB e;omega)).trans HX.out;have o8:=hh9 (HT3.out.kept (P':=fun b=>w.heap.size+1<=b) (fun b hP hl=>⟨hg.block b hl (fun e=>by have:=zbB e;omega),hP⟩) hg.size);have dR:=hh9 (aG.out.trans hg);have fT:=hh9 (bG HR3.out hg (by omega));have bQ:=hh9 ha;have rT:w.heap.size+1<=w5.heap.size:=by have:=hg.size;omega
    have HF:=hh9 (Gd M n2 hR rT o8.out bQ.out dR.out fT.out);clear ha hg hlt3 HT3 aC aG HR3 dF o8 dR fT bQ HX
    go_wp2_with (first
     |(refine mO rfl _ rfl w3.heap.size x rfl rZ.out ?_)
     |(refine nR rfl _ rfl x rfl H2.out H5.out ?_)
     |(refine bA rfl _ _ rfl w.heap.size ⟨3,⟨#[]⟩,.slice none 0 0,M,n2,.slice (some ⟨w5.heap.size,0,none⟩) 1 1⟩ rfl rfl HF.out.1 rfl rfl ?_))
    exact bodyPost_ret_by (zag rfl _ _ w.heap.size ⟨3,⟨#[]⟩,.slice none 0 0,M,n2,.slice (some ⟨w5.heap.size,0,none⟩) 1 1⟩ rfl HF.out.1) rfl ⟨_,_,q3,_,HF.out.2.1,HF.out.2.2,ay.out⟩
  ·have ay:=hh9 (aF.out.1 hbad);clear aF;by_cases b1:0<=n2
   ·have b2:¬ n2<M:=fun b2=>hbad ⟨b1,b2⟩
    clear hbad;by_cases b3:n1<0
    ·have hsz:w3.heap.size+1=((w3.alloc (.cells #[.int .i64 0,.string ⟨#[]⟩,.slice none 0 0,.int .i64 0,.int .i64 0,.slice none 0 0] 29)).setRow w3.heap.size x.arr).heap.size:=by simp[World.setRow]
     have HF:=hh9 (Gd M n2 hR dF HT3.out aC.out aG.out HR3.out);rw[<- hsz]at HF;clear hsz HT3 aC aG HR3 dF
     go_wp2_with (first
      |(refine bA rfl _ _ rfl w3.heap.size x rfl rfl (fG w3) H2.out H5.out ?_)
      |(refine mO rfl _ rfl w3.heap.size x rfl HX.out ?_)
      |(refine nR rfl _ rfl x rfl H2.out H5.out ?_)
      |(refine bA rfl _ _ rfl w.heap.size ⟨3,⟨#[]⟩,.slice none 0 0,M,n2,.slice (some ⟨w3.heap.size+1,0,none⟩) 1 1⟩ rfl rfl HF.out.1 rfl rfl ?_))
     exact bodyPost_ret_by (zag rfl _ _ w.heap.size ⟨3,⟨#[]⟩,.slice none 0 0,M,n2,.slice (some ⟨w3.heap.size+1,0,none⟩) 1 1⟩ rfl HF.out.1) rfl ⟨_,_,q3,c3,HF.out.2.1,HF.out.2.2,ay.out⟩
    ·have hsz:w3.heap.size+1=((w3.alloc (.cells #[.int .i64 0,.string ⟨#[]⟩,.slice none 0 0,.int .i64 0,.int .i64 0,.slice none 0 0] 29)).setRow w3.heap.size x.arr).heap.size:=by simp[World.setRow]
     have HF:=hh9 (Gd M n2 hR dF HT3.out aC.out aG.out HR3.out);rw[<- hsz]at HF;clear hsz HT3 aC aG HR3 dF
     go_wp2_with (first
      |(refine bA rfl _ _ rfl w3.heap.size x rfl rfl (fG w3) H2.out H5.out ?_)
      |(refine mO rfl _ rfl w3.heap.size x rfl HX.out ?_)
      |(refine nR rfl _ rfl x rfl H2.out H5.out ?_)
      |(refine bA rfl _ _ rfl w.heap.size ⟨3,⟨#[]⟩,.slice none 0 0,M,n2,.slice (some ⟨w3.heap.size+1,0,none⟩) 1 1⟩ rfl rfl HF.out.1 rfl rfl ?_))
     exact bodyPost_ret_by (zag rfl _ _ w.heap.size ⟨3,⟨#[]⟩,.slice none 0 0,M,n2,.slice (some ⟨w3.heap.size+1,0,none⟩) 1 1⟩ rfl HF.out.1) rfl ⟨_,_,q3,c3,HF.out.2.1,HF.out.2.2,ay.out⟩
   ·clear hbad;by_cases b3:n1<0
    ·have hsz:w3.heap.size+1=((w3.alloc (.cells #[.int .i64 0,.string ⟨#[]⟩,.slice none 0 0,.int .i64 0,.int .i64 0,.slice none 0 0] 29)).setRow w3.heap.size x.arr).heap.size:=by simp[World.setRow]
     have HF:=hh9 (Gd M n2 hR dF HT3.out aC.out aG.out HR3.out);rw[<- hsz]at HF;clear hsz HT3 aC aG HR3 dF
     go_wp2_with (first
      |(refine bA rfl _ _ rfl w3.heap.size x rfl rfl (fG w3) H2.out H5.out ?_)
      |(refine mO rfl _ rfl w3.heap.size x rfl HX.out ?_)
      |(refine nR rfl _ rfl x rfl H2.out H5.out ?_)
      |(refine bA rfl _ _ rfl w.heap.size ⟨3,⟨#[]⟩,.slice none 0 0,M,n2,.slice (some ⟨w3.heap.size+1,0,none⟩) 1 1⟩ rfl rfl HF.out.1 rfl rfl ?_))
     exact bodyPost_ret_by (zag rfl _ _ w.heap.size ⟨3,⟨#[]⟩,.slice none 0 0,M,n2,.slice (some ⟨w3.heap.size+1,0,none⟩) 1 1⟩ rfl HF.out.1) rfl ⟨_,_,q3,c3,HF.out.2.1,HF.out.2.2,ay.out⟩
    ·have hsz:w3.heap.size+1=((w3.alloc (.cells #[.int .i64 0,.string ⟨#[]⟩,.slice none 0 0,.int .i64 0,.int .i64 0,.slice none 0 0] 29)).setRow w3.heap.size x.arr).heap.size:=by simp[World.setRow]
     have HF:=hh9 (Gd M n2 hR dF HT3.out aC.out aG.out HR3.out);rw[<- hsz]at HF;clear hsz HT3 aC aG HR3 dF
     go_wp2_with (first
      |(refine bA rfl _ _ rfl w3.heap.size x rfl rfl (fG w3) H2.out H5.out ?_)
      |(refine mO rfl _ rfl w3.heap.size x rfl HX.out ?_)
      |(refine nR rfl _ rfl x rfl H2.out H5.out ?_)
      |(refine bA rfl _ _ rfl w.heap.size ⟨3,⟨#[]⟩,.slice none 0 0,M,n2,.slice (some ⟨w3.heap.size+1,0,none⟩) 1 1⟩ rfl rfl HF.out.1 rfl rfl ?_))
     exact bodyPost_ret_by (zag rfl _ _ w.heap.size ⟨3,⟨#[]⟩,.slice none 0 0,M,n2,.slice (some ⟨w3.heap.size+1,0,none⟩) 1 1⟩ rfl HF.out.1) rfl ⟨_,_,q3,c3,HF.out.2.1,HF.out.2.2,ay.out⟩
 ·obtain⟨Z,hZ⟩:∃ z,rd s q1=z:=⟨_,rfl⟩
  have qz:(Z==42)=false:=by rw[<- hZ];simpa using lW
  have HZ:=hh9 hZ;have rR:=hh9 lW;clear hZ lW;go_wp2_with fail
  refine(aQ HA1.out hs (by omega) _ HZ.out).mono ?_;rintro e w2 ⟨rfl,hb⟩;have HA2:=hh9 (HA1.out.below hb);have HG2:=hh9 (dw aT.out hb);have HR2:=hh9 (HR1.out.kept (hb.block _ HR1.out.lt));have hz2:w.heap.size+1<=w2.heap.size:=by have:=hb.size;omega
  have sG:Hid (c1=0->q1<=s.size/\d<=50/\s.size-q1<=k):=by
   intro g;rcases jv.out with g1|g1|g1
   ·have:=HP.out g1.1;omega
   ·omega
   ·omega
  clear hb HA1 aT HR1;go_wp2_with fail
  refine(lX.out HA2.out hs sG.out (by omega) hd).mono ?_;rintro e w3 ⟨x,t,q3,c3,ht,⟨rfl,ha,hg⟩,tu⟩;have aF:=hh9 (zys rR.out jv.out tu);have H2:=hh9 (fq ht);have H5:=hh9 (eU ht);have hz3:w.heap.size+1<=w3.heap.size:=by have:=hg.size;omega
  have HX:Hid (((w3.alloc (.cells #[.int .i64 0,.string ⟨#[]⟩,.slice none 0 0,.int .i64 0,.int .i64 0,.slice none 0 0] 29)).setRow w3.heap.size x.arr).heap[w3.heap.size]?=some (.cells x.arr 29 (0,0))):=wF (fG w3) _
  have HT3:Hid (av ((w3.alloc (.cells #[.int .i64 0,.string ⟨#[]⟩,.slice none 0 0,.int .i64 0,.int .i64 0,.slice none 0 0] 29)).setRow w3.heap.size x.arr) (fun b=>w.heap.size+1<=b) x t):=by
   have h1:=ht.weak (P':=fun b=>w.heap.size+1<=b/\b≠w3.heap.size) (fun b hP hl=>⟨by omega,by omega⟩);have h3:=h1.under (W':=w3.alloc (.cells #[.int .i64 0,.string ⟨#[]⟩,.slice none 0 0,.int .i64 0,.int .i64 0,.slice none 0 0] 29)) ((zbE _ _).alloc (zbA _) _);exact(h3.aj (fun b hP=>hP.2) _).weak (fun b hP _=>hP.1)
  have aG:Hid (w.grownBy ((w3.alloc (.cells #[.int .i64 0,.string ⟨#[]⟩,.slice none 0 0,.int .i64 0,.int .i64 0,.slice none 0 0] 29)).setRow w3.heap.size x.arr) (some R)):=dY (dn (HG2.out.trans hg) _) (by omega) _;have aC:Hid (bL ((w3.alloc (.cells #[.int .i64 0,.string ⟨#[]⟩,.slice none 0 0,.int .i64 0,.int .i64 0,.slice none 0 0] 29)).setRow w3.heap.size x.arr) R s q3 c3):=(ha.alloc _).aj (by omega) _;have HR3:Hid (bg ((w3.alloc (.cells #[.int .i64 0,.string ⟨#[]⟩,.slice none 0 0,.int .i64 0,.int .i64 0,.slice none 0 0] 29)).setRow w3.heap.size x.arr) w.heap.size):=Ai (lV (bG HR2.out hg (by omega)) _) _ (by omega);have dF:w.heap.size+1<=((w3.alloc (.cells #[.int .i64 0,.string ⟨#[]⟩,.slice none 0 0,.int .i64 0,.int .i64 0,.slice none 0 0] 29)).setRow w3.heap.size x.arr).heap.size:=by simp[World.setRow];omega
  clear ht ha hg;clear tu;by_cases b3:n1<0
  ·have ay:=hh9 (aF.out.1 b3);clear aF
   go_wp2_with (first
    |(refine bA rfl _ _ rfl w3.heap.size x rfl rfl (fG w3) H2.out H5.out ?_)
    |(refine mO rfl _ rfl w3.heap.size x rfl HX.out ?_)
    |(refine bA rfl _ _ rfl w.heap.size x rfl rfl HR3.out H2.out H5.out ?_))
   refine bodyPost_ret_by (zag rfl _ _ w.heap.size x rfl HR3.out) rfl ⟨x,t,q3,c3,?_,⟨rfl,aC.out.aj (by omega) _,dY aG.out (zbA _) _⟩,ay.out⟩;exact(HT3.out.aj (fun b hP=>by omega) _).weak (fun b hP _=>by omega)
  ·have ay:=hh9 (aF.out.2 (by omega));have hM:max n1 0=n1:=by omega
   clear aF;have hsz:w3.heap.size+1=((w3.alloc (.cells #[.int .i64 0,.string ⟨#[]⟩,.slice none 0 0,.int .i64 0,.int .i64 0,.slice none 0 0] 29)).setRow w3.heap.size x.arr).heap.size:=by simp[World.setRow]
   have HF:=hh9 (Gd n1 n1 hR dF HT3.out aC.out aG.out HR3.out);rw[<- hsz]at HF;clear hsz HT3 aC aG HR3 dF
   go_wp2_with (first
    |(refine bA rfl _ _ rfl w3.heap.size x rfl rfl (fG w3) H2.out H5.out ?_)
    |(refine mO rfl _ rfl w3.heap.size x rfl HX.out ?_)
    |(refine nR rfl _ rfl x rfl H2.out H5.out ?_)
    |(refine bA rfl _ _ rfl w.heap.size ⟨3,⟨#[]⟩,.slice none 0 0,n1,n1,.slice (some ⟨w3.heap.size+1,0,none⟩) 1 1⟩ rfl rfl HF.out.1 rfl rfl ?_))
   exact bodyPost_ret_by (zag rfl _ _ w.heap.size ⟨3,⟨#[]⟩,.slice none 0 0,n1,n1,.slice (some ⟨w3.heap.size+1,0,none⟩) 1 1⟩ rfl HF.out.1) rfl ⟨_,_,q3,c3,HF.out.2.1,HF.out.2.2,ay.out⟩
end Go.Proofs.YtahibnnhjahmnaaGreatDoor
