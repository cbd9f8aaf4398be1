/- Part 36 of what the laws of the grammar rest on. -/
import Derived.Test.YtahibnnhjahmnaaGreatDoorA35
set_option linter.all false
set_option maxRecDepth 100000
set_option maxHeartbeats 8000000
namespace Go.Proofs.YtahibnnhjahmnaaGreatDoor
open Go.RowKit
def qcn(R:Nat)(s:ByteArray)(p d:Nat)(w wr:World)(v:Value)(q:Nat)(c:Int)(l:List Tree):Prop :=
 fK wr (w.heap.size+1) v l/\0<l.length/\bL wr R s q c/\w.grownBy wr (some R)/\bg wr w.heap.size /\
  ((c=0/\p<=q/\q<=s.size/\l.length<=q+1/\∀ r,aK (rd s) (.gU l) d (bN (rd s) q) r->aK (rd s) .alts d p r)\/(c≠0/\q<=s.size+2+(52-d)/\l.length<=s.size+2/\aK (rd s) .alts d p (.err c)))
theorem zqk{k:Nat}(hel:yj 63 true .fV k):yj 43 true .alts k:=by
 intro R p d s w h hs hp hd hk;have hR:=h.lt;have HR:=hh9 (fG w);have HA:=hh9 (h.alloc (.cells #[.int .i64 0,.string ⟨#[]⟩,.slice none 0 0,.int .i64 0,.int .i64 0,.slice none 0 0] 29));have HG:=hh9 (World.grownBy_alloc w (.cells #[.int .i64 0,.string ⟨#[]⟩,.slice none 0 0,.int .i64 0,.int .i64 0,.slice none 0 0] 29) (some R));have lX:Hid (yj 63 true .fV k):=@hel;clear h hel;go_enter Tryz.func43,Tryz.ntmps43;go_wp2_with fail
 refine(lX.out HA.out hs hp hd (by omega)).mono ?_;rintro e w1 ⟨x,t,q,c,ht,⟨rfl,ha,hg⟩,hout⟩;obtain⟨h2,h5⟩:x.ns.oneCell'=true/\x.ks.oneCell'=true:=⟨fq ht,eU ht⟩
 have H2:=hh9 h2;have H5:=hh9 h5;have hz1:w.heap.size+1<=w1.heap.size:=by have:=hg.size;simp at this;omega
 have ht1:av w1 (fun b=>w.heap.size+1<=b) x t:=ht.weak (fun b hb _=>by simp at hb;omega)
 have H0:Hid (qcn R s p d w (w1.alloc (.cells x.arr 29)) (.slice (some ⟨w1.heap.size,0,none⟩) 1 1) q c [t]):=by
  refine⟨fK.one ht1 (zbA _) hz1 (zbO w1 _) (fun b _ hl=>heap_alloc_old _ _ hl) (by simp),by simp,ha.alloc _,dn (HG.out.trans hg) _,lV (bG HR.out hg (by omega)) _,?_⟩;rcases hout with ⟨rfl,hpq,aR,aD⟩|⟨hc,qV,aD⟩
  ·exact .inl ⟨rfl,hpq,aR,by simp,fun r hr=>.jS aD hr⟩
  ·exact .inr ⟨hc,qV,by simp,.ku aD⟩
 clear ha hg h2 h5 ht ht1 HR HA HG hout;go_wp2_with (refine nR rfl _ rfl x rfl H2.out H5.out ?_)
 clear H2 H5;go_loopw [5] (fun v wr=>∃ (q:Nat) (c:Int) (l:List Tree),Hid (qcn R s p d w wr v q c l)) (fun _ wr=>IG R s.size wr)
 case atStart=>exact⟨q,c,[t],H0⟩
 case round =>
  clear H0 hz1;obtain⟨q,c,l,HI⟩:=hrel;obtain⟨hk0,hl0,ha,hg,hres,hst⟩:=HI.out;have HA:=hh9 ha;have HG:=hh9 hg;have aV:=hh9 hres;have HK:=hh9 hk0;have HM:=hh9 (ha.meas s.size);have hz:w.heap.size+1<=wr.heap.size:=by have:=hres.lt;omega
  obtain⟨c0,c1,c2,z0,z1,z2⟩:=ha.cells;clear ha hg hres hk0;rcases hst with ⟨rfl,hpq,aR,hlq,hall⟩|⟨hc,qV,hlb,aD⟩
  ·have aF:=hh9 hall;clear hall;obtain⟨q1,hq1⟩:∃ q1,q1=bN (rd s) q:=⟨_,rfl⟩
   obtain⟨jA,hle1,uS⟩:=wT aR;rw[<- hq1]at jA hle1 uS;have oN:=hh9 jA;have nY:=hh9 hq1;clear jA hq1;go_wp2_with fail
   refine(Iw HA.out hs aR).mono ?_;rintro e w2 ⟨q2,hsk,hle,hls,rfl,ha,hg⟩;obtain rfl:q2=q1:=hsk.one oN.out;have HA2:=hh9 ha;have HG2:=hh9 (HG.out.trans hg);have jG:=hh9 (HK.out.grown hg (by omega));have dL:=hh9 (bG aV.out hg (by omega));have hz2:w.heap.size+1<=w2.heap.size:=by have:=hg.size;omega
   clear hsk ha hg HA HG HK aV c0 c1 c2 z0 z1 z2;by_cases h47:rd s q2=47
   ·have uU:=hh9 h47;have hlt:q2<s.size:=fP (by omega) h47;have Mr:Hid (rd s (bN (rd s) q)=47):=by rw[<- nY.out];exact h47
    clear h47;go_wp2_with fail
    refine(aQ HA2.out hs (by omega) _ uU.out).mono ?_;rintro e w3 ⟨rfl,hb⟩;have aC:=hh9 (HA2.out.below hb);have aG:=hh9 (dw HG2.out hb);have jN:=hh9 (jG.out.below hb);have fQ:=hh9 (dL.out.kept (hb.block _ dL.out.lt));have hz3:w.heap.size+1<=w3.heap.size:=by have:=hb.size;omega
    obtain⟨d0,d1,d2,y0,y1,y2⟩:=aC.out.cells;clear hb HA2 HG2 jG dL;obtain⟨q4,hq4⟩:∃ q4,q4=bN (rd s) (q2+1):=⟨_,rfl⟩
    obtain⟨iG,Mq,Ms⟩:=wT (s:=s) (p:=q2+1) (by omega);rw[<- hq4]at iG Mq Ms;have kr:=hh9 iG;have rY:=hh9 hq4;clear iG hq4;go_wp2_with fail
    refine(Iw aC.out.step hs (by omega)).mono ?_;rintro e w4 ⟨q5,hsk,Mt,Mv,rfl,ha,hg⟩;obtain rfl:q5=q4:=hsk.one kr.out;have hg':=(fu (iq w3 (some R)) 1 (.int .i64 ((q2:Int)+1))).trans hg;have bf:=hh9 ha;have bD:=hh9 (aG.out.trans hg');have nP:=hh9 (jN.out.grown hg' (by omega));have En:=hh9 (bG fQ.out hg' (by omega));have dF:w.heap.size+1<=w4.heap.size:=by have:=hg'.size;omega
    clear hsk ha hg hg' aC aG jN fQ d0 d1 d2 y0 y1 y2;go_wp2_with fail
    refine(lX.out bf.out hs Ms hd (by omega)).mono ?_;rintro e w5 ⟨x,t,q3,c3,ht,⟨rfl,ha,hg⟩,hout⟩;have h2:=fq ht;have h5:=eU ht;have H2:=hh9 h2;have H5:=hh9 h5;have rT:w.heap.size+1<=w5.heap.size:=by have:=hg.size;exact zbH dF this
    have tV:=hh9 ((nP.out.grown hg (by omega)).below ((zbE w5.heap.size w5).alloc (zbA _) (.cells x.arr 29)));have o8:=hh9 ((zjp nP.out ht dF).under ((zbE w5.heap.size w5).alloc (zbA _) (.cells x.arr 29)));have bQ:=hh9 (ha.alloc (.cells x.arr 29));have dR:=hh9 (dn (bD.out.trans hg) (.cells x.arr 29));have fT:=hh9 (lV (bG En.out hg (by omega)) (.cells x.arr 29))
    have HST:Hid ((c3=0->q<q3)/\((c3=0/\p<=q3/\q3<=s.size/\(l++[t]).length<=q3+1/\∀ r,aK (rd s) (.gU (l++[t])) d (bN (rd s) q3) r->aK (rd s) .alts d p r)\/(c3≠0/\q3<=s.size+2+(52-d)/\(l++[t]).length<=s.size+2/\aK (rd s) .alts d p (.err c3)))):=by
     rcases hout with ⟨rfl,hb3,rD,aD⟩|⟨hc,qV,aD⟩
     ·refine⟨fun _=>by omega,.inl ⟨rfl,by omega,rD,by simp;omega,fun r hr=>aF.out r (.jT Mr.out (by rw[<- nY.out,<- rY.out];exact aD) hr)⟩⟩
     ·exact⟨fun g=>absurd g hc,.inr ⟨hc,qV,by simp;omega,aF.out _ (.jk Mr.out (by rw[<- nY.out,<- rY.out];exact aD))⟩⟩
    clear ha hg ht nP bf bD En h2 h5 hout
    go_wp2_with (first
     |(refine nR rfl _ rfl x rfl H2.out H5.out ?_)
     |(at_builtin;go_loud (refine Ns rfl _ _ rfl (w.heap.size+1) _ l t x w5.heap.size rfl rfl tV.out o8.out (zbO w5 _) ?c1 ?c2 ?_)))
    case c1=>omega
    case c2=>simp;omega
    intro v' w6 G5 hgrow;have U4:=hh9 G5;have jL:=hh9 (zti tV.out bQ.out hgrow (by omega));have mP:=hh9 (Nt tV.out dR.out hgrow (by omega));have nZ:=hh9 (Nu tV.out fT.out hgrow (by omega));clear G5 hgrow tV bQ dR fT o8 H2 H5;go_wp2_with fail
    go_roundw
    case rel=>exact⟨q3,c3,l++[t],U4.out,by simp,jL.out,mP.out,nZ.out,HST.out.2⟩
    case measure =>
     rw[HM.out,jL.out.meas];simp only[if_true];have:=HST.out.1;split
     ·rename_i g;have:=this g;omega
     ·omega
   ·obtain⟨Z,hZ⟩:∃ z,rd s q2=z:=⟨_,rfl⟩
    have qz:(Z != 47)=true:=by rw[<- hZ];simpa using h47
    have qz2:(Z==47)=false:=by rw[<- hZ];simpa using h47
    have HZ:=hh9 hZ;have HO:Hid (iF true s d .alts p (uj 1 l) q 0):=.inl ⟨rfl,hpq,aR,aF.out _ (by rw[<- nY.out];exact .gV h47)⟩;clear hZ h47;go_wp2_with fail
    refine(aQ HA2.out hs (by omega) _ HZ.out).mono ?_;rintro e w3 ⟨rfl,hb⟩;have aC:=hh9 (HA2.out.below hb);obtain⟨d0,d1,d2,y0,y1,y2⟩:=aC.out.cells;have HA:=hh9 (aC.out.put (x:=(q:Int)) (q:=q) rfl);have HG:=hh9 (fu (dw HG2.out hb) 1 (.int .i64 (q:Int)));have HK:=hh9 ((jG.out.below hb).grown (fu (iq w3 (some R)) 1 (.int .i64 (q:Int))) (by omega));have aV:=hh9 (bG (dL.out.kept (hb.block _ dL.out.lt)) (fu (iq w3 (some R)) 1 (.int .i64 (q:Int))) (by omega));clear hb HA2 HG2 jG dL;by_cases hone:∃ t1,l=[t1]
    ·obtain⟨t1,rfl⟩:=hone;obtain⟨vs,hl,hr,ht⟩:=HK.out
     obtain⟨x,rfl⟩:∃ x,vs=[x]:=by
      match vs,hl with
      |[x],_=>exact⟨x,rfl⟩
     have hx:=(ht 0 x t1 rfl rfl).weak (P':=fun b=>w.heap.size+1<=b) (fun b hP _=>hP.1);obtain⟨g,cap,rfl⟩:=(fB hr).resolve_left (fun h=>by cases h.2);have e0:=eZ hr (j:=0) rfl;have e1:=eZ hr (j:=1) rfl;have e2:=eZ hr (j:=2) rfl;have e3:=eZ hr (j:=3) rfl;have e4:=eZ hr (j:=4) rfl;have e5:=eZ hr (j:=5) rfl;obtain⟨hbg,hcap,hmax,hg⟩:=iX hr;have HT:=hh9 hx;obtain⟨x0,x1,x2,x3,x4,x5⟩:=x;have HS2:Hid (Value.oneCell' x2=true):=fq HT.out;have yX:Hid (Value.oneCell' x5=true):=eU HT.out;have jv:=hh9 (HO.out);clear hr ht hx hl HK;go_wp2_with (refine bA rfl _ _ rfl w.heap.size ⟨x0,x1,x2,x3,x4,x5⟩ rfl rfl aV.out HS2.out yX.out ?_)
     exact bodyPost_ret_by (zag rfl _ _ w.heap.size ⟨x0,x1,x2,x3,x4,x5⟩ rfl aV.out) rfl (Bc HT.out HA.out HG.out hR jv.out)
    ·have hn:l.length≠1:=fun h=>hone (by
      match l,h with
      |[t1],_=>exact⟨t1,rfl⟩)
     have HT:=hh9 (HK.out.tree 1 0 0);have jv:=hh9 (HO.out);rw[Ia _ hn]at jv;obtain⟨vs,hl,hr,ht⟩:=HK.out;obtain⟨n,hln⟩:∃ n,n=l.length:=⟨_,rfl⟩
     have hq:decide ((n:Int)=1)=false:=H9 (by omega);have hq2:((n:Int)==1)=false:=by simp;omega
     have hn2:n<=60000:=by omega
     obtain⟨g,cap,rfl⟩:=(fB hr).resolve_left (fun h=>by omega);rw[<- hln]at HT ⊢;clear hr ht hl hone hn hln HK;go_wp2_with (refine bA rfl _ _ rfl w.heap.size ⟨1,⟨#[]⟩,.slice none 0 0,0,0,.slice (some ⟨g,0,none⟩) n cap⟩ rfl rfl aV.out rfl rfl ?_)
     exact bodyPost_ret_by (zag rfl _ _ w.heap.size ⟨1,⟨#[]⟩,.slice none 0 0,0,0,.slice (some ⟨g,0,none⟩) n cap⟩ rfl aV.out) rfl (Bc HT.out HA.out HG.out hR jv.out)
  ·have HO:Hid (iF true s d .alts p (uj 1 l) q c):=.inr ⟨hc,qV,aD⟩;have qc:(c==0)=false:=by simpa using hc
   clear aD HI;by_cases hone:∃ t1,l=[t1]
   ·obtain⟨t1,rfl⟩:=hone;obtain⟨vs,hl,hr,ht⟩:=HK.out
    obtain⟨x,rfl⟩:∃ x,vs=[x]:=by
     match vs,hl with
     |[x],_=>exact⟨x,rfl⟩
    have hx:=(ht 0 x t1 rfl rfl).weak (P':=fun b=>w.heap.size+1<=b) (fun b hP _=>hP.1);obtain⟨g,cap,rfl⟩:=(fB hr).resolve_left (fun h=>by cases h.2);have e0:=eZ hr (j:=0) rfl;have e1:=eZ hr (j:=1) rfl;have e2:=eZ hr (j:=2) rfl;have e3:=eZ hr (j:=3) rfl;have e4:=eZ hr (j:=4) rfl;have e5:=eZ hr (j:=5) rfl;obtain⟨hbg,hcap,hmax,hg⟩:=iX hr;have HT:=hh9 hx;obtain⟨x0,x1,x2,x3,x4,x5⟩:=x;have HS2:Hid (Value.oneCell' x2=true):=fq HT.out;have yX:Hid (Value.oneCell' x5=true):=eU HT.out;have jv:=hh9 (HO.out);clear hr ht hx hl HK;go_wp2_with (refine bA rfl _ _ rfl w.heap.size ⟨x0,x1,x2,x3,x4,x5⟩ rfl rfl aV.out HS2.out yX.out ?_)
    exact bodyPost_ret_by (zag rfl _ _ w.heap.size ⟨x0,x1,x2,x3,x4,x5⟩ rfl aV.out) rfl (Bc HT.out HA.out HG.out hR jv.out)
   ·have hn:l.length≠1:=fun h=>hone (by
     match l,h with
     |[t1],_=>exact⟨t1,rfl⟩)
    have HT:=hh9 (HK.out.tree 1 0 0);have jv:=hh9 (HO.out);rw[Ia _ hn]at jv;obtain⟨vs,hl,hr,ht⟩:=HK.out;obtain⟨n,hln⟩:∃ n,n=l.length:=⟨_,rfl⟩
    have hq:decide ((n:Int)=1)=false:=H9 (by omega);have hq2:((n:Int)==1)=false:=by simp;omega
    have hn2:n<=60000:=by omega
    obtain⟨g,cap,rfl⟩:=(fB hr).resolve_left (fun h=>by omega);rw[<- hln]at HT ⊢;clear hr ht hl hone hn hln HK;go_wp2_with (refine bA rfl _ _ rfl w.heap.size ⟨1,⟨#[]⟩,.slice none 0 0,0,0,.slice (some ⟨g,0,none⟩) n cap⟩ rfl rfl aV.out rfl rfl ?_)
    exact bodyPost_ret_by (zag rfl _ _ w.heap.size ⟨1,⟨#[]⟩,.slice none 0 0,0,0,.slice (some ⟨g,0,none⟩) n cap⟩ rfl aV.out) rfl (Bc HT.out HA.out HG.out hR jv.out)
noncomputable def yt (f:Nat->Int) (p:Nat):Got Int:=if aS (f p) then fC 10 200 f p else .ok (-1) p
def U5(c0:Int)(R:Nat)(s:ByteArray)(p:Nat)(w:World)(e:Ending)(w':World):Prop :=
 ∃ (n:Int) (q:Nat) (c:Int),aW R s (.int .i64 n) q c w e w'/\-1<=n/\n<=200/\((c0=0/\c=0/\p<=q/\q<=s.size/\yt (rd s) p=.ok n q)\/(c0=0/\c=2/\q<=s.size/\yt (rd s) p=.err 2/\n=-1)\/(c0≠0/\c=c0/\q=p/\n=-1))
theorem ztj{R p:Nat}{c:Int}{s:ByteArray}{w:World}(h:bL w R s p c)(hs:s.size<=50000)(hp:c=0->p<=s.size) :
  Calls Tryz.prog 97 #[.pointer (some ⟨R,0,none⟩),.int .i64 10,.int .i64 200] w (U5 c R s p w):=by
 by_cases hc:c=0
 ·subst hc;refine(zle 10 200 (by omega) (by omega) (by omega) h hs (hp rfl)).mono ?_;rintro e w' (⟨hd,hgv⟩|⟨v,q,hn,hgv⟩|⟨hd,hn,q,hq,hgv⟩)
  ·rw[Ob]at hd;exact⟨-1,p,0,hgv,by omega,by omega,.inl ⟨rfl,rfl,zbA _,hp rfl,by unfold yt;rw[hd];rfl⟩⟩
  ·obtain⟨h1,h2⟩:=DR (by omega) (hp rfl) hn;have hv:=Oi (by omega) hn
   have hd:aS (rd s p)=true:=by
    cases hd:aS (rd s p)
    ·rw[<- Ob]at hd;rw[R7 hd]at hn
     cases hn
    ·rfl
   have hv2:v<=200:=by
    unfold fC at hn;split at hn
    ·cases hn
    ·split at hn
     ·cases hn
     ·cases hn;omega
   exact⟨v,q,0,hgv,by omega,hv2,.inl ⟨rfl,rfl,by omega,h2,by unfold yt;rw[hd];exact hn⟩⟩
  ·rw[Ob]at hd;exact⟨-1,q,2,hgv,by omega,by omega,.inr (.inl ⟨rfl,rfl,hq,by unfold yt;rw[hd];exact hn,rfl⟩)⟩
 ·refine(zi7 10 200 h hc).mono ?_;intro e w' hgv;exact⟨-1,p,c,hgv,by omega,by omega,.inr (.inr ⟨hc,rfl,rfl,rfl⟩)⟩
def Mw(c0:Int)(R:Nat)(s:ByteArray)(d p:Nat)(w:World)(e:Ending)(w':World):Prop :=
 ∃ (x:XV) (t:Tree) (q:Nat) (c:Int),av w' (fun b=>w.heap.size<=b) x t/\aW R s x.val q c w e w'/\((c0=0/\iF false s d .elem p t q c)\/(c0≠0/\c=c0/\q=p))
def Py(f k:Nat):Prop:=∀ {R p d:Nat} {c:Int} {s:ByteArray} {w:World},bL w R s p c->s.size<=50000->(c=0->p<=s.size/\d<=50/\s.size-p<=k)->p<=55000->d<=60 ->
 Calls Tryz.prog f #[.pointer (some ⟨R,0,none⟩),.int .i64 d] w (Mw c R s d p w)
def U6(c0:Int)(R:Nat)(s:ByteArray)(d p:Nat)(w:World)(e:Ending)(w':World):Prop :=
 ∃ (x:XV) (t:Tree) (q:Nat) (c:Int),av w' (fun b=>w.heap.size<=b) x t/\aW R s x.val q c w e w'/\((c0=0/\iF false s d .rep p t q c)\/(c0≠0/\c=c0/\q<=p+1))
def U7(f k:Nat):Prop:=∀ {R p d:Nat} {c:Int} {s:ByteArray} {w:World},bL w R s p c->s.size<=50000->(c=0->p<=s.size/\d<=50/\s.size-p<=k)->p<=54000->d<=60 ->
 Calls Tryz.prog f #[.pointer (some ⟨R,0,none⟩),.int .i64 d] w (U6 c R s d p w)
theorem Gd{R:Nat}{s:ByteArray}{q:Nat}{c:Int}{w W:World}{x:XV}{t:Tree}(lo hi:Int)(hR:R<w.heap.size)(hz:w.heap.size+1<=W.heap.size)(HT:av W (fun b=>w.heap.size+1<=b) x t)(HA:bL W R s q c)(HG:w.grownBy W (some R))(HR:bg W w.heap.size) :
  bg (W.alloc (.cells x.arr 29)) w.heap.size /\
   av ((W.alloc (.cells x.arr 29)).setRow w.heap.size (XV.arr ⟨3,⟨#[]⟩,.slice none 0 0,lo,hi,.slice (some ⟨W.heap.size,0,none⟩) 1 1⟩)) (fun b=>w.heap.size<=b) ⟨3,⟨#[]⟩,.slice none 0 0,lo,hi,.slice (some ⟨W.heap.size,0,none⟩) 1 1⟩ (pU lo hi t) /\
   aW R s (XV.val ⟨3,⟨#[]⟩,.slice none 0 0,lo,hi,.slice (some ⟨W.heap.size,0,none⟩) 1 1⟩) q c w (.returned (XV.val ⟨3,⟨#[]⟩,.slice none 0 0,lo,hi,.slice (some ⟨W.heap.size,0,none⟩) 1 1⟩)) ((W.alloc (.cells x.arr 29)).setRow w.heap.size (XV.arr ⟨3,⟨#[]⟩,.slice none 0 0,lo,hi,.slice (some ⟨W.heap.size,0,none⟩) 1 1⟩)):=by
 have hk:=fK.one (W:=W) (W':=W.alloc (.cells x.arr 29)) (base:=w.heap.size+1) (g:=W.heap.size) HT (zbA _) hz (zbO W _) (fun b _ hl=>heap_alloc_old _ _ hl) (by simp);exact⟨lV HR _,((hk.tree 3 lo hi).aj (fun b hb=>by omega) _).weak (fun b hb _=>by omega),rfl,(HA.alloc _).aj (by omega) _,dY (dn HG _) (zbA _) _⟩
theorem qbt{s:ByteArray}{d p q1 q2:Nat}{n:Int}{t:Tree}(hp:p<=q1)(hc:yt (rd s) p=.ok n q1)(lW:rd s q1≠42)(hn:n<0){c:Int}(ho:iF false s d .elem q1 t q2 c):iF false s d .rep p t q2 c:=by
 have hcount:=Oj hc lW;rw[show decide (0<=n)=false from zbM (by omega)]at hcount;rcases ho with ⟨rfl,h1,h2,aD⟩|⟨hcc,h1,aD⟩
 ·exact .inl ⟨rfl,by omega,h2,.fE hcount aD⟩
 ·exact .inr ⟨hcc,h1,.iA hcount aD⟩
theorem ztk{s:ByteArray}{d p q1 q2:Nat}{lo hi:Int}{t:Tree}(hp:p<=q1)(hcount:aN (rd s) p=.ok (lo,hi,true) q1){c:Int}(ho:iF false s d .elem q1 t q2 c) :
  (¬ (0<=hi/\hi<lo)->iF false s d .rep p (pU lo hi t) q2 c)/\(0<=hi/\hi<lo->iF false s d .rep p (pU lo hi t) q2 (if c=0 then 20 else c)):=by
 rcases ho with ⟨rfl,h1,h2,aD⟩|⟨hcc,h1,aD⟩
 ·exact⟨fun h=>.inl ⟨rfl,by omega,h2,.kQ hcount aD h⟩,fun h=>.inr ⟨by simp,by omega,.gW hcount aD h⟩⟩
 ·refine⟨fun h=>.inr ⟨hcc,h1,.iA hcount aD⟩,fun h=>?_⟩;rw[if_neg hcc];exact .inr ⟨hcc,h1,.iA hcount aD⟩
end Go.Proofs.YtahibnnhjahmnaaGreatDoor
