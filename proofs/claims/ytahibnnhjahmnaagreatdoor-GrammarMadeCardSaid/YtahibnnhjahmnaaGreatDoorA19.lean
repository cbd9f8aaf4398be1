/- Part 19 of what the laws of the grammar rest on. -/
import Derived.Test.YtahibnnhjahmnaaGreatDoorA18
set_option linter.all false
set_option maxRecDepth 100000
set_option maxHeartbeats 8000000
namespace Go.Proofs.YtahibnnhjahmnaaGreatDoor
open Go.RowKit
def uR(f:Nat)(a:Ask)(k:Nat):Prop:=∀ {R p d:Nat} {s:ByteArray} {w:World},At w R s p d->s.size<=50000->p<=s.size->d<=50->s.size-p<=k ->
 Calls Tryz.prog f #[.pointer (some ⟨R,0,none⟩)] w (uQ R s d a p w)
theorem qar{k:Nat}(hel:uR 185 .elem k):uR 176 .rep k:=by
 intro R p d s w h hs hp hd hk;have hR:=h.lt;have HR:=hh9 (fG w);have HA:=hh9 (h.alloc (.cells #[.int .i64 0,.string ⟨#[]⟩,.slice none 0 0,.int .i64 0,.int .i64 0,.slice none 0 0] 29));have HG:=hh9 (World.grownBy_alloc w (.cells #[.int .i64 0,.string ⟨#[]⟩,.slice none 0 0,.int .i64 0,.int .i64 0,.slice none 0 0] 29) (some R));have lX:Hid (uR 185 .elem k):=@hel;clear h hel
 cases hn:aN (rd s) p with
 |err c =>
  have HE:=hh9 hn;clear hn;go_enter Tryz.func176,Tryz.ntmps176;go_wp2_with fail
  refine(YM HA.out hs hp).mono ?_;rw[HE.out];rintro e w1 ⟨rfl,hg⟩;have aT:=hh9 (HG.out.trans hg);clear hg;go_wp2_with fail
  exact⟨rfl,_,.dU HE.out,rfl,aT.out⟩
 |ok y q =>
  obtain⟨lo,hi,b⟩:=y;have HE:=hh9 hn;obtain⟨hpq,aR⟩:=Sn hp hn;clear hn;go_enter Tryz.func176,Tryz.ntmps176;go_wp2_with fail
  refine(YM HA.out hs hp).mono ?_;rw[HE.out];rintro e w1 ⟨_,rfl,ha,hg⟩;have hz1:w.heap.size+1<=w1.heap.size:=by have:=hg.size;simp at this;omega
  have HR1:=hh9 (bG HR.out hg (by omega));have HA1:=hh9 ha;have aT:=hh9 (HG.out.trans hg);clear ha hg HR HA HG;simp only[cval];go_wp2_with fail
  refine(lX.out HA1.out hs aR hd (by omega)).mono ?_;rintro e w2 ⟨r,aD,hgv⟩
  cases r with
  |err c =>
   obtain⟨rfl,hg⟩:=hgv;have aP:=hh9 aD;have HG2:=hh9 (aT.out.trans hg);clear aD hg;go_wp2_with fail
   exact⟨rfl,_,.iA HE.out aP.out,rfl,HG2.out⟩
  |ok t q' =>
   obtain⟨x,ht,hq',rfl,ha,hg⟩:=hgv;have aP:=hh9 aD;have hz2:w1.heap.size<=w2.heap.size:=hg.size;have HR2:=hh9 (lV (bG HR1.out hg (by omega)) (.cells #[.int .i64 0,.string ⟨#[]⟩,.slice none 0 0,.int .i64 0,.int .i64 0,.slice none 0 0] 29));have HA2:=hh9 ha;have HG2:=hh9 (aT.out.trans hg);obtain⟨h2,h5⟩:x.ns.oneCell'=true/\x.ks.oneCell'=true:=⟨fq ht,eU ht⟩
   have H2:=hh9 h2;have H5:=hh9 h5;have HT:=hh9 ht;clear aD ha hg h2 h5 ht HR1 HA1 aT;have hz3:w.heap.size<w2.heap.size:=by omega
   -- the world behind the element's own block
   have HT3:Hid (av ((w2.alloc (.cells #[.int .i64 0,.string ⟨#[]⟩,.slice none 0 0,.int .i64 0,.int .i64 0,.slice none 0 0] 29)).setRow w2.heap.size x.arr) (fun b=>w1.heap.size<=b/\b≠w2.heap.size) x t):=by
    have h1:=HT.out.weak (P':=fun b=>w1.heap.size<=b/\b≠w2.heap.size) (fun b hP hl=>⟨hP,by omega⟩);have h3:=h1.under (W':=w2.alloc (.cells #[.int .i64 0,.string ⟨#[]⟩,.slice none 0 0,.int .i64 0,.int .i64 0,.slice none 0 0] 29)) ((zbE _ _).alloc (zbA _) _);exact h3.aj (fun b hP=>hP.2) _
   have aG:Hid (w.grownBy ((w2.alloc (.cells #[.int .i64 0,.string ⟨#[]⟩,.slice none 0 0,.int .i64 0,.int .i64 0,.slice none 0 0] 29)).setRow w2.heap.size x.arr) (some R)):=dY (dn HG2.out _) (by omega) _;have aC:Hid (At ((w2.alloc (.cells #[.int .i64 0,.string ⟨#[]⟩,.slice none 0 0,.int .i64 0,.int .i64 0,.slice none 0 0] 29)).setRow w2.heap.size x.arr) R s q' d):=(HA2.out.alloc _).aj (by have:=HA2.out.lt;omega) _;have HR3:Hid (bg ((w2.alloc (.cells #[.int .i64 0,.string ⟨#[]⟩,.slice none 0 0,.int .i64 0,.int .i64 0,.slice none 0 0] 29)).setRow w2.heap.size x.arr) w.heap.size):=Ai HR2.out _ (by omega)
   cases b with
   |false =>
    go_wp2_with (first
     |(refine bA rfl _ _ rfl w2.heap.size x rfl rfl (fG w2) H2.out H5.out ?_)
     |(refine mO rfl _ rfl w2.heap.size x rfl (wF (fG w2) _) ?_)
     |(refine bA rfl _ _ rfl w.heap.size x rfl rfl HR3.out H2.out H5.out ?_))
    refine bodyPost_ret_by (zag rfl _ _ w.heap.size x rfl HR3.out) rfl ⟨_,.fE HE.out aP.out,x,?_,hq',rfl,aC.out.aj (by omega) _,dY aG.out (zbA _) _⟩;exact(HT3.out.aj (fun b hP=>by omega) _).weak (fun b hP _=>by omega)
   |true =>
    by_cases hbad:0<=hi/\hi<lo
    ·have q1:decide (0<=hi)=true:=zbN hbad.1;have q2:decide (hi<lo)=true:=zbN hbad.2;have HBAD:=hh9 hbad;clear hbad;go_wp2_with (refine bA rfl _ _ rfl w2.heap.size x rfl rfl (fG w2) H2.out H5.out ?_)
     refine(Cg _ _).mono ?_;rintro e w5 ⟨rfl,rfl⟩;go_wp2_with fail
     exact⟨rfl,_,.gW HE.out aP.out HBAD.out,rfl,aG.out⟩
    ·have fin:∀ W:World,W=(w2.alloc (.cells #[.int .i64 0,.string ⟨#[]⟩,.slice none 0 0,.int .i64 0,.int .i64 0,.slice none 0 0] 29)).setRow w2.heap.size x.arr->bg (W.alloc (.cells x.arr 29)) w.heap.size /\
       uQ R s d .rep p w (.returned (XV.val ⟨3,⟨#[]⟩,.slice none 0 0,lo,hi,.slice (some ⟨w2.heap.size+1,0,none⟩) 1 1⟩)) ((W.alloc (.cells x.arr 29)).setRow w.heap.size (XV.arr ⟨3,⟨#[]⟩,.slice none 0 0,lo,hi,.slice (some ⟨w2.heap.size+1,0,none⟩) 1 1⟩)):=by
      intro W hW;subst hW;refine⟨lV HR3.out _,_,.kQ HE.out aP.out hbad,_,?_,hq',rfl,(aC.out.alloc _).aj (by omega) _,dY (dn aG.out _) (zbA _) _⟩;have hsz:w2.heap.size+1=((w2.alloc (.cells #[.int .i64 0,.string ⟨#[]⟩,.slice none 0 0,.int .i64 0,.int .i64 0,.slice none 0 0] 29)).setRow w2.heap.size x.arr).heap.size:=by simp[World.setRow]
      have hk:=fK.one (W:=(w2.alloc (.cells #[.int .i64 0,.string ⟨#[]⟩,.slice none 0 0,.int .i64 0,.int .i64 0,.slice none 0 0] 29)).setRow w2.heap.size x.arr) (W':=(((w2.alloc (.cells #[.int .i64 0,.string ⟨#[]⟩,.slice none 0 0,.int .i64 0,.int .i64 0,.slice none 0 0] 29)).setRow w2.heap.size x.arr).alloc (.cells x.arr 29))) (base:=w.heap.size+1) (g:=w2.heap.size+1)
       (HT3.out.weak (fun b hP _=>by omega)) (by omega) (by omega) (by rw[hsz];exact zbO _ _) (fun b _ hl=>heap_alloc_old _ _ hl) (by simp)
      exact((hk.tree 3 lo hi).aj (fun b hb=>by omega) _).weak (fun b hb _=>by omega)
     have HF:=hh9 (fin _ rfl);clear fin;by_cases hlo:0<=hi
     ·have q1:decide (0<=hi)=true:=zbN hlo;have q2:decide (hi<lo)=false:=zbM (fun h=>hbad ⟨hlo,h⟩);clear hbad
      go_wp2_with (first
       |(refine bA rfl _ _ rfl w2.heap.size x rfl rfl (fG w2) H2.out H5.out ?_)
       |(refine mO rfl _ rfl w2.heap.size x rfl (wF (fG w2) _) ?_)
       |(refine nR rfl _ rfl x rfl H2.out H5.out ?_)
       |(refine bA rfl _ _ rfl w.heap.size ⟨3,⟨#[]⟩,.slice none 0 0,lo,hi,.slice (some ⟨w2.heap.size+1,0,none⟩) 1 1⟩ rfl rfl HF.out.1 rfl rfl ?_))
      exact bodyPost_ret_by (zag rfl _ _ w.heap.size ⟨3,⟨#[]⟩,.slice none 0 0,lo,hi,.slice (some ⟨w2.heap.size+1,0,none⟩) 1 1⟩ rfl HF.out.1) rfl HF.out.2
     ·have q1:decide (0<=hi)=false:=zbM hlo;clear hbad
      go_wp2_with (first
       |(refine bA rfl _ _ rfl w2.heap.size x rfl rfl (fG w2) H2.out H5.out ?_)
       |(refine mO rfl _ rfl w2.heap.size x rfl (wF (fG w2) _) ?_)
       |(refine nR rfl _ rfl x rfl H2.out H5.out ?_)
       |(refine bA rfl _ _ rfl w.heap.size ⟨3,⟨#[]⟩,.slice none 0 0,lo,hi,.slice (some ⟨w2.heap.size+1,0,none⟩) 1 1⟩ rfl rfl HF.out.1 rfl rfl ?_))
      exact bodyPost_ret_by (zag rfl _ _ w.heap.size ⟨3,⟨#[]⟩,.slice none 0 0,lo,hi,.slice (some ⟨w2.heap.size+1,0,none⟩) 1 1⟩ rfl HF.out.1) rfl HF.out.2
theorem YR{w w':World}{base R:Nat}{s:ByteArray}{p d:Nat}{v:Value}{l:List Tree}(hk:fK w base v l)(h:At w R s p d)(hg:w.grownBy w' v.ownBlock)(hR:R<base):At w' R s p d:=by
 obtain⟨vs,_,h2,_⟩:=hk;refine h.kept hg (fun e=>?_);rcases fB h2 with ⟨rfl,_⟩|⟨g,cap,rfl⟩
 ·simp[Value.ownBlock]at e
 ·have hb:=(iX h2).1;have:=zbB e;simp at this;omega
def YS(R:Nat)(s:ByteArray)(p d:Nat)(w wr:World)(v:Value)(q:Nat):Prop :=
 ∃ l:List Tree,fK wr (w.heap.size+1) v l/\0<l.length/\l.length<=q+1/\p<=q/\q<=s.size/\At wr R s q d/\w.grownBy wr (some R)/\bg wr w.heap.size/\∀ r,aK (rd s) (.fD l) d q r->aK (rd s) .fV d p r
theorem zxj{k:Nat}(hel:uR 176 .rep k):uR 162 .fV k:=by
 intro R p d s w h hs hp hd hk;have hR:=h.lt;have HR:=hh9 (fG w);have HA:=hh9 (h.alloc (.cells #[.int .i64 0,.string ⟨#[]⟩,.slice none 0 0,.int .i64 0,.int .i64 0,.slice none 0 0] 29));have HG:=hh9 (World.grownBy_alloc w (.cells #[.int .i64 0,.string ⟨#[]⟩,.slice none 0 0,.int .i64 0,.int .i64 0,.slice none 0 0] 29) (some R));have lX:Hid (uR 176 .rep k):=@hel;clear h hel;go_enter Tryz.func162,Tryz.ntmps162;go_wp2_with fail
 refine(lX.out HA.out hs hp hd (by omega)).mono ?_;rintro e w1 ⟨r,aD,hgv⟩
 cases r with
 |err c =>
  obtain⟨rfl,hg⟩:=hgv;have aP:=hh9 aD;have HG2:=hh9 (HG.out.trans hg);clear aD hg;go_wp2_with fail
  exact⟨rfl,_,.kC aP.out,rfl,HG2.out⟩
 |ok t q =>
  obtain⟨x,ht,aR,rfl,ha,hg⟩:=hgv;have hpq:=(aD.bound trivial hp t q rfl).1;obtain⟨h2,h5⟩:x.ns.oneCell'=true/\x.ks.oneCell'=true:=⟨fq ht,eU ht⟩
  have H2:=hh9 h2;have H5:=hh9 h5;have hz1:w.heap.size+1<=w1.heap.size:=by have:=hg.size;simp at this;omega
  have ht1:av w1 (fun b=>w.heap.size+1<=b) x t:=ht.weak (fun b hb _=>by simp at hb;omega)
  have H0:Hid (YS R s p d w (w1.alloc (.cells x.arr 29)) (.slice (some ⟨w1.heap.size,0,none⟩) 1 1) q) :=
   ⟨[t],fK.one ht1 (zbA _) hz1 (zbO w1 _) (fun b _ hl=>heap_alloc_old _ _ hl) (by simp),by simp,by simp,hpq,aR,ha.alloc _,dn (HG.out.trans hg) _,lV (bG HR.out hg (by omega)) _,
    fun r hr=>.jU aD hr⟩
  clear aD ha hg h2 h5 ht ht1 HR HA HG;go_wp2_with (refine nR rfl _ rfl x rfl H2.out H5.out ?_)
  clear H2 H5;go_loopw [3] (fun v wr=>∃ q:Nat,Hid (YS R s p d w wr v q)) (fun _ wr=>s.size-qH R wr)
  case atStart=>exact⟨q,H0⟩
  case round =>
   clear H0 hz1 hpq aR;obtain⟨q,HI⟩:=hrel;obtain⟨l,hk0,hl0,hlq,hpq,aR,ha,hg,hres,hall⟩:=HI.out;have HA:=hh9 ha;have HG:=hh9 hg;have aV:=hh9 hres;have HK:=hh9 hk0;have aF:=hh9 hall;have HM:=hh9 ha.pos;have hz:w.heap.size+1<=wr.heap.size:=by have:=hres.lt;omega
   clear ha hg hres hk0 hall;obtain⟨q1,hq1⟩:∃ q1,q1=bN (rd s) q:=⟨_,rfl⟩
   obtain⟨jA,hle1,uS⟩:=wT aR;rw[<- hq1]at jA hle1 uS;have oN:=hh9 jA;have nY:=hh9 hq1;clear jA hq1;go_wp2_with fail
   refine(Ii HA.out hs aR).mono ?_;rintro e w2 ⟨q2,hsk,hle,hls,rfl,ha,hg⟩;obtain rfl:q2=q1:=hsk.one oN.out;have HA2:=hh9 ha;have HG2:=hh9 (HG.out.trans hg);have jG:=hh9 (HK.out.grown hg (by omega));have dL:=hh9 (bG aV.out hg (by omega));have hz2:w.heap.size+1<=w2.heap.size:=by have:=hg.size;omega
   clear hsk ha hg HA HG HK aV;by_cases hlt:q<q2
   ·have hb1:decide (q<q2)=true:=zbN hlt;have hr:=vR s q2
    cases rQ:dB (rd s q2)
    ·have Fh:=hh9 (Yo.trans rQ)
     have aU:Hid (aK (rd s) .fV d p (.ok (uj 2 l) q2)):=aF.out _ (by
      have:=aK.dS (f:=rd s) (d:=d) (p:=q) (l:=l) (by rw[<- nY.out,rQ];simp);rwa[<- nY.out]at this)
     clear rQ;rw[hb1];go_wp2_with fail
     refine(dQ HA2.out hs hls).mono ?_;rintro e w3 ⟨rfl,n,rfl⟩;go_wp2_with fail
     refine(YI _ hr.1 hr.2 _).mono ?_;rw[Fh.out];rintro e w3 ⟨rfl,rfl⟩;have aC:=hh9 (HA2.out.drew n);have aG:=hh9 (bY HG2.out n);have jN:=hh9 (jG.out.below (W':=w2.drewN n) (dJ (zbE _ _) n));have fQ:Hid (bg (w2.drewN n) w.heap.size):=dL.out;have hz3:w.heap.size+1<=(w2.drewN n).heap.size:=hz2;obtain⟨w3,hw3⟩:∃ x,x=w2.drewN n:=⟨_,rfl⟩
     rw[<- hw3]at aC aG jN fQ hz3 ⊢;clear hw3;go_wp2_with fail
     refine(SE 2 jN.out hz3 (by omega)).mono ?_;rintro e w4 ⟨x,ht,rfl,hb⟩;have H2:=hh9 (fq ht);have H5:=hh9 (eU ht);have HR4:=hh9 (fQ.out.kept (hb.block _ fQ.out.lt));have bf:=hh9 (aC.out.below hb);have bD:=hh9 (dw aG.out hb);have HT:=hh9 ht;clear ht hb;go_wp2_with (refine bA rfl _ _ rfl w.heap.size x rfl rfl HR4.out H2.out H5.out ?_)
     refine bodyPost_ret_by (zag rfl _ _ w.heap.size x rfl HR4.out) rfl ⟨_,aU.out,x,?_,hls,rfl,bf.out.aj (by omega) _,dY bD.out (zbA _) _⟩;exact(HT.out.aj (fun b hb=>by omega) _).weak (fun b hb _=>by omega)
    ·have Fh:=hh9 (Yo.trans rQ);have HC:Hid (q<bN (rd s) q/\dB (rd s (bN (rd s) q))=true):=by rw[<- nY.out];exact⟨hlt,rQ⟩
     clear rQ;rw[hb1];go_wp2_with fail
     refine(dQ HA2.out hs hls).mono ?_;rintro e w3 ⟨rfl,n,rfl⟩;go_wp2_with fail
     refine(YI _ hr.1 hr.2 _).mono ?_;rw[Fh.out];rintro e w3 ⟨rfl,rfl⟩;have jN:=hh9 (jG.out.below (W':=w2.drewN n) (dJ (zbE _ _) n));go_wp2_with fail
     refine(lX.out (HA2.out.drew n) hs hls hd (by omega)).mono ?_;rintro e w4 ⟨r,aD,hgv⟩
     cases r with
     |err c =>
      obtain⟨rfl,hg⟩:=hgv;have aP:=hh9 aD;have bD:=hh9 ((bY HG2.out n).trans hg);clear aD hg;go_wp2_with fail
      refine⟨rfl,_,aF.out _ (.iy HC.out ?_),rfl,bD.out⟩;rw[<- nY.out];exact aP.out
     |ok t q3 =>
      obtain⟨x,ht,rD,rfl,ha,hg⟩:=hgv;have SI:=(aD.bound trivial hls t q3 rfl).1;have h2:=fq ht;have h5:=eU ht;have H2:=hh9 h2;have H5:=hh9 h5;have dF:w.heap.size+1<=w4.heap.size:=by have:=hg.size;exact zbH hz2 this
      have nP:=hh9 ((jN.out.grown hg (by omega)).below ((zbE w4.heap.size w4).alloc (zbA _) (.cells x.arr 29)));have uT:=hh9 ((zjp jN.out ht hz2).under ((zbE w4.heap.size w4).alloc (zbA _) (.cells x.arr 29)));have bf:=hh9 (ha.alloc (.cells x.arr 29));have bD:=hh9 (dn ((bY HG2.out n).trans hg) (.cells x.arr 29));have HR4:=hh9 (lV (bG (W:=w2.drewN n) dL.out hg (by omega)) (.cells x.arr 29));have aP:=hh9 aD;clear aD ha hg ht jN HA2 HG2 jG dL h2 h5
      go_wp2_with (first
       |(refine nR rfl _ rfl x rfl H2.out H5.out ?_)
       |(at_builtin;go_loud (refine Ns rfl _ _ rfl (w.heap.size+1) _ l t x w4.heap.size rfl rfl nP.out uT.out (zbO w4 _) ?c1 ?c2 ?_)))
      case c1=>omega
      case c2=>simp;omega
      intro v' w5 hk5 hgrow;have tV:=hh9 hk5;have bQ:=hh9 (YR nP.out bf.out hgrow (by omega));have dR:=hh9 (Nt nP.out bD.out hgrow (by omega));have fT:=hh9 (Nu nP.out HR4.out hgrow (by omega));clear hk5 hgrow nP bf bD HR4 uT H2 H5;go_wp2_with fail
      go_roundw
      case rel=>exact⟨q3,l++[t],tV.out,by simp,by simp;omega,by omega,rD,bQ.out,dR.out,fT.out,fun r hr=>aF.out r (.iO HC.out (by rw[<- nY.out];exact aP.out) hr)⟩
      case measure =>
       rw[HM.out,bQ.out.pos];omega
   ·have hb1:decide (q<q2)=false:=zbM hlt
    have aU:Hid (aK (rd s) .fV d p (.ok (uj 2 l) q2)):=aF.out _ (by
     have:=aK.dS (f:=rd s) (d:=d) (p:=q) (l:=l) (by rw[<- nY.out];exact fun h=>hlt h.1);rwa[<- nY.out]at this)
    rw[hb1];have aC:=HA2;have aG:=HG2;have jN:=jG;have fQ:=dL;have hz3:=hz2;clear HA2 HG2 jG dL hz2;obtain⟨w3,hw3⟩:∃ x,x=w2:=⟨_,rfl⟩
    subst hw3;go_wp2_with fail
    refine(SE 2 jN.out hz3 (by omega)).mono ?_;rintro e w4 ⟨x,ht,rfl,hb⟩;have H2:=hh9 (fq ht);have H5:=hh9 (eU ht);have HR4:=hh9 (fQ.out.kept (hb.block _ fQ.out.lt));have bf:=hh9 (aC.out.below hb);have bD:=hh9 (dw aG.out hb);have HT:=hh9 ht;clear ht hb;go_wp2_with (refine bA rfl _ _ rfl w.heap.size x rfl rfl HR4.out H2.out H5.out ?_)
    refine bodyPost_ret_by (zag rfl _ _ w.heap.size x rfl HR4.out) rfl ⟨_,aU.out,x,?_,hls,rfl,bf.out.aj (by omega) _,dY bD.out (zbA _) _⟩;exact(HT.out.aj (fun b hb=>by omega) _).weak (fun b hb _=>by omega)
def YT(R:Nat)(s:ByteArray)(p d:Nat)(w wr:World)(v:Value)(q:Nat):Prop :=
 ∃ l:List Tree,fK wr (w.heap.size+1) v l/\0<l.length/\l.length<=q+1/\p<=q/\q<=s.size/\At wr R s q d/\w.grownBy wr (some R)/\bg wr w.heap.size/\∀ r,aK (rd s) (.gU l) d q r->aK (rd s) .alts d p r
theorem zxk{k:Nat}(hel:uR 162 .fV k):uR 142 .alts k:=by
 intro R p d s w h hs hp hd hk;have hR:=h.lt;have HR:=hh9 (fG w);have HA:=hh9 (h.alloc (.cells #[.int .i64 0,.string ⟨#[]⟩,.slice none 0 0,.int .i64 0,.int .i64 0,.slice none 0 0] 29));have HG:=hh9 (World.grownBy_alloc w (.cells #[.int .i64 0,.string ⟨#[]⟩,.slice none 0 0,.int .i64 0,.int .i64 0,.slice none 0 0] 29) (some R));have lX:Hid (uR 162 .fV k):=@hel;clear h hel;go_enter Tryz.func142,Tryz.ntmps142;go_wp2_with fail
 refine(lX.out HA.out hs hp hd (by omega)).mono ?_;rintro e w1 ⟨r,aD,hgv⟩
 cases r with
 |err c =>
  obtain⟨rfl,hg⟩:=hgv;have aP:=hh9 aD;have HG2:=hh9 (HG.out.trans hg);clear aD hg;go_wp2_with fail
  exact⟨rfl,_,.ku aP.out,rfl,HG2.out⟩
 |ok t q =>
  obtain⟨x,ht,aR,rfl,ha,hg⟩:=hgv;have hpq:=(aD.bound trivial hp t q rfl).1;obtain⟨h2,h5⟩:x.ns.oneCell'=true/\x.ks.oneCell'=true:=⟨fq ht,eU ht⟩
  have H2:=hh9 h2;have H5:=hh9 h5;have hz1:w.heap.size+1<=w1.heap.size:=by have:=hg.size;simp at this;omega
  have ht1:av w1 (fun b=>w.heap.size+1<=b) x t:=ht.weak (fun b hb _=>by simp at hb;omega)
  have H0:Hid (YT R s p d w (w1.alloc (.cells x.arr 29)) (.slice (some ⟨w1.heap.size,0,none⟩) 1 1) q) :=
   ⟨[t],fK.one ht1 (zbA _) hz1 (zbO w1 _) (fun b _ hl=>heap_alloc_old _ _ hl) (by simp),by simp,by simp,hpq,aR,ha.alloc _,dn (HG.out.trans hg) _,lV (bG HR.out hg (by omega)) _,
    fun r hr=>.jS aD hr⟩
  clear aD ha hg h2 h5 ht ht1 HR HA HG;go_wp2_with (refine nR rfl _ rfl x rfl H2.out H5.out ?_)
  clear H2 H5;go_loopw [3] (fun v wr=>∃ q:Nat,Hid (YT R s p d w wr v q)) (fun _ wr=>s.size-qH R wr)
  case atStart=>exact⟨q,H0⟩
  case round =>
   clear H0 hz1 hpq aR;obtain⟨q,HI⟩:=hrel;obtain⟨l,hk0,hl0,hlq,hpq,aR,ha,hg,hres,hall⟩:=HI.out;have HA:=hh9 ha;have HG:=hh9 hg;have aV:=hh9 hres;have HK:=hh9 hk0;have aF:=hh9 hall;have HM:=hh9 ha.pos;have hz:w.heap.size+1<=wr.heap.size:=by have:=hres.lt;omega
   clear ha hg hres hk0 hall;by_cases h47:rd s q=47
   ·have uU:=hh9 h47;have hlt:=fP (by omega) h47;clear h47;go_wp2_with fail
    refine(uP HA.out hs 47 (by omega) uU.out).mono ?_;rintro e w2 ⟨rfl,ha,hg⟩;have HA2:=hh9 ha;have HG2:=hh9 (HG.out.trans hg);have jG:=hh9 (HK.out.grown hg (by omega));have dL:=hh9 (bG aV.out hg (by omega));have hz2:w.heap.size+1<=w2.heap.size:=by have:=hg.size;omega
    clear ha hg HA HG HK aV;go_wp2_with fail
    refine(Ii HA2.out hs (by omega)).mono ?_;rintro e w3 ⟨q2,hsk,hle,hls,rfl,ha,hg⟩;have oN:=hh9 hsk.eq;have aC:=hh9 ha;have aG:=hh9 (HG2.out.trans hg);have jN:=hh9 (jG.out.grown hg (by omega));have fQ:=hh9 (bG dL.out hg (by omega));have hz3:w.heap.size+1<=w3.heap.size:=by have:=hg.size;omega
    clear hsk ha hg HA2 HG2 jG dL;go_wp2_with fail
    refine(lX.out aC.out hs hls hd (by omega)).mono ?_;rintro e w4 ⟨r,aD,hgv⟩
    cases r with
    |err c =>
     obtain⟨rfl,hg⟩:=hgv;have aP:=hh9 aD;have bD:=hh9 (aG.out.trans hg);clear aD hg;go_wp2_with fail
     refine⟨rfl,_,aF.out _ (.jk uU.out ?_),rfl,bD.out⟩;rw[oN.out];exact aP.out
    |ok t q3 =>
     obtain⟨x,ht,rD,rfl,ha,hg⟩:=hgv;have SI:=(aD.bound trivial hls t q3 rfl).1;have h2:=fq ht;have h5:=eU ht;have H2:=hh9 h2;have H5:=hh9 h5;have dF:w.heap.size+1<=w4.heap.size:=by have:=hg.size;omega
     have nP:=hh9 ((jN.out.grown hg (by omega)).below ((zbE w4.heap.size w4).alloc (zbA _) (.cells x.arr 29)));have uT:=hh9 ((zjp jN.out ht hz3).under ((zbE w4.heap.size w4).alloc (zbA _) (.cells x.arr 29)));have bf:=hh9 (ha.alloc (.cells x.arr 29));have bD:=hh9 (dn (aG.out.trans hg) (.cells x.arr 29));have HR4:=hh9 (lV (bG fQ.out hg (by omega)) (.cells x.arr 29));have aP:=hh9 aD;clear aD ha hg ht jN aC aG fQ h2 h5
     go_wp2_with (first
      |(refine nR rfl _ rfl x rfl H2.out H5.out ?_)
      |(at_builtin;go_loud (refine Ns rfl _ _ rfl (w.heap.size+1) _ l t x w4.heap.size rfl rfl nP.out uT.out (zbO w4 _) ?c1 ?c2 ?_)))
     case c1=>omega
     case c2=>simp;omega
     intro v' w5 hk5 hgrow;have tV:=hh9 hk5;have bQ:=hh9 (YR nP.out bf.out hgrow (by omega));have dR:=hh9 (Nt nP.out bD.out hgrow (by omega));have fT:=hh9 (Nu nP.out HR4.out hgrow (by omega));clear hk5 hgrow nP bf bD HR4 uT H2 H5;go_wp2_with fail
     go_roundw
     case rel=>exact⟨q3,l++[t],tV.out,by simp,by simp;omega,by omega,rD,bQ.out,dR.out,fT.out,fun r hr=>aF.out r (.jT uU.out (by rw[oN.out];exact aP.out) hr)⟩
     case measure =>
      rw[HM.out,bQ.out.pos];omega
   ·have uU:=hh9 h47;have aU:Hid (aK (rd s) .alts d p (.ok (uj 1 l) q)):=aF.out _ (.gV h47);clear h47;go_wp2_with fail
    refine(tT HA.out hs aR 47 (by omega) uU.out).mono ?_;rintro e w3 ⟨rfl,ha,hg⟩;have aC:=hh9 ha;have aG:=hh9 (HG.out.trans hg);have jN:=hh9 (HK.out.grown hg (by omega));have fQ:=hh9 (bG aV.out hg (by omega));have hz3:w.heap.size+1<=w3.heap.size:=by have:=hg.size;omega
    clear ha hg HA HG HK aV;go_wp2_with fail
    refine(SE 1 jN.out hz3 (by omega)).mono ?_;rintro e w4 ⟨x,ht,rfl,hb⟩;have H2:=hh9 (fq ht);have H5:=hh9 (eU ht);have HR4:=hh9 (fQ.out.kept (hb.block _ fQ.out.lt));have bf:=hh9 (aC.out.below hb);have bD:=hh9 (dw aG.out hb);have HT:=hh9 ht;clear ht hb;go_wp2_with (refine bA rfl _ _ rfl w.heap.size x rfl rfl HR4.out H2.out H5.out ?_)
    refine bodyPost_ret_by (zag rfl _ _ w.heap.size x rfl HR4.out) rfl ⟨_,aU.out,x,?_,aR,rfl,bf.out.aj (by omega) _,dY bD.out (zbA _) _⟩;exact(HT.out.aj (fun b hb=>by omega) _).weak (fun b hb _=>by omega)
def qdd(R:Nat)(s:ByteArray)(d p:Nat)(cl:Int)(w:World)(e:Ending)(w':World):Prop:=∃ r:Got Tree,qg (rd s) d p cl r/\YO R s d r w e w'
theorem At.Kw{w:World}{R:Nat}{s:ByteArray}{p d:Nat}(h:At w R s p d){x:Int}{q:Nat}(hx:x=q):At (w.setCell ⟨R,2,none⟩ (.int .i64 x)) R s p q:=by rw[hx];exact h.Sy q
theorem YU{R p d:Nat}{s:ByteArray}{w:World}(o cl:Int)(ho0:0<o)(hcl0:0<cl)(hel:∀ k',k'<s.size-p->uR 142 .alts k')(h:At w R s p d)(hs:s.size<=50000)(hd:d<=50)(ho:rd s p=o) :
  Calls Tryz.prog 188 #[.pointer (some ⟨R,0,none⟩),.int .u8 o,.int .u8 cl] w (qdd R s d p cl w):=by
 have hR:=h.lt;have hlt:=fP (by omega) ho;have HR:=hh9 (fG w);have HA:=hh9 (h.alloc (.cells #[.int .i64 0,.string ⟨#[]⟩,.slice none 0 0,.int .i64 0,.int .i64 0,.slice none 0 0] 29));have HG:=hh9 (World.grownBy_alloc w (.cells #[.int .i64 0,.string ⟨#[]⟩,.slice none 0 0,.int .i64 0,.int .i64 0,.slice none 0 0] 29) (some R));have HO:=hh9 ho;have lX:Hid (∀ k',k'<s.size-p->uR 142 .alts k'):=hel;clear h hel ho;go_enter Tryz.func188,Tryz.ntmps188;go_wp2_with fail
 refine(kG HA.out hs o ho0 HO.out).mono ?_;rintro e w1 ⟨rfl,ha,hg⟩;have hz1:w.heap.size+1<=w1.heap.size:=by have:=hg.size;simp at this;omega
 have HR1:=hh9 (bG HR.out hg (by omega));have HA1:=hh9 ha;have aT:=hh9 (HG.out.trans hg);obtain⟨c0,c1,c2,z0,z1,z2⟩:=ha.cells;clear ha hg HR HA HG;by_cases h50:d=50
 ·have hq:decide ((d:Int)=50)=true:=zbN (by omega);have hq2:((d:Int)==50)=true:=by simp;omega
  have HD:=hh9 h50;clear h50;go_wp2_with fail
  refine(Cg _ _).mono ?_;rintro e w5 ⟨rfl,rfl⟩;go_wp2_with fail
  exact⟨rfl,_,.deep HD.out,rfl,aT.out⟩
 ·have hq:decide ((d:Int)=50)=false:=zbM (by omega);have hq2:((d:Int)==50)=false:=by simp;omega
  have hd2:d+1<=50:=by omega
  go_wp2_with fail
  have HA2:=hh9 (HA1.out.Kw (x:=(d:Int)+1) (q:=d+1) (by omega));have HG2:=hh9 (fu aT.out 2 (.int .i64 ((d:Int)+1)));have HR2:=hh9 (zdt (k:=2) (v:=.int .i64 ((d:Int)+1)) HR1.out (show w.heap.size≠R by omega));refine(Ii HA2.out hs (by omega)).mono ?_;rintro e w3 ⟨q,hsk,hle,hls,rfl,ha,hg⟩;have oN:=hh9 hsk.eq;have hz3:w.heap.size+1<=w3.heap.size:=by have:=hg.size;simp at this;omega
  have aC:=hh9 ha;have aG:=hh9 (HG2.out.trans hg);have HR3:=hh9 (bG HR2.out hg (by omega));clear hsk ha hg HA2 HG2 HR2 HA1 aT HR1;go_wp2_with fail
  refine(lX.out (s.size-q) (by omega) aC.out hs hls hd2 (zbA _)).mono ?_;rintro e w4 ⟨r,aD,hgv⟩
  cases r with
  |err c =>
   obtain⟨rfl,hg⟩:=hgv;have aP:Hid (aK (rd s) .alts (d+1) (bN (rd s) (p+1)) (.err c)):=by rw[oN.out];exact aD
   have bD:=hh9 (aG.out.trans hg);clear aD hg;go_wp2_with fail
   exact⟨rfl,_,.err (by omega) aP.out,rfl,bD.out⟩
  |ok t q2 =>
   obtain⟨x,ht,aR,rfl,ha,hg⟩:=hgv;have aP:Hid (aK (rd s) .alts (d+1) (bN (rd s) (p+1)) (.ok t q2)):=by rw[oN.out];exact aD
   have h2:=fq ht;have h5:=eU ht;have H2:=hh9 h2;have H5:=hh9 h5;have dF:w.heap.size+1<=w4.heap.size:=by have:=hg.size;omega
   have bD:Hid (w.grownBy ((w4.alloc (.cells #[.int .i64 0,.string ⟨#[]⟩,.slice none 0 0,.int .i64 0,.int .i64 0,.slice none 0 0] 29)).setRow w4.heap.size x.arr) (some R)):=dY (dn (aG.out.trans hg) _) (by omega) _;have bf:Hid (At ((w4.alloc (.cells #[.int .i64 0,.string ⟨#[]⟩,.slice none 0 0,.int .i64 0,.int .i64 0,.slice none 0 0] 29)).setRow w4.heap.size x.arr) R s q2 (d+1)):=(ha.alloc _).aj (by have:=ha.lt;omega) _;have HR4:Hid (bg ((w4.alloc (.cells #[.int .i64 0,.string ⟨#[]⟩,.slice none 0 0,.int .i64 0,.int .i64 0,.slice none 0 0] 29)).setRow w4.heap.size x.arr) w.heap.size):=Ai (lV (bG HR3.out hg (by omega)) _) _ (by omega);have eB:Hid (((w4.alloc (.cells #[.int .i64 0,.string ⟨#[]⟩,.slice none 0 0,.int .i64 0,.int .i64 0,.slice none 0 0] 29)).setRow w4.heap.size x.arr).heap[w4.heap.size]?=some (.cells x.arr 29 (0,0))):=wF (fG w4) _
   have uT:Hid (av ((w4.alloc (.cells #[.int .i64 0,.string ⟨#[]⟩,.slice none 0 0,.int .i64 0,.int .i64 0,.slice none 0 0] 29)).setRow w4.heap.size x.arr) (fun b=>w.heap.size+1<=b/\b≠w4.heap.size) x t):=by
    have h1:=ht.weak (P':=fun b=>w.heap.size+1<=b/\b≠w4.heap.size) (fun b hP hl=>⟨by omega,by omega⟩);have h3:=h1.under (W':=w4.alloc (.cells #[.int .i64 0,.string ⟨#[]⟩,.slice none 0 0,.int .i64 0,.int .i64 0,.slice none 0 0] 29)) ((zbE _ _).alloc (zbA _) _);exact h3.aj (fun b hP=>hP.2) _
   have rT:w4.heap.size<((w4.alloc (.cells #[.int .i64 0,.string ⟨#[]⟩,.slice none 0 0,.int .i64 0,.int .i64 0,.slice none 0 0] 29)).setRow w4.heap.size x.arr).heap.size:=by simp[World.setRow]
   clear aD ha hg ht h2 h5 aC aG HR3;go_wp2_with (refine bA rfl _ _ rfl w4.heap.size x rfl rfl (fG w4) H2.out H5.out ?_)
   obtain⟨w5,EC⟩:∃ y,y=(w4.alloc (.cells #[.int .i64 0,.string ⟨#[]⟩,.slice none 0 0,.int .i64 0,.int .i64 0,.slice none 0 0] 29)).setRow w4.heap.size x.arr:=⟨_,rfl⟩
   rw[<- EC]at bD bf HR4 eB uT rT ⊢;clear EC;by_cases hcl:rd s q2=cl
   ·have wY:=hh9 hcl;have hlt2:=fP (by omega) hcl;clear hcl;refine(kG bf.out hs cl hcl0 wY.out).mono ?_;rintro e w6 ⟨rfl,ha,hg⟩;have Fj:w5.heap.size<=w6.heap.size:=hg.size;obtain⟨c0',c1',c2',Ov,z1',z2'⟩:=ha.cells;have jL:Hid (At (w6.setCell ⟨R,2,none⟩ (.int .i64 (d:Int))) R s (q2+1) d):=ha.Kw rfl;have mP:=hh9 (fu (bD.out.trans hg) 2 (.int .i64 (d:Int)));have nZ:=hh9 (zdt (k:=2) (v:=.int .i64 (d:Int)) (bG HR4.out hg (by omega)) (show w.heap.size≠R by omega))
    have sJ:Hid ((w6.setCell ⟨R,2,none⟩ (.int .i64 (d:Int))).heap[w4.heap.size]?=some (.cells x.arr 29 (0,0))):=by
     have e1:=zbQ w6 ⟨R,2,none⟩ (.int .i64 (d:Int)) w4.heap.size (show w4.heap.size≠R by omega);exact e1.trans ((hg.block w4.heap.size rT (fun e=>by have:=zbB e;omega)).trans eB.out)
    have tX:Hid (av (w6.setCell ⟨R,2,none⟩ (.int .i64 (d:Int))) (fun b=>w.heap.size+1<=b/\b≠w4.heap.size) x t):=by
     have h1:=uT.out.kept (W':=w6) (P':=fun b=>w.heap.size+1<=b/\b≠w4.heap.size) (fun b hP hl=>⟨hg.block b hl (fun e=>by have:=zbB e;omega),hP⟩) Fj;exact h1.cell (fun b hP=>by omega)
    clear ha hg bf bD HR4 eB uT c0 c1 c2 z0 z1 z2 hq hq2;have hsub:((d+1:Nat):Int)-1=(d:Int):=by omega
    have hd0:(0:Int)<=(d:Int):=by omega
    go_wp2_with (first
     |(refine mO rfl _ rfl w4.heap.size x rfl sJ.out ?_)
     |(refine bA rfl _ _ rfl w.heap.size x rfl rfl nZ.out H2.out H5.out ?_))
    refine bodyPost_ret_by (zag rfl _ _ w.heap.size x rfl nZ.out) rfl ⟨_,.ok (by omega) aP.out wY.out,x,?_,hlt2,rfl,jL.out.aj (by omega) _,dY mP.out (zbA _) _⟩;exact(tX.out.aj (fun b hb=>by omega) _).weak (fun b hb _=>by omega)
   ·have wY:=hh9 hcl;clear hcl;refine(Ig bf.out hs aR cl hcl0 wY.out).mono ?_;rintro e w6 ⟨rfl,hg⟩;have mP:=hh9 (bD.out.trans hg);clear hg;go_wp2_with fail
    exact⟨rfl,_,.opened (by omega) aP.out wY.out,rfl,mP.out⟩
end Go.Proofs.YtahibnnhjahmnaaGreatDoor
