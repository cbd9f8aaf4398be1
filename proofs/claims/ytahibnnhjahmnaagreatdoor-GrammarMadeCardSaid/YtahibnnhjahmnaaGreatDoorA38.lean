/- Part 38 of what the laws of the grammar rest on. -/
import Derived.Test.YtahibnnhjahmnaaGreatDoorA37
set_option linter.all false
set_option maxRecDepth 100000
set_option maxHeartbeats 8000000
namespace Go.Proofs.YtahibnnhjahmnaaGreatDoor
open Go.RowKit
def yu(f:Nat):Prop:=∀ {R p d:Nat} {c:Int} {s:ByteArray} {w:World},bL w R s p c->c≠0->s.size<=50000->p<=54000->d<=60 ->
 Calls Tryz.prog f #[.pointer (some ⟨R,0,none⟩),.int .i64 d] w (qf7 R s p c w)
theorem ztl{f k:Nat}(h:U7 f k):yj f false .rep k:=by
 intro R p d s w ha hs hp hd hk;refine(h ha hs (fun _=>⟨hp,hd,hk⟩) (by omega) (by omega)).mono ?_;rintro e w' ⟨x,t,q,c,ht,hg,⟨_,ho⟩|⟨g,_⟩⟩
 ·exact⟨x,t,q,c,ht,hg,ho⟩
 ·exact absurd rfl g
theorem zlp{f k:Nat}(h:U7 f k):yu f:=by
 intro R p d c s w ha hc hs hp hd;refine(h ha hs (fun g=>absurd g hc) hp hd).mono ?_;rintro e w' ⟨x,t,q,c',ht,hg,⟨g,_⟩|⟨_,rfl,hq⟩⟩
 ·exact absurd g hc
 ·exact⟨x,t,q,ht,hq,hg⟩
theorem zlq(hel:yu 80):yu 63:=by
 intro R p d c s w h hc hs hp hd;have hR:=h.lt;have qc:(c==0)=false:=by simpa using hc
 have HR:=hh9 (fG w);have HA:=hh9 (h.alloc (.cells #[.int .i64 0,.string ⟨#[]⟩,.slice none 0 0,.int .i64 0,.int .i64 0,.slice none 0 0] 29));have HG:=hh9 (World.grownBy_alloc w (.cells #[.int .i64 0,.string ⟨#[]⟩,.slice none 0 0,.int .i64 0,.int .i64 0,.slice none 0 0] 29) (some R));have lX:Hid (yu 80):=@hel;clear h hel;go_enter Tryz.func63,Tryz.ntmps63;go_wp2_with fail
 refine(lX.out HA.out hc hs hp hd).mono ?_;rintro e w1 ⟨x,t,q,ht,hq,⟨rfl,ha,hg⟩⟩;have H2:=hh9 (fq ht);have H5:=hh9 (eU ht);have hz1:w.heap.size+1<=w1.heap.size:=by have:=hg.size;simp at this;omega
 have HT:Hid (av (w1.alloc (.cells x.arr 29)) (fun b=>w.heap.size+1<=b) x t) :=
  (ht.weak (fun b hb _=>by simp at hb;omega)).under ((zbE _ _).alloc (zbA _) _)
 have HA1:=hh9 (ha.alloc (.cells x.arr 29));have aT:=hh9 (dn (HG.out.trans hg) (.cells x.arr 29));have HR1:=hh9 (lV (bG HR.out hg (by omega)) (.cells x.arr 29));have hblk:=zbO w1 (.cells x.arr 29);obtain⟨g,hgg⟩:∃ g,g=w1.heap.size:=⟨_,rfl⟩
 clear ht ha hg HR HA HG;go_wp2_with (refine nR rfl _ rfl x rfl H2.out H5.out ?_)
 rw[<- hgg]at hblk ⊢;obtain⟨W,hW⟩:∃ W,W=w1.alloc (.cells x.arr 29):=⟨_,rfl⟩
 rw[<- hW]at HT HA1 aT HR1 hblk ⊢;clear hW hgg;obtain⟨x0,x1,x2,x3,x4,x5⟩:=x;have e0:W.cell? ⟨g,0,none⟩=some (.int .i64 x0):=by simp[World.cell?,hblk,XV.arr]
 have e1:W.cell? ⟨g,1,none⟩=some (.string x1):=by simp[World.cell?,hblk,XV.arr]
 have e2:W.cell? ⟨g,2,none⟩=some x2:=by simp[World.cell?,hblk,XV.arr]
 have e3:W.cell? ⟨g,3,none⟩=some (.int .i64 x3):=by simp[World.cell?,hblk,XV.arr]
 have e4:W.cell? ⟨g,4,none⟩=some (.int .i64 x4):=by simp[World.cell?,hblk,XV.arr]
 have e5:W.cell? ⟨g,5,none⟩=some x5:=by simp[World.cell?,hblk,XV.arr]
 have hb3:g<W.heap.size:=(zbD.1 hblk).1;obtain⟨c0,c1,c2,z0,z1,z2⟩:=HA1.out.cells;clear hblk;go_loopw [5] (fun v wr=>v=.slice (some ⟨g,0,none⟩) 1 1/\wr=W) (fun _ _=>0)
 case atStart=>exact⟨rfl,rfl⟩
 case round =>
  obtain⟨rfl,rfl⟩:=hrel;go_wp2_with (refine bA rfl _ _ rfl w.heap.size ⟨x0,x1,x2,x3,x4,x5⟩ rfl rfl HR1.out H2.out H5.out ?_)
  exact bodyPost_ret_by (zag rfl _ _ w.heap.size ⟨x0,x1,x2,x3,x4,x5⟩ rfl HR1.out) rfl ⟨_,t,q,(HT.out.aj (fun b hb=>by omega) _).weak (fun b hb _=>by omega),hq,rfl,HA1.out.aj (by omega) _,dY aT.out (zbA _) _⟩
theorem zlr(hel:yu 63):yu 43:=by
 intro R p d c s w h hc hs hp hd;have hR:=h.lt;have qc:(c==0)=false:=by simpa using hc
 have HR:=hh9 (fG w);have HA:=hh9 (h.alloc (.cells #[.int .i64 0,.string ⟨#[]⟩,.slice none 0 0,.int .i64 0,.int .i64 0,.slice none 0 0] 29));have HG:=hh9 (World.grownBy_alloc w (.cells #[.int .i64 0,.string ⟨#[]⟩,.slice none 0 0,.int .i64 0,.int .i64 0,.slice none 0 0] 29) (some R));have lX:Hid (yu 63):=@hel;clear h hel;go_enter Tryz.func43,Tryz.ntmps43;go_wp2_with fail
 refine(lX.out HA.out hc hs hp hd).mono ?_;rintro e w1 ⟨x,t,q,ht,hq,⟨rfl,ha,hg⟩⟩;have H2:=hh9 (fq ht);have H5:=hh9 (eU ht);have hz1:w.heap.size+1<=w1.heap.size:=by have:=hg.size;simp at this;omega
 have HT:Hid (av (w1.alloc (.cells x.arr 29)) (fun b=>w.heap.size+1<=b) x t) :=
  (ht.weak (fun b hb _=>by simp at hb;omega)).under ((zbE _ _).alloc (zbA _) _)
 have HA1:=hh9 (ha.alloc (.cells x.arr 29));have aT:=hh9 (dn (HG.out.trans hg) (.cells x.arr 29));have HR1:=hh9 (lV (bG HR.out hg (by omega)) (.cells x.arr 29));have hblk:=zbO w1 (.cells x.arr 29);obtain⟨g,hgg⟩:∃ g,g=w1.heap.size:=⟨_,rfl⟩
 clear ht ha hg HR HA HG;go_wp2_with (refine nR rfl _ rfl x rfl H2.out H5.out ?_)
 rw[<- hgg]at hblk ⊢;obtain⟨W,hW⟩:∃ W,W=w1.alloc (.cells x.arr 29):=⟨_,rfl⟩
 rw[<- hW]at HT HA1 aT HR1 hblk ⊢;clear hW hgg;obtain⟨x0,x1,x2,x3,x4,x5⟩:=x;have e0:W.cell? ⟨g,0,none⟩=some (.int .i64 x0):=by simp[World.cell?,hblk,XV.arr]
 have e1:W.cell? ⟨g,1,none⟩=some (.string x1):=by simp[World.cell?,hblk,XV.arr]
 have e2:W.cell? ⟨g,2,none⟩=some x2:=by simp[World.cell?,hblk,XV.arr]
 have e3:W.cell? ⟨g,3,none⟩=some (.int .i64 x3):=by simp[World.cell?,hblk,XV.arr]
 have e4:W.cell? ⟨g,4,none⟩=some (.int .i64 x4):=by simp[World.cell?,hblk,XV.arr]
 have e5:W.cell? ⟨g,5,none⟩=some x5:=by simp[World.cell?,hblk,XV.arr]
 have hb3:g<W.heap.size:=(zbD.1 hblk).1;obtain⟨c0,c1,c2,z0,z1,z2⟩:=HA1.out.cells;clear hblk;go_loopw [5] (fun v wr=>v=.slice (some ⟨g,0,none⟩) 1 1/\wr=W) (fun _ _=>0)
 case atStart=>exact⟨rfl,rfl⟩
 case round =>
  obtain⟨rfl,rfl⟩:=hrel;go_wp2_with (refine bA rfl _ _ rfl w.heap.size ⟨x0,x1,x2,x3,x4,x5⟩ rfl rfl HR1.out H2.out H5.out ?_)
  exact bodyPost_ret_by (zag rfl _ _ w.heap.size ⟨x0,x1,x2,x3,x4,x5⟩ rfl HR1.out) rfl ⟨_,t,q,(HT.out.aj (fun b hb=>by omega) _).weak (fun b hb _=>by omega),hq,rfl,HA1.out.aj (by omega) _,dY aT.out (zbA _) _⟩
def Gf(s:ByteArray)(d p:Nat)(cl:Int)(t:Tree)(q:Nat)(c:Int):Prop:=(c=0/\p<=q/\q<=s.size/\qg (rd s) d p cl (.ok t q))\/(c≠0/\q<=s.size+2+(52-d)/\qg (rd s) d p cl (.err c))
def qf8(R:Nat)(s:ByteArray)(d p:Nat)(cl:Int)(w:World)(e:Ending)(w':World):Prop :=
 ∃ (x:XV) (t:Tree) (q:Nat) (c:Int),av w' (fun b=>w.heap.size<=b) x t/\aW R s x.val q c w e w'/\Gf s d p cl t q c
theorem zn7{R p d:Nat}{s:ByteArray}{w:World}(o cl:Int)(ho0:0<o)(hcl0:0<cl)(hel:∀ k',k'<s.size-p->yj 43 true .alts k')(hbe:yu 43)
  (h:bL w R s p 0) (hs:s.size<=50000) (hd:d<=50) (ho:rd s p=o) :
  Calls Tryz.prog 117 #[.pointer (some ⟨R,0,none⟩),.int .i64 cl,.int .i64 d] w (qf8 R s d p cl w):=by
 have hR:=h.lt;have hlt:=fP (by omega) ho;have lX:Hid (∀ k',k'<s.size-p->yj 43 true .alts k'):=hel;have pK:Hid (yu 43):=@hbe;obtain⟨c0,c1,c2,z0,z1,z2⟩:=h.cells;have HA1:=hh9 (h.step.alloc (.cells #[.int .i64 0,.string ⟨#[]⟩,.slice none 0 0,.int .i64 0,.int .i64 0,.slice none 0 0] 29));have aT:=hh9 (dn (fu (iq w (some R)) 1 (.int .i64 ((p:Int)+1))) (.cells #[.int .i64 0,.string ⟨#[]⟩,.slice none 0 0,.int .i64 0,.int .i64 0,.slice none 0 0] 29))
 have HR1:Hid (bg ((w.setCell ⟨R,1,none⟩ (.int .i64 ((p:Int)+1))).alloc (.cells #[.int .i64 0,.string ⟨#[]⟩,.slice none 0 0,.int .i64 0,.int .i64 0,.slice none 0 0] 29)) w.heap.size):=by
  have g:=fG (w.setCell ⟨R,1,none⟩ (.int .i64 ((p:Int)+1)));rwa[show (w.setCell ⟨R,1,none⟩ (.int .i64 ((p:Int)+1))).heap.size=w.heap.size by simp]at g
 have hz1:w.heap.size+1<=((w.setCell ⟨R,1,none⟩ (.int .i64 ((p:Int)+1))).alloc (.cells #[.int .i64 0,.string ⟨#[]⟩,.slice none 0 0,.int .i64 0,.int .i64 0,.slice none 0 0] 29)).heap.size:=by simp
 clear h hel hbe ho;by_cases h50:50<=d
 ·have Mx:d=50:=by omega
  have HD:=hh9 Mx;have hq:decide ((50:Int)<=(d:Int))=true:=zbN (by omega);clear Mx;go_enter Tryz.func117,Tryz.ntmps117;go_wp2_with fail
  refine(tZ HA1.out 2).mono ?_;rintro e PD ⟨rfl,ha,hg⟩;have xR:=hh9 ha;have zT:=hh9 (aT.out.trans hg);have zU:=hh9 (bG HR1.out hg (by omega));have hz1b:w.heap.size+1<=PD.heap.size:=by have:=hg.size;omega
  clear ha hg;go_wp2_with fail
  refine(OW xR.out (by omega) hs).mono ?_;rintro e w2 ⟨rfl,ha,hg⟩;have HA2:=hh9 ha;have HG2:=hh9 (zT.out.trans hg);have HR2:=hh9 (bG zU.out hg (by omega));have hz2:w.heap.size+1<=w2.heap.size:=by have:=hg.size;omega
  clear ha hg HA1 aT HR1 xR zT zU hz1 hz1b c0 c1 c2 z0 z1 z2;have hd1:((d:Int)+1)=((d+1:Nat):Int):=by omega
  obtain⟨d',hd'⟩:∃ d',d+1=d':=⟨_,rfl⟩
  have hd2:(d:Int)+1=(d':Int):=by omega
  clear hd1;go_wp2_with fail
  refine(pK.out (d:=d') HA2.out (by omega) hs (by omega) (by omega)).mono ?_;rintro e w3 ⟨x,t,q,ht,hq3,⟨rfl,ha,hg⟩⟩;obtain⟨c,hcc⟩:∃ c:Int,c=2:=⟨_,rfl⟩
  rw[<- hcc]at ha;have hc:c≠0:=by omega
  have ay:Hid (Gf s d p cl t (q+1) c):=.inr ⟨hc,by omega,by rw[hcc];exact .deep HD.out⟩;have qV:q<=60000:=by omega
  clear hq;have H2:=hh9 (fq ht);have H5:=hh9 (eU ht);have hz3:w.heap.size+1<=w3.heap.size:=by have:=hg.size;omega
  have HX:Hid (((w3.alloc (.cells #[.int .i64 0,.string ⟨#[]⟩,.slice none 0 0,.int .i64 0,.int .i64 0,.slice none 0 0] 29)).setRow w3.heap.size x.arr).heap[w3.heap.size]?=some (.cells x.arr 29 (0,0))):=wF (fG w3) _
  have HT3:Hid (av ((w3.alloc (.cells #[.int .i64 0,.string ⟨#[]⟩,.slice none 0 0,.int .i64 0,.int .i64 0,.slice none 0 0] 29)).setRow w3.heap.size x.arr) (fun b=>w.heap.size+1<=b) x t):=by
   have h1:=ht.weak (P':=fun b=>w.heap.size+1<=b/\b≠w3.heap.size) (fun b hP hl=>⟨by omega,by omega⟩);have h3:=h1.under (W':=w3.alloc (.cells #[.int .i64 0,.string ⟨#[]⟩,.slice none 0 0,.int .i64 0,.int .i64 0,.slice none 0 0] 29)) ((zbE _ _).alloc (zbA _) _);exact(h3.aj (fun b hP=>hP.2) _).weak (fun b hP _=>hP.1)
  have aG:Hid (w.grownBy ((w3.alloc (.cells #[.int .i64 0,.string ⟨#[]⟩,.slice none 0 0,.int .i64 0,.int .i64 0,.slice none 0 0] 29)).setRow w3.heap.size x.arr) (some R)):=dY (dn (HG2.out.trans hg) _) (by omega) _;have aC:Hid (bL ((w3.alloc (.cells #[.int .i64 0,.string ⟨#[]⟩,.slice none 0 0,.int .i64 0,.int .i64 0,.slice none 0 0] 29)).setRow w3.heap.size x.arr) R s q c):=(ha.alloc _).aj (by omega) _;have HR3:Hid (bg ((w3.alloc (.cells #[.int .i64 0,.string ⟨#[]⟩,.slice none 0 0,.int .i64 0,.int .i64 0,.slice none 0 0] 29)).setRow w3.heap.size x.arr) w.heap.size):=Ai (lV (bG HR2.out hg (by omega)) _) _ (by omega);have dF:w.heap.size+1<=((w3.alloc (.cells #[.int .i64 0,.string ⟨#[]⟩,.slice none 0 0,.int .i64 0,.int .i64 0,.slice none 0 0] 29)).setRow w3.heap.size x.arr).heap.size:=by simp[World.setRow];omega
  clear ht ha hg;clear hcc;go_wp2_with (refine bA rfl _ _ rfl w3.heap.size x rfl rfl (fG w3) H2.out H5.out ?_)
  refine(OW aC.out hc hs).mono ?_;rintro e w5 ⟨rfl,ha,hg⟩;have tC:w3.heap.size<((w3.alloc (.cells #[.int .i64 0,.string ⟨#[]⟩,.slice none 0 0,.int .i64 0,.int .i64 0,.slice none 0 0] 29)).setRow w3.heap.size x.arr).heap.size:=by simp[World.setRow]
  have rZ:Hid (w5.heap[w3.heap.size]?=some (.cells x.arr 29 (0,0))):=(hg.block w3.heap.size tC (fun e=>by have:=zbB e;omega)).trans HX.out;have o8:=hh9 (HT3.out.kept (P':=fun b=>w.heap.size+1<=b) (fun b hP hl=>⟨hg.block b hl (fun e=>by have:=zbB e;omega),hP⟩) hg.size);have dR:=hh9 (aG.out.trans hg);have fT:=hh9 (bG HR3.out hg (by omega));have bQ:=hh9 ha;have rT:w.heap.size+1<=w5.heap.size:=by have:=hg.size;omega
  have vF:w3.heap.size<w5.heap.size:=by have:=hg.size;omega
  clear ha hg tC HX HT3 aG HR3 aC dF;by_cases hcl:rd s q=cl
  ·have wY:=hh9 hcl;clear hcl;go_wp2_with fail
   refine(aQ bQ.out hs qV _ wY.out).mono ?_;rintro e w6 ⟨rfl,hb⟩;have wD:Hid (w6.heap[w3.heap.size]?=some (.cells x.arr 29 (0,0))):=(hb.block w3.heap.size vF).trans rZ.out;have tX:=hh9 (o8.out.under hb);have mP:=hh9 (dw dR.out hb);have nZ:=hh9 (fT.out.kept (hb.block _ fT.out.lt));have jL:=hh9 (bQ.out.below hb);have zN:w3.heap.size<w6.heap.size:=by have:=hb.size;omega
   clear hb rZ o8 dR fT bQ;obtain⟨d0,d1,d2,y0,y1,y2⟩:=jL.out.cells;have zV:Hid ((w6.setCell ⟨R,1,none⟩ (.int .i64 ((q:Int)+1))).heap[w3.heap.size]?=some (.cells x.arr 29 (0,0))):=(zbQ _ _ _ _ (show w3.heap.size≠R by omega)).trans wD.out;have jR:Hid (bg (w6.setCell ⟨R,1,none⟩ (.int .i64 ((q:Int)+1))) w.heap.size):=zdt nZ.out (by omega);have vD:=hh9 (tX.out.cell (R:=R) (k:=1) (v:=.int .i64 ((q:Int)+1)) (fun b hb=>by omega));have HAS:=hh9 jL.out.step;have zW:=hh9 (fu mP.out 1 (.int .i64 ((q:Int)+1)))
   go_wp2_with (first
    |(refine mO rfl _ rfl w3.heap.size x rfl zV.out ?_)
    |(refine bA rfl _ _ rfl w.heap.size x rfl rfl jR.out H2.out H5.out ?_))
   exact bodyPost_ret_by (zag rfl _ _ w.heap.size x rfl jR.out) rfl ⟨x,t,q+1,_,(vD.out.aj (fun b hb=>by omega) _).weak (fun b hb _=>by omega),⟨rfl,HAS.out.aj (by omega) _,dY zW.out (zbA _) _⟩,ay.out⟩
  ·obtain⟨Z,hZ⟩:∃ z,rd s q=z:=⟨_,rfl⟩
   have qz:(Z != cl)=true:=by rw[<- hZ];simpa using hcl
   have HZ:=hh9 hZ;clear hZ hcl;go_wp2_with fail
   refine(aQ bQ.out hs qV _ HZ.out).mono ?_;rintro e w6 ⟨rfl,hb⟩;have wD:Hid (w6.heap[w3.heap.size]?=some (.cells x.arr 29 (0,0))):=(hb.block w3.heap.size vF).trans rZ.out;have tX:=hh9 (o8.out.under hb);have mP:=hh9 (dw dR.out hb);have nZ:=hh9 (fT.out.kept (hb.block _ fT.out.lt));have jL:=hh9 (bQ.out.below hb);have zN:w3.heap.size<w6.heap.size:=by have:=hb.size;omega
   clear hb rZ o8 dR fT bQ;go_wp2_with fail
   refine(FH jL.out hc 20).mono ?_;rintro e w7 ⟨rfl,ha,hg⟩;have MB:Hid (w7.heap[w3.heap.size]?=some (.cells x.arr 29 (0,0))):=(hg.block w3.heap.size zN (fun e=>by have:=zbB e;omega)).trans wD.out;have DZ:=hh9 (tX.out.kept (P':=fun b=>w.heap.size+1<=b) (fun b hP hl=>⟨hg.block b hl (fun e=>by have:=zbB e;omega),hP⟩) hg.size);have xg:=hh9 (mP.out.trans hg);have MC:=hh9 (bG nZ.out hg (by omega));have vV:=hh9 ha;clear ha hg wD tX mP nZ jL;obtain⟨d0,d1,d2,y0,y1,y2⟩:=vV.out.cells;have zV:Hid ((w7.setCell ⟨R,1,none⟩ (.int .i64 ((q:Int)+1))).heap[w3.heap.size]?=some (.cells x.arr 29 (0,0))):=(zbQ _ _ _ _ (show w3.heap.size≠R by omega)).trans MB.out;have jR:Hid (bg (w7.setCell ⟨R,1,none⟩ (.int .i64 ((q:Int)+1))) w.heap.size):=zdt MC.out (by omega);have vD:=hh9 (DZ.out.cell (R:=R) (k:=1) (v:=.int .i64 ((q:Int)+1)) (fun b hb=>by omega));have HAS:=hh9 vV.out.step;have zW:=hh9 (fu xg.out 1 (.int .i64 ((q:Int)+1)))
   go_wp2_with (first
    |(refine mO rfl _ rfl w3.heap.size x rfl zV.out ?_)
    |(refine bA rfl _ _ rfl w.heap.size x rfl rfl jR.out H2.out H5.out ?_))
   exact bodyPost_ret_by (zag rfl _ _ w.heap.size x rfl jR.out) rfl ⟨x,t,q+1,_,(vD.out.aj (fun b hb=>by omega) _).weak (fun b hb _=>by omega),⟨rfl,HAS.out.aj (by omega) _,dY zW.out (zbA _) _⟩,ay.out⟩
 ·have hq:decide ((50:Int)<=(d:Int))=false:=zbM (by omega);have Gg:d<50:=by omega
  obtain⟨q1,hq1⟩:∃ q1,q1=bN (rd s) (p+1):=⟨_,rfl⟩
  obtain⟨jA,hle1,uS⟩:=wT (s:=s) (p:=p+1) (by omega);rw[<- hq1]at jA hle1 uS;have oN:=hh9 jA;have nY:=hh9 hq1;clear jA hq1;go_enter Tryz.func117,Tryz.ntmps117;go_wp2_with fail
  refine(Iw HA1.out hs (by omega)).mono ?_;rintro e w2 ⟨q2,hsk,hle,hls,rfl,ha,hg⟩;obtain rfl:q2=q1:=hsk.one oN.out;have HA2:=hh9 ha;have HG2:=hh9 (aT.out.trans hg);have HR2:=hh9 (bG HR1.out hg (by omega));have hz2:w.heap.size+1<=w2.heap.size:=by have:=hg.size;omega
  clear hsk ha hg HA1 aT HR1 hz1 c0 c1 c2 z0 z1 z2;obtain⟨d',hd'⟩:∃ d',d+1=d':=⟨_,rfl⟩
  have hd2:(d:Int)+1=(d':Int):=by omega
  go_wp2_with fail
  refine(lX.out (s.size-q2) (by omega) (d:=d') HA2.out hs hls (by omega) (zbA _)).mono ?_;rintro e w3 ⟨x,t,q,c,ht,⟨rfl,ha,hg⟩,hout⟩;rcases hout with ⟨rfl,hpq,aR,aD⟩|⟨hc,zaR,aD⟩
  ·have Eo:aK (rd s) .alts (d+1) (bN (rd s) (p+1)) (.ok t (bN (rd s) q)):=by rw[<- nY.out,hd'];exact aD
   have aP:=hh9 Eo;obtain⟨q5,yA⟩:∃ q5,q5=bN (rd s) q:=⟨_,rfl⟩
   obtain⟨jA,Mt,Mv⟩:=wT (s:=s) (p:=q) aR;rw[<- yA]at jA Mt Mv;have U8:=hh9 jA;have uh:=hh9 yA;clear jA yA aD Eo;have H2:=hh9 (fq ht);have H5:=hh9 (eU ht);have hz3:w.heap.size+1<=w3.heap.size:=by have:=hg.size;omega
   have HX:Hid (((w3.alloc (.cells #[.int .i64 0,.string ⟨#[]⟩,.slice none 0 0,.int .i64 0,.int .i64 0,.slice none 0 0] 29)).setRow w3.heap.size x.arr).heap[w3.heap.size]?=some (.cells x.arr 29 (0,0))):=wF (fG w3) _
   have HT3:Hid (av ((w3.alloc (.cells #[.int .i64 0,.string ⟨#[]⟩,.slice none 0 0,.int .i64 0,.int .i64 0,.slice none 0 0] 29)).setRow w3.heap.size x.arr) (fun b=>w.heap.size+1<=b) x t):=by
    have h1:=ht.weak (P':=fun b=>w.heap.size+1<=b/\b≠w3.heap.size) (fun b hP hl=>⟨by omega,by omega⟩);have h3:=h1.under (W':=w3.alloc (.cells #[.int .i64 0,.string ⟨#[]⟩,.slice none 0 0,.int .i64 0,.int .i64 0,.slice none 0 0] 29)) ((zbE _ _).alloc (zbA _) _);exact(h3.aj (fun b hP=>hP.2) _).weak (fun b hP _=>hP.1)
   have aG:Hid (w.grownBy ((w3.alloc (.cells #[.int .i64 0,.string ⟨#[]⟩,.slice none 0 0,.int .i64 0,.int .i64 0,.slice none 0 0] 29)).setRow w3.heap.size x.arr) (some R)):=dY (dn (HG2.out.trans hg) _) (by omega) _;have aC:Hid (bL ((w3.alloc (.cells #[.int .i64 0,.string ⟨#[]⟩,.slice none 0 0,.int .i64 0,.int .i64 0,.slice none 0 0] 29)).setRow w3.heap.size x.arr) R s q 0):=(ha.alloc _).aj (by omega) _;have HR3:Hid (bg ((w3.alloc (.cells #[.int .i64 0,.string ⟨#[]⟩,.slice none 0 0,.int .i64 0,.int .i64 0,.slice none 0 0] 29)).setRow w3.heap.size x.arr) w.heap.size):=Ai (lV (bG HR2.out hg (by omega)) _) _ (by omega);have dF:w.heap.size+1<=((w3.alloc (.cells #[.int .i64 0,.string ⟨#[]⟩,.slice none 0 0,.int .i64 0,.int .i64 0,.slice none 0 0] 29)).setRow w3.heap.size x.arr).heap.size:=by simp[World.setRow];omega
   clear ht ha hg;go_wp2_with (refine bA rfl _ _ rfl w3.heap.size x rfl rfl (fG w3) H2.out H5.out ?_)
   refine(Iw aC.out hs aR).mono ?_;rintro e w5 ⟨q6,hsk,zaS,zaT,rfl,ha,hg⟩;obtain rfl:q6=q5:=hsk.one U8.out;clear hsk;have tC:w3.heap.size<((w3.alloc (.cells #[.int .i64 0,.string ⟨#[]⟩,.slice none 0 0,.int .i64 0,.int .i64 0,.slice none 0 0] 29)).setRow w3.heap.size x.arr).heap.size:=by simp[World.setRow]
   have rZ:Hid (w5.heap[w3.heap.size]?=some (.cells x.arr 29 (0,0))):=(hg.block w3.heap.size tC (fun e=>by have:=zbB e;omega)).trans HX.out;have o8:=hh9 (HT3.out.kept (P':=fun b=>w.heap.size+1<=b) (fun b hP hl=>⟨hg.block b hl (fun e=>by have:=zbB e;omega),hP⟩) hg.size);have dR:=hh9 (aG.out.trans hg);have fT:=hh9 (bG HR3.out hg (by omega));have bQ:=hh9 ha;have rT:w.heap.size+1<=w5.heap.size:=by have:=hg.size;omega
   have vF:w3.heap.size<w5.heap.size:=by have:=hg.size;omega
   clear ha hg tC HX HT3 aG HR3 aC dF;by_cases hcl:rd s q6=cl
   ·have wY:=hh9 hcl;have FZ:q6<s.size:=fP (by omega) hcl;have ay:Hid (Gf s d p cl t (q6+1) 0):=.inl ⟨rfl,by omega,by omega,.ok Gg (by rw[uh.out];exact aP.out) hcl⟩;clear hcl;go_wp2_with fail
    refine(aQ bQ.out hs (by omega) _ wY.out).mono ?_;rintro e w6 ⟨rfl,hb⟩;have wD:Hid (w6.heap[w3.heap.size]?=some (.cells x.arr 29 (0,0))):=(hb.block w3.heap.size vF).trans rZ.out;have tX:=hh9 (o8.out.under hb);have mP:=hh9 (dw dR.out hb);have nZ:=hh9 (fT.out.kept (hb.block _ fT.out.lt));have jL:=hh9 (bQ.out.below hb);have zN:w3.heap.size<w6.heap.size:=by have:=hb.size;omega
    clear hb rZ o8 dR fT bQ;obtain⟨d0,d1,d2,y0,y1,y2⟩:=jL.out.cells;have zV:Hid ((w6.setCell ⟨R,1,none⟩ (.int .i64 ((q6:Int)+1))).heap[w3.heap.size]?=some (.cells x.arr 29 (0,0))):=(zbQ _ _ _ _ (show w3.heap.size≠R by omega)).trans wD.out;have jR:Hid (bg (w6.setCell ⟨R,1,none⟩ (.int .i64 ((q6:Int)+1))) w.heap.size):=zdt nZ.out (by omega);have vD:=hh9 (tX.out.cell (R:=R) (k:=1) (v:=.int .i64 ((q6:Int)+1)) (fun b hb=>by omega));have HAS:=hh9 jL.out.step;have zW:=hh9 (fu mP.out 1 (.int .i64 ((q6:Int)+1)))
    go_wp2_with (first
     |(refine mO rfl _ rfl w3.heap.size x rfl zV.out ?_)
     |(refine bA rfl _ _ rfl w.heap.size x rfl rfl jR.out H2.out H5.out ?_))
    exact bodyPost_ret_by (zag rfl _ _ w.heap.size x rfl jR.out) rfl ⟨x,t,q6+1,_,(vD.out.aj (fun b hb=>by omega) _).weak (fun b hb _=>by omega),⟨rfl,HAS.out.aj (by omega) _,dY zW.out (zbA _) _⟩,ay.out⟩
   ·obtain⟨Z,hZ⟩:∃ z,rd s q6=z:=⟨_,rfl⟩
    have qz:(Z != cl)=true:=by rw[<- hZ];simpa using hcl
    have HZ:=hh9 hZ;have ay:Hid (Gf s d p cl t (q6+1) 20):=.inr ⟨by omega,by omega,.opened Gg (by rw[uh.out];exact aP.out) hcl⟩;clear hZ hcl;go_wp2_with fail
    refine(aQ bQ.out hs (by omega) _ HZ.out).mono ?_;rintro e w6 ⟨rfl,hb⟩;have wD:Hid (w6.heap[w3.heap.size]?=some (.cells x.arr 29 (0,0))):=(hb.block w3.heap.size vF).trans rZ.out;have tX:=hh9 (o8.out.under hb);have mP:=hh9 (dw dR.out hb);have nZ:=hh9 (fT.out.kept (hb.block _ fT.out.lt));have jL:=hh9 (bQ.out.below hb);have zN:w3.heap.size<w6.heap.size:=by have:=hb.size;omega
    clear hb rZ o8 dR fT bQ;go_wp2_with fail
    refine(tZ jL.out 20).mono ?_;rintro e w7 ⟨rfl,ha,hg⟩;have MB:Hid (w7.heap[w3.heap.size]?=some (.cells x.arr 29 (0,0))):=(hg.block w3.heap.size zN (fun e=>by have:=zbB e;omega)).trans wD.out;have DZ:=hh9 (tX.out.kept (P':=fun b=>w.heap.size+1<=b) (fun b hP hl=>⟨hg.block b hl (fun e=>by have:=zbB e;omega),hP⟩) hg.size);have xg:=hh9 (mP.out.trans hg);have MC:=hh9 (bG nZ.out hg (by omega));have vV:=hh9 ha;clear ha hg wD tX mP nZ jL;obtain⟨d0,d1,d2,y0,y1,y2⟩:=vV.out.cells;have zV:Hid ((w7.setCell ⟨R,1,none⟩ (.int .i64 ((q6:Int)+1))).heap[w3.heap.size]?=some (.cells x.arr 29 (0,0))):=(zbQ _ _ _ _ (show w3.heap.size≠R by omega)).trans MB.out;have jR:Hid (bg (w7.setCell ⟨R,1,none⟩ (.int .i64 ((q6:Int)+1))) w.heap.size):=zdt MC.out (by omega);have vD:=hh9 (DZ.out.cell (R:=R) (k:=1) (v:=.int .i64 ((q6:Int)+1)) (fun b hb=>by omega));have HAS:=hh9 vV.out.step;have zW:=hh9 (fu xg.out 1 (.int .i64 ((q6:Int)+1)))
    go_wp2_with (first
     |(refine mO rfl _ rfl w3.heap.size x rfl zV.out ?_)
     |(refine bA rfl _ _ rfl w.heap.size x rfl rfl jR.out H2.out H5.out ?_))
    exact bodyPost_ret_by (zag rfl _ _ w.heap.size x rfl jR.out) rfl ⟨x,t,q6+1,_,(vD.out.aj (fun b hb=>by omega) _).weak (fun b hb _=>by omega),⟨rfl,HAS.out.aj (by omega) _,dY zW.out (zbA _) _⟩,ay.out⟩
  ·have ay:Hid (Gf s d p cl t (q+1) c):=.inr ⟨hc,by omega,.err Gg (by rw[<- nY.out,hd'];exact aD)⟩;have qV:q<=60000:=by omega
   clear aD;have H2:=hh9 (fq ht);have H5:=hh9 (eU ht);have hz3:w.heap.size+1<=w3.heap.size:=by have:=hg.size;omega
   have HX:Hid (((w3.alloc (.cells #[.int .i64 0,.string ⟨#[]⟩,.slice none 0 0,.int .i64 0,.int .i64 0,.slice none 0 0] 29)).setRow w3.heap.size x.arr).heap[w3.heap.size]?=some (.cells x.arr 29 (0,0))):=wF (fG w3) _
   have HT3:Hid (av ((w3.alloc (.cells #[.int .i64 0,.string ⟨#[]⟩,.slice none 0 0,.int .i64 0,.int .i64 0,.slice none 0 0] 29)).setRow w3.heap.size x.arr) (fun b=>w.heap.size+1<=b) x t):=by
    have h1:=ht.weak (P':=fun b=>w.heap.size+1<=b/\b≠w3.heap.size) (fun b hP hl=>⟨by omega,by omega⟩);have h3:=h1.under (W':=w3.alloc (.cells #[.int .i64 0,.string ⟨#[]⟩,.slice none 0 0,.int .i64 0,.int .i64 0,.slice none 0 0] 29)) ((zbE _ _).alloc (zbA _) _);exact(h3.aj (fun b hP=>hP.2) _).weak (fun b hP _=>hP.1)
   have aG:Hid (w.grownBy ((w3.alloc (.cells #[.int .i64 0,.string ⟨#[]⟩,.slice none 0 0,.int .i64 0,.int .i64 0,.slice none 0 0] 29)).setRow w3.heap.size x.arr) (some R)):=dY (dn (HG2.out.trans hg) _) (by omega) _;have aC:Hid (bL ((w3.alloc (.cells #[.int .i64 0,.string ⟨#[]⟩,.slice none 0 0,.int .i64 0,.int .i64 0,.slice none 0 0] 29)).setRow w3.heap.size x.arr) R s q c):=(ha.alloc _).aj (by omega) _;have HR3:Hid (bg ((w3.alloc (.cells #[.int .i64 0,.string ⟨#[]⟩,.slice none 0 0,.int .i64 0,.int .i64 0,.slice none 0 0] 29)).setRow w3.heap.size x.arr) w.heap.size):=Ai (lV (bG HR2.out hg (by omega)) _) _ (by omega);have dF:w.heap.size+1<=((w3.alloc (.cells #[.int .i64 0,.string ⟨#[]⟩,.slice none 0 0,.int .i64 0,.int .i64 0,.slice none 0 0] 29)).setRow w3.heap.size x.arr).heap.size:=by simp[World.setRow];omega
   clear ht ha hg;go_wp2_with (refine bA rfl _ _ rfl w3.heap.size x rfl rfl (fG w3) H2.out H5.out ?_)
   refine(OW aC.out hc hs).mono ?_;rintro e w5 ⟨rfl,ha,hg⟩;have tC:w3.heap.size<((w3.alloc (.cells #[.int .i64 0,.string ⟨#[]⟩,.slice none 0 0,.int .i64 0,.int .i64 0,.slice none 0 0] 29)).setRow w3.heap.size x.arr).heap.size:=by simp[World.setRow]
   have rZ:Hid (w5.heap[w3.heap.size]?=some (.cells x.arr 29 (0,0))):=(hg.block w3.heap.size tC (fun e=>by have:=zbB e;omega)).trans HX.out;have o8:=hh9 (HT3.out.kept (P':=fun b=>w.heap.size+1<=b) (fun b hP hl=>⟨hg.block b hl (fun e=>by have:=zbB e;omega),hP⟩) hg.size);have dR:=hh9 (aG.out.trans hg);have fT:=hh9 (bG HR3.out hg (by omega));have bQ:=hh9 ha;have rT:w.heap.size+1<=w5.heap.size:=by have:=hg.size;omega
   have vF:w3.heap.size<w5.heap.size:=by have:=hg.size;omega
   clear ha hg tC HX HT3 aG HR3 aC dF;by_cases hcl:rd s q=cl
   ·have wY:=hh9 hcl;clear hcl;go_wp2_with fail
    refine(aQ bQ.out hs qV _ wY.out).mono ?_;rintro e w6 ⟨rfl,hb⟩;have wD:Hid (w6.heap[w3.heap.size]?=some (.cells x.arr 29 (0,0))):=(hb.block w3.heap.size vF).trans rZ.out;have tX:=hh9 (o8.out.under hb);have mP:=hh9 (dw dR.out hb);have nZ:=hh9 (fT.out.kept (hb.block _ fT.out.lt));have jL:=hh9 (bQ.out.below hb);have zN:w3.heap.size<w6.heap.size:=by have:=hb.size;omega
    clear hb rZ o8 dR fT bQ;obtain⟨d0,d1,d2,y0,y1,y2⟩:=jL.out.cells;have zV:Hid ((w6.setCell ⟨R,1,none⟩ (.int .i64 ((q:Int)+1))).heap[w3.heap.size]?=some (.cells x.arr 29 (0,0))):=(zbQ _ _ _ _ (show w3.heap.size≠R by omega)).trans wD.out;have jR:Hid (bg (w6.setCell ⟨R,1,none⟩ (.int .i64 ((q:Int)+1))) w.heap.size):=zdt nZ.out (by omega);have vD:=hh9 (tX.out.cell (R:=R) (k:=1) (v:=.int .i64 ((q:Int)+1)) (fun b hb=>by omega));have HAS:=hh9 jL.out.step;have zW:=hh9 (fu mP.out 1 (.int .i64 ((q:Int)+1)))
    go_wp2_with (first
     |(refine mO rfl _ rfl w3.heap.size x rfl zV.out ?_)
     |(refine bA rfl _ _ rfl w.heap.size x rfl rfl jR.out H2.out H5.out ?_))
    exact bodyPost_ret_by (zag rfl _ _ w.heap.size x rfl jR.out) rfl ⟨x,t,q+1,_,(vD.out.aj (fun b hb=>by omega) _).weak (fun b hb _=>by omega),⟨rfl,HAS.out.aj (by omega) _,dY zW.out (zbA _) _⟩,ay.out⟩
   ·obtain⟨Z,hZ⟩:∃ z,rd s q=z:=⟨_,rfl⟩
    have qz:(Z != cl)=true:=by rw[<- hZ];simpa using hcl
    have HZ:=hh9 hZ;clear hZ hcl;go_wp2_with fail
    refine(aQ bQ.out hs qV _ HZ.out).mono ?_;rintro e w6 ⟨rfl,hb⟩;have wD:Hid (w6.heap[w3.heap.size]?=some (.cells x.arr 29 (0,0))):=(hb.block w3.heap.size vF).trans rZ.out;have tX:=hh9 (o8.out.under hb);have mP:=hh9 (dw dR.out hb);have nZ:=hh9 (fT.out.kept (hb.block _ fT.out.lt));have jL:=hh9 (bQ.out.below hb);have zN:w3.heap.size<w6.heap.size:=by have:=hb.size;omega
    clear hb rZ o8 dR fT bQ;go_wp2_with fail
    refine(FH jL.out hc 20).mono ?_;rintro e w7 ⟨rfl,ha,hg⟩;have MB:Hid (w7.heap[w3.heap.size]?=some (.cells x.arr 29 (0,0))):=(hg.block w3.heap.size zN (fun e=>by have:=zbB e;omega)).trans wD.out;have DZ:=hh9 (tX.out.kept (P':=fun b=>w.heap.size+1<=b) (fun b hP hl=>⟨hg.block b hl (fun e=>by have:=zbB e;omega),hP⟩) hg.size);have xg:=hh9 (mP.out.trans hg);have MC:=hh9 (bG nZ.out hg (by omega));have vV:=hh9 ha;clear ha hg wD tX mP nZ jL;obtain⟨d0,d1,d2,y0,y1,y2⟩:=vV.out.cells;have zV:Hid ((w7.setCell ⟨R,1,none⟩ (.int .i64 ((q:Int)+1))).heap[w3.heap.size]?=some (.cells x.arr 29 (0,0))):=(zbQ _ _ _ _ (show w3.heap.size≠R by omega)).trans MB.out;have jR:Hid (bg (w7.setCell ⟨R,1,none⟩ (.int .i64 ((q:Int)+1))) w.heap.size):=zdt MC.out (by omega);have vD:=hh9 (DZ.out.cell (R:=R) (k:=1) (v:=.int .i64 ((q:Int)+1)) (fun b hb=>by omega));have HAS:=hh9 vV.out.step;have zW:=hh9 (fu xg.out 1 (.int .i64 ((q:Int)+1)))
    go_wp2_with (first
     |(refine mO rfl _ rfl w3.heap.size x rfl zV.out ?_)
     |(refine bA rfl _ _ rfl w.heap.size x rfl rfl jR.out H2.out H5.out ?_))
    exact bodyPost_ret_by (zag rfl _ _ w.heap.size x rfl jR.out) rfl ⟨x,t,q+1,_,(vD.out.aj (fun b hb=>by omega) _).weak (fun b hb _=>by omega),⟨rfl,HAS.out.aj (by omega) _,dY zW.out (zbA _) _⟩,ay.out⟩
end Go.Proofs.YtahibnnhjahmnaaGreatDoor
