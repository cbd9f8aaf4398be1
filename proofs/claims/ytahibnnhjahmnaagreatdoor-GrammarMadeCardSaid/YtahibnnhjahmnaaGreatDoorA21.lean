/- Part 21 of what the laws of the grammar rest on. -/
import Derived.Test.YtahibnnhjahmnaaGreatDoorA15
import Derived.Test.YtahibnnhjahmnaaGreatDoorA20
set_option linter.all false
set_option maxRecDepth 100000
set_option maxHeartbeats 8000000
namespace Go.Proofs.YtahibnnhjahmnaaGreatDoor
open Go.RowKit
theorem YW:∀ k,uR 142 .alts k:=by
 intro k
 induction k using Nat.strongRecOn with
 |_ k ih=>exact zxk (zxj (qar (zxl ih)))
def zxm(R:Nat)(s:ByteArray)(d:Nat)(g:Got Rule)(w:World)(e:Ending)(w':World):Prop :=
 match g with
 |.ok r q=>∃ y:LV,tH w' (fun b=>w.heap.size<=b) y r/\q<=s.size/\DT R s d y.val q w e w'
 |.err c=>Fa R c w e w'
def zxn(R:Nat)(s:ByteArray)(d p:Nat)(w:World)(e:Ending)(w':World):Prop:=∃ r:Got Rule,bU (rd s) p r/\zxm R s d r w e w'
theorem qas{R p:Nat}{s:ByteArray}{w:World}(h:At w R s p 0)(hs:s.size<=50000)(hp:p<=s.size) :
  Calls Tryz.prog 115 #[.pointer (some ⟨R,0,none⟩)] w (zxn R s 0 p w):=by
 have hR:=h.lt;have h1:=Kt w;have h2:=Kt (w.alloc (.cells #[.string ⟨#[]⟩,.bool false,.int .i64 0,.string ⟨#[]⟩,.slice none 0 0,.int .i64 0,.int .i64 0,.slice none 0 0] 31));have hsz:(w.alloc (.cells #[.string ⟨#[]⟩,.bool false,.int .i64 0,.string ⟨#[]⟩,.slice none 0 0,.int .i64 0,.int .i64 0,.slice none 0 0] 31)).heap.size=w.heap.size+1:=by simp
 rw[hsz]at h2;have Ky:=hh9 (Yt h1 (.cells #[.string ⟨#[]⟩,.bool false,.int .i64 0,.string ⟨#[]⟩,.slice none 0 0,.int .i64 0,.int .i64 0,.slice none 0 0] 31));have yE:=hh9 h2;have HA:=hh9 ((h.alloc (.cells #[.string ⟨#[]⟩,.bool false,.int .i64 0,.string ⟨#[]⟩,.slice none 0 0,.int .i64 0,.int .i64 0,.slice none 0 0] 31)).alloc (.cells #[.string ⟨#[]⟩,.bool false,.int .i64 0,.string ⟨#[]⟩,.slice none 0 0,.int .i64 0,.int .i64 0,.slice none 0 0] 31));have HG:=hh9 (dn (World.grownBy_alloc w (.cells #[.string ⟨#[]⟩,.bool false,.int .i64 0,.string ⟨#[]⟩,.slice none 0 0,.int .i64 0,.int .i64 0,.slice none 0 0] 31) (some R)) (.cells #[.string ⟨#[]⟩,.bool false,.int .i64 0,.string ⟨#[]⟩,.slice none 0 0,.int .i64 0,.int .i64 0,.slice none 0 0] 31));have hz0:w.heap.size+2<=((w.alloc (.cells #[.string ⟨#[]⟩,.bool false,.int .i64 0,.string ⟨#[]⟩,.slice none 0 0,.int .i64 0,.int .i64 0,.slice none 0 0] 31)).alloc (.cells #[.string ⟨#[]⟩,.bool false,.int .i64 0,.string ⟨#[]⟩,.slice none 0 0,.int .i64 0,.int .i64 0,.slice none 0 0] 31)).heap.size:=by simp
 clear h h1 h2 hsz
 cases hn:lU (rd s) p with
 |err c =>
  have HE:=hh9 hn;clear hn;go_enter Tryz.func115,Tryz.ntmps115;go_wp2_with fail
  refine(Ow HA.out hs hp).mono ?_;rw[HE.out];rintro e w1 ⟨rfl,hg⟩;have aT:=hh9 (HG.out.trans hg);clear hg;go_wp2_with fail
  exact⟨rfl,_,.name HE.out,rfl,aT.out⟩
 |ok x q =>
  have HE:=hh9 hn;have hq0:=(E8 hp hn).2;clear hn;go_enter Tryz.func115,Tryz.ntmps115;go_wp2_with fail
  refine(Ow HA.out hs hp).mono ?_;rw[HE.out];rintro e w1 ⟨_,rfl,ha,hg⟩;have hz1:w.heap.size+2<=w1.heap.size:=zbH hz0 hg.size;have hl1:=yE.out.grown hg (by omega);obtain⟨c0,z0⟩:=hl1.cell 0 _ rfl;have SL:=hh9 ((Ky.out.grown hg (by omega)).other (j:=0) (k:=w.heap.size+1) (.string (ak x)) (by omega));have SN:=hh9 (hl1.set (j:=0) (.string (ak x)));have HA1:Hid (At (w1.setCell ⟨w.heap.size+1,0,none⟩ (.string (ak x))) R s q 0):=(zbQ _ _ _ _ (show R≠w.heap.size+1 by omega)).trans ha
  have aT:Hid (w.grownBy (w1.setCell ⟨w.heap.size+1,0,none⟩ (.string (ak x))) (some R)):=by
   have h3:=HG.out.trans hg;exact⟨h3.os,h3.tape,h3.output,by simpa using h3.size,fun k hk hne=>(zbQ _ _ _ _ (show k≠w.heap.size+1 by omega)).trans (h3.block k hk hne)⟩
  have hz2:w.heap.size+2<=(w1.setCell ⟨w.heap.size+1,0,none⟩ (.string (ak x))).heap.size:=by simp;omega
  clear ha hg hl1 Ky yE HA HG;go_wp2_with fail
  obtain⟨w2,hw2⟩:∃ y,y=w1.setCell ⟨w.heap.size+1,0,none⟩ (.string (ak x)):=⟨_,rfl⟩
  rw[<- hw2]at SL SN HA1 aT hz2 ⊢;clear hw2 c0 z0;refine(Ii HA1.out hs hq0).mono ?_;rintro e w3 ⟨q1,hsk,hle,hls,rfl,ha,hg⟩;have oN:=hh9 hsk.eq;have hz3:w.heap.size+2<=w3.heap.size:=zbH hz2 hg.size;have Kz:=hh9 (SL.out.grown hg (by omega));have KA:=hh9 (SN.out.grown hg (by omega));have aC:=hh9 ha;have aG:=hh9 (aT.out.trans hg);clear hsk ha hg SL SN HA1 aT;by_cases nK:rd s q1=61
  ·have vU:Hid (rd s (bN (rd s) q)=61):=by rw[oN.out];exact nK
   have wZ:=hh9 nK;have hlt:=fP (by omega) nK;clear nK;go_wp2_with fail
   refine(kG aC.out hs 61 (by omega) wZ.out).mono ?_;rintro e w4 ⟨rfl,ha,hg⟩;have dF:w.heap.size+2<=w4.heap.size:=zbH hz3 hg.size;have Cn:=hh9 (Kz.out.grown hg (by omega));have Co:=hh9 (KA.out.grown hg (by omega));have bf:=hh9 ha;have bD:=hh9 (aG.out.trans hg);clear ha hg Kz KA aC aG;by_cases h47:rd s (q1+1)=47
   ·have uU:=hh9 h47
    have KC:Hid (iB (rd s) q=q1+2/\decide (rd s (bN (rd s) q+1)=47)=true):=by
     unfold iB;rw[oN.out,if_pos h47];exact⟨rfl,by simpa using h47⟩
    have hlt2:=fP (by omega) h47;clear h47;go_wp2_with fail
    refine(uP bf.out hs 47 (by omega) uU.out).mono ?_;rintro e w5 ⟨rfl,ha,hg⟩;have rT:w.heap.size+2<=w5.heap.size:=zbH dF hg.size;have hl5:=Co.out.grown hg (by omega);obtain⟨c0,z0⟩:=hl5.cell 1 _ rfl;have uV:=hh9 ((Cn.out.grown hg (by omega)).other (j:=1) (k:=w.heap.size+1) (.bool true) (by omega));have uW:=hh9 (hl5.set (j:=1) (.bool true));have bQ:Hid (At (w5.setCell ⟨w.heap.size+1,1,none⟩ (.bool true)) R s (q1+2) 0):=(zbQ _ _ _ _ (show R≠w.heap.size+1 by omega)).trans ha
    have dR:Hid (w.grownBy (w5.setCell ⟨w.heap.size+1,1,none⟩ (.bool true)) (some R)):=by
     have h3:=bD.out.trans hg;exact⟨h3.os,h3.tape,h3.output,by simpa using h3.size,fun k hk hne=>(zbQ _ _ _ _ (show k≠w.heap.size+1 by omega)).trans (h3.block k hk hne)⟩
    have Fj:w.heap.size+2<=(w5.setCell ⟨w.heap.size+1,1,none⟩ (.bool true)).heap.size:=by simp;omega
    clear ha hg hl5 Cn Co bf bD;go_wp2_with fail
    obtain⟨w6,AX⟩:∃ y,y=w5.setCell ⟨w.heap.size+1,1,none⟩ (.bool true):=⟨_,rfl⟩
    rw[<- AX]at uV uW bQ dR Fj ⊢;clear AX c0 z0;refine(Ii bQ.out hs (by omega)).mono ?_;rintro e w7 ⟨q3,hsk,hle3,Fp,rfl,ha,hg⟩;have za:Hid (bN (rd s) (iB (rd s) q)=q3):=by rw[KC.out.1];exact hsk.eq
    have SQ:w.heap.size+2<=w7.heap.size:=zbH Fj hg.size;have ze:=hh9 (uV.out.grown hg (by omega));have zf:=hh9 (uW.out.grown hg (by omega));have vV:=hh9 ha;have xg:=hh9 (dR.out.trans hg);clear hsk ha hg uV uW bQ dR;go_wp2_with fail
    refine(YW _ vV.out hs Fp (by omega) (zbA _)).mono ?_;rintro e w8 ⟨r,aD,hgv⟩
    cases r with
    |err c =>
     obtain⟨rfl,hg⟩:=hgv;have aP:Hid (aK (rd s) .alts 0 (bN (rd s) (iB (rd s) q)) (.err c)):=by rw[za.out];exact aD
     have SS:=hh9 (xg.out.trans hg);clear aD hg;go_wp2_with fail
     exact⟨rfl,_,.err HE.out vU.out aP.out,rfl,SS.out⟩
    |ok t q4 =>
     obtain⟨X,ht,uX,rfl,ha,hg⟩:=hgv;have aP:Hid (aK (rd s) .alts 0 (bN (rd s) (iB (rd s) q)) (.ok t q4)):=by rw[za.out];exact aD
     have h2:=fq ht;have h5:=eU ht;have H2:=hh9 h2;have H5:=hh9 h5;have hz8:w.heap.size+2<=w8.heap.size:=zbH SQ hg.size;have uY:=hh9 (zf.out.grown hg (by omega));have uZ:Hid (jF (w8.setRow (w.heap.size+1) (LV.arr ⟨ak x,true,X⟩)) (w.heap.size+1) (LV.arr ⟨ak x,true,X⟩)):=uY.out.row _ rfl;have u7:Hid (jF (w8.setRow (w.heap.size+1) (LV.arr ⟨ak x,true,X⟩)) w.heap.size Kr):=(ze.out.grown hg (by omega)).Ce _ (by omega);have Cq:Hid (At (w8.setRow (w.heap.size+1) (LV.arr ⟨ak x,true,X⟩)) R s q4 0):=ha.aj (by omega) _;have Cr:Hid (w.grownBy (w8.setRow (w.heap.size+1) (LV.arr ⟨ak x,true,X⟩)) (some R)):=dY (xg.out.trans hg) (by omega) _;have rF:Hid (av (w8.setRow (w.heap.size+1) (LV.arr ⟨ak x,true,X⟩)) (fun b=>w.heap.size+2<=b) X t):=(ht.weak (P':=fun b=>w.heap.size+2<=b) (fun b hP _=>by omega)).aj (fun b hP=>by omega) _;have SV:w.heap.size+2<=(w8.setRow (w.heap.size+1) (LV.arr ⟨ak x,true,X⟩)).heap.size:=by simp;omega
     clear aD ha hg ht h2 h5 ze zf vV xg;go_wp2_with (refine Ib rfl _ _ rfl (w.heap.size+1) X _ _ _ rfl rfl uY.out (Yu true) H2.out H5.out ?_)
     obtain⟨w9,Im⟩:∃ y,y=w8.setRow (w.heap.size+1) (LV.arr ⟨ak x,true,X⟩):=⟨_,rfl⟩
     show Calls _ _ _ (w8.setRow (w.heap.size+1) (LV.arr ⟨ak x,true,X⟩)) _
     rw[<- Im]at uZ u7 Cq Cr rF SV ⊢;clear Im uY
     cases hle:eH (rd s) q4 with
     |none =>
      have jY:=hh9 hle;clear hle;refine(SB Cq.out hs uX jY.out).mono ?_;rintro e Fq ⟨rfl,hg⟩;have vv:=hh9 (Cr.out.trans hg);clear hg;go_wp2_with fail
      exact⟨rfl,_,.mD HE.out vU.out aP.out jY.out,rfl,vv.out⟩
     |some e0 =>
      have jY:=hh9 hle;have he0:=(qI uX hle).2;clear hle;refine(SA Cq.out hs uX jY.out).mono ?_;rintro e Fq ⟨rfl,ha,hg⟩;have sO:=hh9 (u7.out.grown hg (by omega));have zh:=hh9 (uZ.out.grown hg (by omega));have Fu:=hh9 ha;have vv:=hh9 (Cr.out.trans hg);have iE:=hh9 (rF.out.kept (P':=fun b=>w.heap.size+2<=b) (fun b hP hl=>⟨hg.block b hl (fun e=>by have:=zbB e;omega),hP⟩) hg.size);clear ha hg u7 uZ Cq Cr rF
      go_wp2_with (first
       |(refine AO rfl _ rfl (w.heap.size+1) ⟨ak x,true,X⟩ rfl zh.out ?_)
       |(refine yU rfl _ _ rfl w.heap.size ⟨ak x,true,X⟩ _ rfl rfl sO.out H2.out H5.out ?_))
      refine bodyPost_ret_by (AP rfl _ _ w.heap.size ⟨ak x,true,X⟩ _ rfl sO.out) rfl ⟨_,.ok HE.out vU.out aP.out jY.out,⟨ak x,true,X⟩,⟨rfl,KC.out.2.symm,?_⟩,he0,rfl,Fu.out.aj (by omega) _,dY vv.out (zbA _) _⟩;exact(iE.out.aj (fun b hb=>by omega) _).weak (fun b hb _=>by omega)
   ·have uU:=hh9 h47
    have KC:Hid (iB (rd s) q=q1+1/\decide (rd s (bN (rd s) q+1)=47)=false):=by
     unfold iB;rw[oN.out,if_neg h47];exact⟨rfl,by simpa using h47⟩
    clear h47;go_wp2_with fail
    refine(tT bf.out hs hlt 47 (by omega) uU.out).mono ?_;rintro e w5 ⟨rfl,ha,hg⟩;have rT:w.heap.size+2<=w5.heap.size:=zbH dF hg.size;have hl5:=Co.out.grown hg (by omega);obtain⟨c0,z0⟩:=hl5.cell 1 _ rfl;have uV:=hh9 ((Cn.out.grown hg (by omega)).other (j:=1) (k:=w.heap.size+1) (.bool false) (by omega));have uW:=hh9 (hl5.set (j:=1) (.bool false));have bQ:Hid (At (w5.setCell ⟨w.heap.size+1,1,none⟩ (.bool false)) R s (q1+1) 0):=(zbQ _ _ _ _ (show R≠w.heap.size+1 by omega)).trans ha
    have dR:Hid (w.grownBy (w5.setCell ⟨w.heap.size+1,1,none⟩ (.bool false)) (some R)):=by
     have h3:=bD.out.trans hg;exact⟨h3.os,h3.tape,h3.output,by simpa using h3.size,fun k hk hne=>(zbQ _ _ _ _ (show k≠w.heap.size+1 by omega)).trans (h3.block k hk hne)⟩
    have Fj:w.heap.size+2<=(w5.setCell ⟨w.heap.size+1,1,none⟩ (.bool false)).heap.size:=by simp;omega
    clear ha hg hl5 Cn Co bf bD;go_wp2_with fail
    obtain⟨w6,AX⟩:∃ y,y=w5.setCell ⟨w.heap.size+1,1,none⟩ (.bool false):=⟨_,rfl⟩
    rw[<- AX]at uV uW bQ dR Fj ⊢;clear AX c0 z0;refine(Ii bQ.out hs (by omega)).mono ?_;rintro e w7 ⟨q3,hsk,hle3,Fp,rfl,ha,hg⟩;have za:Hid (bN (rd s) (iB (rd s) q)=q3):=by rw[KC.out.1];exact hsk.eq
    have SQ:w.heap.size+2<=w7.heap.size:=zbH Fj hg.size;have ze:=hh9 (uV.out.grown hg (by omega));have zf:=hh9 (uW.out.grown hg (by omega));have vV:=hh9 ha;have xg:=hh9 (dR.out.trans hg);clear hsk ha hg uV uW bQ dR;go_wp2_with fail
    refine(YW _ vV.out hs Fp (by omega) (zbA _)).mono ?_;rintro e w8 ⟨r,aD,hgv⟩
    cases r with
    |err c =>
     obtain⟨rfl,hg⟩:=hgv;have aP:Hid (aK (rd s) .alts 0 (bN (rd s) (iB (rd s) q)) (.err c)):=by rw[za.out];exact aD
     have SS:=hh9 (xg.out.trans hg);clear aD hg;go_wp2_with fail
     exact⟨rfl,_,.err HE.out vU.out aP.out,rfl,SS.out⟩
    |ok t q4 =>
     obtain⟨X,ht,uX,rfl,ha,hg⟩:=hgv;have aP:Hid (aK (rd s) .alts 0 (bN (rd s) (iB (rd s) q)) (.ok t q4)):=by rw[za.out];exact aD
     have h2:=fq ht;have h5:=eU ht;have H2:=hh9 h2;have H5:=hh9 h5;have hz8:w.heap.size+2<=w8.heap.size:=zbH SQ hg.size;have uY:=hh9 (zf.out.grown hg (by omega));have uZ:Hid (jF (w8.setRow (w.heap.size+1) (LV.arr ⟨ak x,false,X⟩)) (w.heap.size+1) (LV.arr ⟨ak x,false,X⟩)):=uY.out.row _ rfl;have u7:Hid (jF (w8.setRow (w.heap.size+1) (LV.arr ⟨ak x,false,X⟩)) w.heap.size Kr):=(ze.out.grown hg (by omega)).Ce _ (by omega);have Cq:Hid (At (w8.setRow (w.heap.size+1) (LV.arr ⟨ak x,false,X⟩)) R s q4 0):=ha.aj (by omega) _;have Cr:Hid (w.grownBy (w8.setRow (w.heap.size+1) (LV.arr ⟨ak x,false,X⟩)) (some R)):=dY (xg.out.trans hg) (by omega) _;have rF:Hid (av (w8.setRow (w.heap.size+1) (LV.arr ⟨ak x,false,X⟩)) (fun b=>w.heap.size+2<=b) X t):=(ht.weak (P':=fun b=>w.heap.size+2<=b) (fun b hP _=>by omega)).aj (fun b hP=>by omega) _;have SV:w.heap.size+2<=(w8.setRow (w.heap.size+1) (LV.arr ⟨ak x,false,X⟩)).heap.size:=by simp;omega
     clear aD ha hg ht h2 h5 ze zf vV xg;go_wp2_with (refine Ib rfl _ _ rfl (w.heap.size+1) X _ _ _ rfl rfl uY.out (Yu false) H2.out H5.out ?_)
     obtain⟨w9,Im⟩:∃ y,y=w8.setRow (w.heap.size+1) (LV.arr ⟨ak x,false,X⟩):=⟨_,rfl⟩
     show Calls _ _ _ (w8.setRow (w.heap.size+1) (LV.arr ⟨ak x,false,X⟩)) _
     rw[<- Im]at uZ u7 Cq Cr rF SV ⊢;clear Im uY
     cases hle:eH (rd s) q4 with
     |none =>
      have jY:=hh9 hle;clear hle;refine(SB Cq.out hs uX jY.out).mono ?_;rintro e Fq ⟨rfl,hg⟩;have vv:=hh9 (Cr.out.trans hg);clear hg;go_wp2_with fail
      exact⟨rfl,_,.mD HE.out vU.out aP.out jY.out,rfl,vv.out⟩
     |some e0 =>
      have jY:=hh9 hle;have he0:=(qI uX hle).2;clear hle;refine(SA Cq.out hs uX jY.out).mono ?_;rintro e Fq ⟨rfl,ha,hg⟩;have sO:=hh9 (u7.out.grown hg (by omega));have zh:=hh9 (uZ.out.grown hg (by omega));have Fu:=hh9 ha;have vv:=hh9 (Cr.out.trans hg);have iE:=hh9 (rF.out.kept (P':=fun b=>w.heap.size+2<=b) (fun b hP hl=>⟨hg.block b hl (fun e=>by have:=zbB e;omega),hP⟩) hg.size);clear ha hg u7 uZ Cq Cr rF
      go_wp2_with (first
       |(refine AO rfl _ rfl (w.heap.size+1) ⟨ak x,false,X⟩ rfl zh.out ?_)
       |(refine yU rfl _ _ rfl w.heap.size ⟨ak x,false,X⟩ _ rfl rfl sO.out H2.out H5.out ?_))
      refine bodyPost_ret_by (AP rfl _ _ w.heap.size ⟨ak x,false,X⟩ _ rfl sO.out) rfl ⟨_,.ok HE.out vU.out aP.out jY.out,⟨ak x,false,X⟩,⟨rfl,KC.out.2.symm,?_⟩,he0,rfl,Fu.out.aj (by omega) _,dY vv.out (zbA _) _⟩;exact(iE.out.aj (fun b hb=>by omega) _).weak (fun b hb _=>by omega)
  ·have vU:Hid (rd s (bN (rd s) q)≠61):=by rw[oN.out];exact nK
   have wZ:=hh9 nK;clear nK;go_wp2_with fail
   refine(Ig aC.out hs hls 61 (by omega) wZ.out).mono ?_;rintro e w4 ⟨rfl,hg⟩;have bD:=hh9 (aG.out.trans hg);clear hg;go_wp2_with fail
   exact⟨rfl,_,.sj HE.out vU.out,rfl,bD.out⟩
theorem qat{w w':World}{base R:Nat}{s:ByteArray}{p d:Nat}{v:Value}{l:List Rule}(hk:jD w base v l)(h:At w R s p d)(hg:w.grownBy w' v.ownBlock)(hR:R<base):At w' R s p d:=by
 obtain⟨vs,_,h2,_⟩:=hk;refine h.kept hg (fun e=>?_);rcases fB h2 with ⟨rfl,_⟩|⟨g,cap,rfl⟩
 ·simp[Value.ownBlock]at e
 ·have hb:=(iX h2).1;have:=zbB e;simp at this;omega
def qau(R:Nat)(s:ByteArray)(w:World)(e:Ending)(w':World):Prop :=
 ∃ r:Got (List Rule),Rules (rd s) [] 0 r/\match r with
  |.ok l _=>∃ v,e=.returned v/\jD w' w.heap.size v l/\w.grownBy w' (some R)
  |.err c=>Fa R c w e w'
def YX(R:Nat)(s:ByteArray)(w wr:World)(v:Value)(q:Nat):Prop :=
 ∃ l:List Rule,jD wr w.heap.size v l/\l.length<=500/\q<=s.size/\At wr R s q 0/\w.grownBy wr (some R)/\∀ r,Rules (rd s) l q r->Rules (rd s) [] 0 r
theorem zxp{R:Nat}{s:ByteArray}{w:World}(h:At w R s 0 0)(hs:s.size<=50000) :
  Calls Tryz.prog 96 #[.pointer (some ⟨R,0,none⟩)] w (qau R s w):=by
 have hR:=h.lt;have H0:Hid (YX R s w w (.slice none 0 0) 0):=⟨[],jD.nil w _,by simp,by omega,h,iq _ _,fun r hr=>hr⟩
 clear h;go_enter Tryz.func96,Tryz.ntmps96;go_wp2_with fail
 go_loopw [3] (fun v wr=>∃ q:Nat,Hid (YX R s w wr v q)) (fun _ wr=>s.size-qH R wr)
 case atStart=>exact⟨0,H0⟩
 case round =>
  clear H0;obtain⟨q,HI⟩:=hrel;obtain⟨l,hk0,hl,aR,ha,hg,hall⟩:=HI.out;have HA:=hh9 ha;have HG:=hh9 hg;have HK:=hh9 hk0;have aF:=hh9 hall;have HM:=hh9 ha.pos;obtain⟨c0,c1,c2,z0,z1,z2⟩:=ha.cells;have hz:w.heap.size<=wr.heap.size:=hg.size;clear ha hg hk0 hall;by_cases hlt:q<s.size
  ·have q1:decide ((q:Int)<(s.size:Int))=true:=zbN (by omega);have q2:decide (q<s.size)=true:=zbN hlt;have hr:=vR s q;have hpos:0<=rd s q:=by rw[pO hlt];omega
   cases hal:aH (rd s q)
   ·have rE:=hh9 (Ol.trans hal);have kN:=hh9 hal;obtain⟨hrun,hq1⟩:=yT (P:=aZ) (by decide) aR;have zaF:=hrun.le;clear hal hrun
    cases hle:eH (rd s) (jC aZ (rd s) q) with
    |none =>
     have jY:=hh9 hle;clear hle;go_wp2_with fail
     go_quiet (fail)
     go_wp2_with fail
     refine(dQ (HA.out.drew _) hs aR).mono ?_;rintro e w1 ⟨rfl,n,rfl⟩;go_wp2_with fail
     refine(kM _ _).mono ?_;rw[rE.out];rintro e w1 ⟨rfl,rfl⟩;go_wp2_with fail
     refine(qap (HA.out.drew (nq+n)) hs aR rfl jY.out).mono ?_;rintro e w2 ⟨rfl,hg⟩;have HG2:=hh9 ((bY HG.out (nq+n)).trans hg);clear hg;go_wp2_with fail
     exact⟨rfl,_,aF.out _ (.bad hpos kN.out jY.out),rfl,HG2.out⟩
    |some e0 =>
     have jY:=hh9 hle;have he1:=qI hq1 hle
     have he2:q<e0:=by
      by_cases g:q<jC aZ (rd s) q
      ·omega
      ·have h2:jC aZ (rd s) q=q:=by omega
       rw[h2]at hle;exact Yz hlt hle
     clear hle;go_wp2_with fail
     go_quiet (fail)
     go_wp2_with fail
     refine(dQ (HA.out.drew _) hs aR).mono ?_;rintro e w1 ⟨rfl,n,rfl⟩;go_wp2_with fail
     refine(kM _ _).mono ?_;rw[rE.out];rintro e w1 ⟨rfl,rfl⟩;go_wp2_with fail
     refine(zxg (HA.out.drew (nq+n)) hs aR rfl jY.out).mono ?_;rintro e w2 ⟨rfl,ha,hg⟩;have HA2:=hh9 ha;have HG2:=hh9 ((bY HG.out (nq+n)).trans hg);have jG:=hh9 (((HK.out.below (dJ (zbE _ _) (nq+n))).grown hg hR));clear ha hg;go_wp2_with fail
     go_roundw
     case rel=>exact⟨e0,l,jG.out,hl,he1.2,HA2.out,HG2.out,fun r hr=>aF.out r (.empty hpos kN.out jY.out hr)⟩
     case measure =>
      rw[HM.out,HA2.out.pos];omega
   ·have rE:=hh9 (Ol.trans hal);have kN:=hh9 hal;clear hal;go_wp2_with fail
    go_quiet (fail)
    go_wp2_with fail
    refine(dQ (HA.out.drew _) hs aR).mono ?_;rintro e w1 ⟨rfl,n,rfl⟩;go_wp2_with fail
    refine(kM _ _).mono ?_;rw[rE.out];rintro e w1 ⟨rfl,rfl⟩;go_wp2_with fail
    refine(qas (HA.out.drew (nq+n)) hs aR).mono ?_;rintro e w2 ⟨r,aD,hgv⟩
    cases r with
    |err c =>
     obtain⟨rfl,hg⟩:=hgv;have aP:=hh9 aD;have HG2:=hh9 ((bY HG.out (nq+n)).trans hg);clear aD hg;go_wp2_with fail
     exact⟨rfl,_,aF.out _ (.err kN.out aP.out),rfl,HG2.out⟩
    |ok x q3 =>
     obtain⟨y,ht,rD,rfl,ha,hg⟩:=hgv;have hb3:=(zug aR aD).1;have aP:=hh9 aD;have h2:=fq ht.2.2;have h5:=eU ht.2.2;have H2:=hh9 h2;have H5:=hh9 h5;have hz2:w.heap.size<=w2.heap.size:=zbH hz hg.size;have hk1:=HK.out.below (dJ (zbE wr.heap.size wr) (nq+n));have jG:=hh9 ((hk1.grown hg hR).below ((zbE w2.heap.size w2).alloc (zbA _) (.cells y.arr 31)));have HT2:=hh9 ((Yy hk1 ht hz).kept (W':=w2.alloc (.cells y.arr 31)) (fun b hP hl=>⟨zbP _ _ _ hl,hP⟩) (by simp));have HA2:=hh9 (ha.alloc (.cells y.arr 31));have HG2:=hh9 (dn ((bY HG.out (nq+n)).trans hg) (.cells y.arr 31));clear aD ha hg ht h2 h5 hk1
     go_wp2_with (first
      |(refine Yw rfl _ rfl y rfl H2.out H5.out ?_)
      |(at_builtin;go_loud (refine Yx rfl _ _ rfl w.heap.size _ l x y w2.heap.size rfl rfl jG.out HT2.out (zbO w2 _) ?c1 ?c2 ?_)))
     case c1=>omega
     case c2=>simp;omega
     intro v' w5 hk5 hgrow;have tV:=hh9 hk5;have bQ:=hh9 (qat jG.out HA2.out hgrow (by omega));have dR:=hh9 (zrb jG.out HG2.out hgrow (zbA _));have hform:=Sw hk5;have hlen:(l++[x]).length=l.length+1:=by simp
     rw[hlen]at hform;obtain⟨g5,cap5,rfl⟩:=hform.resolve_left (fun h=>by omega);clear hk5 hgrow jG HA2 HG2 HT2 H2 H5 hform hlen;by_cases zi:500<=l.length
     ·have q3:decide ((500:Int)<((l.length+1:Nat):Int))=true:=zbN (by omega);have q4:decide (500<l.length+1)=true:=zbN (by omega);go_wp2_with fail
      refine(Cg _ _).mono ?_;rintro e w6 ⟨rfl,rfl⟩;go_wp2_with fail
      exact⟨rfl,_,aF.out _ (.many kN.out aP.out zi),rfl,dR.out⟩
     ·have q3':decide ((500:Int)<((l.length+1:Nat):Int))=false:=zbM (by omega);have q4:decide (500<l.length+1)=false:=zbM (by omega);go_wp2_with fail
      go_roundw
      case rel=>exact⟨q3,l++[x],tV.out,by simp;omega,rD,bQ.out,dR.out,fun r hr=>aF.out r (.rule kN.out aP.out (by omega) hr)⟩
      case measure =>
       rw[HM.out,bQ.out.pos];omega
  ·obtain⟨m,hm⟩:∃ m,m=s.size:=⟨_,rfl⟩
   have ng:=hh9 hm;obtain rfl:q=m:=by omega
   have q1:decide ((q:Int)<(s.size:Int))=false:=zbM (by omega);have q2:decide (q<s.size)=false:=zbM hlt;have aU:=hh9 (aF.out _ (.done (Oa.2 hlt)));clear hm;go_wp2_with fail
   go_quiet (fail)
   go_wp2_with fail
   go_ret;exact⟨_,aU.out,_,rfl,HK.out.below (dJ (zbE _ _) _),bY HG.out _⟩
theorem zl7(g0 g1:Nat)(x y:Value)(c:Int)(older:List PanicEntry)(w:World)(B:Nat)(hne:g0≠g1)(hb0:B<=g0)(hb1:B<=g1)(h0:w.cell? ⟨g0,0,none⟩=some x)(h1:w.cell? ⟨g1,0,none⟩=some y)
  (z0:w.frozen? ⟨g0,0,none⟩=false) (z1:w.frozen? ⟨g1,0,none⟩=false) :
  CallsD Tryz.prog 95 #[.pointer (some ⟨g0,0,none⟩),.pointer (some ⟨g1,0,none⟩)] (.panicking ({ v:=.iface 130 (.agg #[.int .i64 c]),recovered:=false }::older)) w fun e u' w' =>
   e=.returned (.tuple #[])/\u'=.panicking ({ v:=.iface 130 (.agg #[.int .i64 c]),recovered:=true }::older)/\uM B g0 g1 c w w':=by
 refine callsD_of_wpS Tryz.func95 rfl fun c₀ cs hu=>?_
 apply wpS_seq;apply wpS_region;simp[wpOpsS,go_sem,recoverD,hu,Tryz.ntmps95,Exit.thenS];apply wpS_seq;apply wpS_region;simp[wpOpsS,go_sem,Tryz.ntmps95,Exit.thenS];refine wpS_cond (t:=true) (by simp[Act.eval,Array.replicate]) ?_;simp only[if_true];refine wpS_of_wp ?_;have hta:∀ W:World,(Instr.typeAssert (.iface 130 (.agg #[.int .i64 c])) 20 130 false).run Tryz.prog W=.ok (.agg #[.int .i64 c]) W:=fun W=>by kernel_rfl
 have hfd:∀ W:World,(Instr.field 130 (.agg #[.int .i64 c]) 0).run Tryz.prog W=.ok (.int .i64 c) W:=fun W=>by kernel_rfl
 have h0':∀ (v:Value),((w.drew).setCell ⟨g1,0,none⟩ v).cell? ⟨g0,0,none⟩=some x:=fun v=>Oq (fun e=>hne e.symm) v h0
 have h1':∀ (v:Value),((w.drew).setCell ⟨g0,0,none⟩ v).cell? ⟨g1,0,none⟩=some y:=fun v=>Oq hne v h1
 go_region
 all_goals first
  |exact⟨rfl,_,rfl,.tuple #[],results_none rfl _ _ _,rfl,rfl,qal hne hb0 hb1 h0 h1⟩
  |exact⟨rfl,_,rfl,.tuple #[],results_none rfl _ _ _,rfl,rfl,qam hne hb0 hb1 h0 h1⟩
theorem YZ(g0 g1:Nat)(w:World) :
  CallsD Tryz.prog 95 #[.pointer (some ⟨g0,0,none⟩),.pointer (some ⟨g1,0,none⟩)] .returning w fun e u' w'=>e=.returned (.tuple #[])/\u'=.returning/\w'=w:=by
 refine callsD_of_wpS Tryz.func95 rfl fun c₀ cs hu=>?_
 apply wpS_seq;apply wpS_region;simp[wpOpsS,go_sem,recoverD,hu,Tryz.ntmps95,Exit.thenS];apply wpS_seq;apply wpS_region;simp[wpOpsS,go_sem,Tryz.ntmps95,Exit.thenS];refine wpS_cond (t:=false) (by simp[Act.eval,Array.replicate]) ?_;simp only[Bool.false_eq_true,if_false];refine wpS_of_wp (wp_skip ?_)
 cases c₀
 simp_all [bodyPostS,results,Tryz.results95]
theorem qav(s:ByteArray)(w:World)(hs:s.size<=maxLen):Calls Tryz.prog 72 #[.string s] w (YA s w):=by
 unfold maxLen at hs;have hmf:∀ (fn:Fn) (first cap:Array Value) (w:World),(Instr.makeFunc fn first cap).run Tryz.prog w=.ok (.func fn first cap) w:=fun _ _ _ _=>rfl
 by_cases hbig:50000<s.size
 ·have hq:decide (50000<s.size)=true:=zbN hbig
  go_enter_defers Tryz.func72,Tryz.ntmps72
  go_wp2;simp[Leaves,settle,results,Tryz.results72,go_sem,bodyPostD];exact⟨.err 2,by unfold uN;rw[if_pos hbig],((zbE _ _).alloc (zbA _) _).alloc (by simp) _,rfl⟩
 ·have hq:decide (50000<s.size)=false:=zbM hbig
  have hR:At (((w.alloc (.cells #[.slice none 0 0] 23)).alloc (.cells #[.int .i64 0] 49)).alloc (.cells #[.string s,.int .i64 0,.int .i64 0] 133)) (w.heap.size+2) s 0 0:=by
   have:=zbO ((w.alloc (.cells #[.slice none 0 0] 23)).alloc (.cells #[.int .i64 0] 49)) (.cells #[.string s,.int .i64 0,.int .i64 0] 133);rw[show ((w.alloc (.cells #[.slice none 0 0] 23)).alloc (.cells #[.int .i64 0] 49)).heap.size=w.heap.size+2 by simp]at this;exact this
  have HR:=hh9 hR;clear hR
  go_enter_defers Tryz.func72,Tryz.ntmps72
  go_wp2_with fail
  refine(zxp HR.out (by omega)).mono ?_;rintro e w1 ⟨r,hr,hgv⟩;have S9:=hh9 hr;clear hr
  cases r with
  |err c =>
   obtain⟨rfl,hg⟩:=hgv
   have hb1:Below w.heap.size w w1:=⟨hg.os,hg.tape,hg.output,by have:=hg.size;simp at this;omega,fun k hk=>by
    rw[hg.block k (by simp;omega) (fun e=>by have:=zbB e;omega),zbP _ _ _ (by simp;omega),zbP _ _ _ (by simp;omega),zbP _ _ _ hk]⟩
   have b0:w1.heap[w.heap.size]?=some (.cells #[.slice none 0 0] 23 (0,0)):=by
    rw[hg.block w.heap.size (by simp;omega) (fun e=>by have:=zbB e;omega),zbP _ _ _ (by simp;omega),zbP _ _ _ (by simp)];exact zbO _ _
   have b1:w1.heap[w.heap.size+1]?=some (.cells #[.int .i64 0] 49 (0,0)):=by
    rw[hg.block (w.heap.size+1) (by simp) (fun e=>by have:=zbB e;omega),zbP _ _ _ (by simp)];have:=zbO (w.alloc (.cells #[.slice none 0 0] 23)) (.cells #[.int .i64 0] 49);rwa[show (w.alloc (.cells #[.slice none 0 0] 23)).heap.size=w.heap.size+1 by simp]at this
   have HB1:=hh9 hb1;have B0:=hh9 b0;have B1:=hh9 b1;clear hg hb1 b0 b1;go_wp2_with fail
   refine leaves_cons (f:=95) (args:=#[.pointer (some ⟨w.heap.size,0,none⟩),.pointer (some ⟨w.heap.size+1,0,none⟩)]) (by simp) (by simp[go_sem]) ?_;refine(zl7 w.heap.size (w.heap.size+1) (.slice none 0 0) (.int .i64 0) c [] w1 w.heap.size (by omega) (zbA _) (by omega) (by simp[World.cell?,B0.out]) (by simp[World.cell?,B1.out]) (by simp[World.frozen?,B0.out]) (by simp[World.frozen?,B1.out])).mono ?_;rintro e u' w2 ⟨rfl,rfl,hc0,hc1,hb⟩;simp[Leaves,settle,results,Tryz.results72,go_sem,hc0,hc1];exact⟨.err c,(if_neg hbig).mpr S9.out,HB1.out.trans hb,rfl⟩
  |ok l q =>
   obtain⟨v,rfl,hl,hg⟩:=hgv
   have hb1:Below w.heap.size w w1:=⟨hg.os,hg.tape,hg.output,by have:=hg.size;simp at this;omega,fun k hk=>by
    rw[hg.block k (by simp;omega) (fun e=>by have:=zbB e;omega),zbP _ _ _ (by simp;omega),zbP _ _ _ (by simp;omega),zbP _ _ _ hk]⟩
   have b0:w1.heap[w.heap.size]?=some (.cells #[.slice none 0 0] 23 (0,0)):=by
    rw[hg.block w.heap.size (by simp;omega) (fun e=>by have:=zbB e;omega),zbP _ _ _ (by simp;omega),zbP _ _ _ (by simp)];exact zbO _ _
   have b1:w1.heap[w.heap.size+1]?=some (.cells #[.int .i64 0] 49 (0,0)):=by
    rw[hg.block (w.heap.size+1) (by simp) (fun e=>by have:=zbB e;omega),zbP _ _ _ (by simp)];have:=zbO (w.alloc (.cells #[.slice none 0 0] 23)) (.cells #[.int .i64 0] 49);rwa[show (w.alloc (.cells #[.slice none 0 0] 23)).heap.size=w.heap.size+1 by simp]at this
   have hlb:jD w1 (w.heap.size+3) v l:=by
    have:=hl;rwa[show (((w.alloc (.cells #[.slice none 0 0] 23)).alloc (.cells #[.int .i64 0] 49)).alloc (.cells #[.string s,.int .i64 0,.int .i64 0] 133)).heap.size=w.heap.size+3 by simp]at this
   have HL:=hh9 ((hlb.kept (W':=(w1.setCell ⟨w.heap.size,0,none⟩ v).setCell ⟨w.heap.size+1,0,none⟩ (.int .i64 0)) (fun b hb _=>by
    rw[zbQ _ _ _ _ (show b≠w.heap.size+1 by omega),zbQ _ _ _ _ (show b≠w.heap.size by omega)]) (by simp)).base (show w.heap.size<=w.heap.size+3 by omega))
   have jX:Hid (Below w.heap.size w ((w1.setCell ⟨w.heap.size,0,none⟩ v).setCell ⟨w.heap.size+1,0,none⟩ (.int .i64 0))):=(hb1.setCell (zbA _) _).setCell (by simp) _;have c0:w1.cell? ⟨w.heap.size,0,none⟩=some (.slice none 0 0):=by simp[World.cell?,b0]
   have c1:w1.cell? ⟨w.heap.size+1,0,none⟩=some (.int .i64 0):=by simp[World.cell?,b1]
   have z0:w1.frozen? ⟨w.heap.size,0,none⟩=false:=by simp[World.frozen?,b0]
   have z1:w1.frozen? ⟨w.heap.size+1,0,none⟩=false:=by simp[World.frozen?,b1]
   have hcl0:((w1.setCell ⟨w.heap.size,0,none⟩ v).setCell ⟨w.heap.size+1,0,none⟩ (.int .i64 0)).cell? ⟨w.heap.size,0,none⟩=some v:=by
    rw[World.cell?_setCell_other _ _ _ _ (fun e=>by injection e with e;omega)];exact Ic _ c0
   have KD:((w1.setCell ⟨w.heap.size,0,none⟩ v).setCell ⟨w.heap.size+1,0,none⟩ (.int .i64 0)).cell? ⟨w.heap.size+1,0,none⟩=some (.int .i64 0):=by
    refine Ic (x:=.int .i64 0) _ ?_;rw[World.cell?_setCell_other _ _ _ _ (fun e=>by injection e with e;omega)];exact c1
   have Ht:=hh9 hcl0;have N8:=hh9 KD;have hform:=Sw hl;clear hl hg hb1 b0 b1 hlb hcl0 KD;rcases hform with ⟨rfl,hl0⟩|⟨g,cap,rfl⟩
   ·clear hl0;go_wp2_with fail
    refine leaves_cons (f:=95) (args:=#[.pointer (some ⟨w.heap.size,0,none⟩),.pointer (some ⟨w.heap.size+1,0,none⟩)]) (by simp) (by simp[go_sem]) ?_;refine(YZ w.heap.size (w.heap.size+1) _).mono ?_;rintro e u' w2 ⟨rfl,rfl,rfl⟩;have hc0:=Ht.out;have hc1:=N8.out;simp[Leaves,settle,results,Tryz.results72,go_sem,hc0,hc1];exact⟨.ok l q,(if_neg hbig).mpr S9.out,jX.out,_,rfl,HL.out⟩
   ·go_wp2_with fail
    refine leaves_cons (f:=95) (args:=#[.pointer (some ⟨w.heap.size,0,none⟩),.pointer (some ⟨w.heap.size+1,0,none⟩)]) (by simp) (by simp[go_sem]) ?_;refine(YZ w.heap.size (w.heap.size+1) _).mono ?_;rintro e u' w2 ⟨rfl,rfl,rfl⟩;have hc0:=Ht.out;have hc1:=N8.out;simp[Leaves,settle,results,Tryz.results72,go_sem,hc0,hc1];exact⟨.ok l q,(if_neg hbig).mpr S9.out,jX.out,_,rfl,HL.out⟩
def okF:Nat->Tree->Bool
 |0,_=>false
 |d+1,.mk _ x _ _ _ kids=>x.all (fun c=>decide (0<=c)&&decide (c<=255))&&decide (x.length<=1000)&&kids.all (okF d)
theorem mW.p{W:World}{P:Nat->Prop}{v:Value}{n:Nat}{xs:List Value}(h:mW W P v n xs):iL W P v n xs:=by
 rcases h with ⟨rfl,rfl⟩|⟨g,cap,rfl,hc,hm,hP,hg,hb,h⟩
 ·exact .inl ⟨rfl,_,_,rfl⟩
 ·obtain⟨c,t,ht,hb⟩:=hb;refine .inr ⟨g,0,cap,rfl,hc,hm,⟨c,t,?_,hb⟩,hP,fun j u hj=>by rw[Nat.zero_add];exact h j u hj⟩;rcases ht with rfl|rfl|rfl
  ·exact .inl rfl
  ·exact .inr (.inl rfl)
  ·exact .inr (.inr (.inr rfl))
theorem av.Ta{W:World}{P:Nat->Prop}{X:XV}{t:Tree}(h:av W P X t):∀ (d:Nat),okF d t=true->dX W P X t:=by
 induction h with
 |mk vs h1 h2 h3 _ ih =>
  intro d ho
  cases d with
  |zero=>cases ho
  |succ d =>
  unfold okF at ho;simp only[zbJ,List.all_eq_true,decide_eq_true_eq]at ho;obtain⟨⟨o1,o2⟩,o3⟩:=ho;exact .mk vs o1 (by omega) h1.p h2.p h3 (fun i y t hy ht=>ih i y t hy ht d (o3 t (zbI ht)))
def zm(W:World)(base:Nat)(v:Value)(ys:List RV)(g:List GR):Prop :=
 W.ownsRow base 33 7 v g.length (ys.flatMap RV.cells)/\ys.length=g.length/\∀ (i:Nat) (y:RV) (r:GR),ys[i]?=some y->g[i]?=some r->y.name=ak r.name/\bJ r.name/\dX W (fun b=>base<=b) y.expr r.expr
theorem zm.below{W W':World}{base:Nat}{v:Value}{ys:List RV}{g:List GR}(h:zm W base v ys g)(hb:Below W.heap.size W W'):zm W' base v ys g :=
 ⟨mI h.1 hb,h.2.1,fun i y r hy hr=>⟨(h.2.2 i y r hy hr).1,(h.2.2 i y r hy hr).2.1,(h.2.2 i y r hy hr).2.2.kept (M:=fun _=>False) (zap.below hb) (fun b hb _=>⟨id,hb⟩)⟩⟩
theorem zm.rules{W:World}{base:Nat}{v:Value}{ys:List RV}{g:List GR}(h:zm W base v ys g):qF W v ys g:=by
 refine⟨?_,h.2.1,fun i y r hy hr=>⟨(h.2.2 i y r hy hr).1,(h.2.2 i y r hy hr).2.1,(h.2.2 i y r hy hr).2.2.any⟩⟩;rcases fB h.1 with ⟨rfl,h0⟩|⟨b,cap,rfl⟩
 ·exact .inl ⟨h0,_,_,rfl⟩
 ·obtain⟨h1,h2,h3,h4⟩:=iX h.1;exact .inr ⟨b,0,cap,rfl,h2,h3,h4,fun j u hj=>by rw[Nat.zero_add];exact eZ h.1 hj⟩
theorem zxq{w:World}{s:ByteArray}(hs:s=ak Ku):Calls Tryz.prog 72 #[.string s] w (fun e w'=>∃ v,e=.returned (.tuple #[v,.int .i64 0])/\jD w' w.heap.size v wV/\Below w.heap.size w w'):=by
 refine(qav s w (by rw[hs,eP];exact zbH YD (by unfold maxLen;omega))).mono ?_;rintro e w' ⟨r,ha,hb,h⟩;rw[hs]at ha;obtain⟨q,rfl⟩:=zrc ha;obtain⟨v,rfl,hl⟩:=h;exact⟨v,rfl,hl,hb⟩
theorem qde:fJ.all (fun r=>okF 10 r.expr&&r.name.all (fun c=>decide (0<=c)&&decide (c<=255))&&decide (r.name.length<=1000))=true:=by decide +kernel
theorem zrf{W:World}{P:Nat->Prop}{X:XV}{t:Tree}(h:av W P X t):∃ a1 n1 c1 a2 n2 c2,X.ns=.slice a1 n1 c1/\X.ks=.slice a2 n2 c2:=by
 cases h with
 |mk vs h1 h2 _ _ =>
  obtain⟨_,_,e1,_⟩:=h1.open;obtain⟨_,_,e2,_⟩:=h2.open;exact⟨_,_,_,_,_,_,e1,e2⟩
def Tc:RV:=⟨⟨#[]⟩,⟨0,⟨#[]⟩,.slice none 0 0,0,0,.slice none 0 0⟩⟩
def Fv(y:LV):RV:=⟨y.name,y.expr⟩
theorem zul:(madeCells #[.string ⟨#[]⟩,.int .i64 0,.string ⟨#[]⟩,.slice none 0 0,.int .i64 0,.int .i64 0,.slice none 0 0] 112).toList=(List.replicate 16 Tc).flatMap RV.cells:=by kernel_rfl
theorem Y2(vs:List RV)(i:Nat)(x:RV)(h:i<vs.length) :
  (((((((vs.flatMap RV.cells).set (i*7) (.string x.name)).set (i*7+1) (.int .i64 x.expr.kind)).set (i*7+2) (.string x.expr.text)).set (i*7+3) x.expr.ns).set (i*7+4) (.int .i64 x.expr.lo)).set (i*7+5) (.int .i64 x.expr.hi)).set (i*7+6) x.expr.ks=(vs.set i x).flatMap RV.cells:=by
 induction vs generalizing i with
 |nil=>simp at h
 |cons y vs ih =>
  cases i with
  |zero=>simp[RV.cells]
  |succ i =>
   have ih:=ih i (by simpa using h)
   have e:∀ (j:Nat) (l:List Value) (u:Value),(y.cells++l).set ((i+1)*7+j) u=y.cells++l.set (i*7+j) u:=fun j l u=>by
    rw[List.set_append,if_neg (by simp[RV.cells];omega),show (i+1)*7+j-y.cells.length=i*7+j by simp[RV.cells];omega]
   have e0:=e 0;simp only[Nat.add_zero]at e0;simp only[List.flatMap_cons,List.set_cons_succ,e0,e];rw[ih]
def Ct(W:World)(g o:Nat)(x:RV):World :=
 ((((((W.setCell ⟨g,o,none⟩ (.string x.name)).setCell ⟨g,o+1,none⟩ (.int .i64 x.expr.kind)).setCell ⟨g,o+2,none⟩ (.string x.expr.text)).setCell ⟨g,o+3,none⟩ x.expr.ns).setCell ⟨g,o+4,none⟩ (.int .i64 x.expr.lo)).setCell ⟨g,o+5,none⟩ (.int .i64 x.expr.hi)).setCell ⟨g,o+6,none⟩ x.expr.ks
theorem zum(W:World)(g o:Nat)(x:RV):W.grownBy (Ct W g o x) (some g) :=
 (((((((uJ W g o _).trans (uJ _ g _ _)).trans (uJ _ g _ _)).trans (uJ _ g _ _)).trans (uJ _ g _ _)).trans (uJ _ g _ _)).trans (uJ _ g _ _))
theorem Y3:∀ (i:Nat) (r:GR),fJ[i]?=some r->wV[i]?=some ⟨r.name,false,r.expr⟩/\okF 10 r.expr=true/\bJ r.name:=by
 intro i r hr;refine⟨by unfold wV;rw[List.getElem?_map,hr];rfl,?_⟩;have h:=List.all_eq_true.1 qde r (zbI hr);simp only[zbJ,List.all_eq_true,decide_eq_true_eq]at h;exact⟨h.1.1,h.1.2,by omega⟩
theorem qaw{w w1 wr:World}{v vl:Value}{xq:List LV}{tY:List RV}
  (G6:∀ (i:Nat) (y:LV) (r:Rule),xq[i]?=some y->wV[i]?=some r->tH w1 (fun b=>w.heap.size<=b/\some b≠vl.ownBlock) y r) (hl:xq.length=16) (hyl:tY.length=16)
  (hd:∀ j,j<16->tY[j]?=(xq[j]?).map Fv) (hr:wr.ownsRow w1.heap.size 33 7 v 16 (tY.flatMap RV.cells)) (hb1:Below w.heap.size w w1) (hb:Below w1.heap.size w1 wr):zm wr w.heap.size v tY fJ:=by
 have hc:fJ.length=16:=by decide +kernel
 refine⟨by rw[hc];exact wQ hr hb1.size,by rw[hyl,hc],fun i y r hy hr'=>?_⟩;obtain⟨h1,h2,h3⟩:=Y3 i r hr';have hi:i<16:=by rw[<- hyl];exact(zbF.1 hy).1
 obtain⟨Y,hY⟩:∃ Y,xq[i]?=some Y:=⟨_,zbC (by omega)⟩
 have e:=hd i hi;rw[hy,hY]at e;have e:=zbB e;subst e;obtain⟨g1,_,g3⟩:=G6 i Y _ hY h1;exact⟨g1,h3,((g3.Ta 10 h2).kept (M:=fun _=>False) (zap.below hb) (fun b hb _=>⟨id,hb.1⟩))⟩
theorem zrg{W:World}{base size:Nat}{e:TypeId}{v:Value}{xs:List Value}(h:W.ownsRow base e size v wV.length xs):∃ g cap,v=.slice (some ⟨g,0,none⟩) 16 cap:=by
 have hl:wV.length=16:=by decide +kernel
 rw[hl]at h;rcases fB h with ⟨_,h0⟩|⟨g,cap,rfl⟩
 ·omega
 ·exact⟨g,cap,rfl⟩
theorem qax(w:World):Calls Tryz.prog 51 #[] w (fun e w'=>∃ v ys,e=.returned v/\zm w' w.heap.size v ys fJ/\Below w.heap.size w w'):=by
 obtain⟨i0,hi0,hz0,hz1,hz2⟩:=info_parts XZ
 have hmk:∀ u:World,(Instr.makeSlice 25 (.int .i64 16) (.int .i64 16)).run Tryz.prog u=.ok (.slice (some ⟨u.heap.size,0,none⟩) 16 16) (u.alloc (.cells (madeCells #[.string ⟨#[]⟩,.int .i64 0,.string ⟨#[]⟩,.slice none 0 0,.int .i64 0,.int .i64 0,.slice none 0 0] 112) 33)):=fun u=>by
  have h:=run_make (P:=Tryz.prog) u 25 33 i0 (.agg #[.string ⟨#[]⟩,.int .i64 0,.string ⟨#[]⟩,.slice none 0 0,.int .i64 0,.int .i64 0,.slice none 0 0]) Tryz.underlying25 hi0 hz0 .i64 .i64 16 16 (by omega) (Int.le_refl _) (by rw[hz2];omega) (by omega);simpa[hz1,Value.cells]using h
 go_enter Tryz.func51,Tryz.ntmps51;go_wp2_with (go_at_call 72;refine(zxq (by kernel_rfl)).mono ?_;rintro e w1 ⟨v,rfl,hl,hb⟩;obtain⟨xq,hyl,hrow,G6⟩:=hl;obtain⟨gv,KE,rfl⟩:∃ g cap,v=.slice (some ⟨g,0,none⟩) 16 cap:=zrg hrow;have Y4:=hh9 G6;have cO:=hh9 hrow;have HYL:=hh9 hyl;have HB1:=hh9 hb;clear G6 hrow hyl hb)
 have je:(w1.alloc (.cells (madeCells #[.string ⟨#[]⟩,.int .i64 0,.string ⟨#[]⟩,.slice none 0 0,.int .i64 0,.int .i64 0,.slice none 0 0] 112) 33)).ownsRow w1.heap.size 33 7 (.slice (some ⟨w1.heap.size,0,none⟩) 16 16) 16 ((List.replicate 16 Tc).flatMap RV.cells):=by
  have h:=bq (size:=7) (n:=16) (zbA _) (zbO w1 (.cells (madeCells #[.string ⟨#[]⟩,.int .i64 0,.string ⟨#[]⟩,.slice none 0 0,.int .i64 0,.int .i64 0,.slice none 0 0] 112) 33)) (by unfold maxLen;omega) (by kernel_rfl);rw[zul]at h;exact h
 have Cu:=hh9 je;have HBM:Hid (Below w1.heap.size w1 (w1.alloc (.cells (madeCells #[.string ⟨#[]⟩,.int .i64 0,.string ⟨#[]⟩,.slice none 0 0,.int .i64 0,.int .i64 0,.slice none 0 0] 112) 33))):=(zbE _ _).alloc (zbA _) _;have zn:wV.length=16:=by decide +kernel
 have hgv:=iX (show w1.ownsRow w.heap.size 31 8 (.slice (some ⟨gv,0,none⟩) 16 KE) 16 (xq.flatMap LV.cells) by have:=cO.out;rwa[zn]at this);have DV:Hid (xq.length=16):=by have:=HYL.out;rwa[zn]at this
 have wY:Hid (∀ j u,(xq.flatMap LV.cells)[j]?=some u->w1.cell? ⟨gv,j,none⟩=some u):=fun j u hj=>eZ (show w1.ownsRow w.heap.size 31 8 (.slice (some ⟨gv,0,none⟩) 16 KE) 16 (xq.flatMap LV.cells) by have:=cO.out;rwa[zn]at this) hj
 have Td:=hh9 zn;clear je hmk zn;go_loopw [15] (fun v wr=>∃ (i:Nat) (tY:List RV),v=.int .i64 i/\i<=16/\tY.length=16/\Hid (∀ j,j<i->tY[j]?=(xq[j]?).map Fv)/\Hid (wr.ownsRow w1.heap.size 33 7 (.slice (some ⟨w1.heap.size,0,none⟩) 16 16) 16 (tY.flatMap RV.cells))/\Hid (Below w1.heap.size w1 wr)) (fun v _=>16-(intOf v).toNat)
 case atStart=>exact⟨0,List.replicate 16 Tc,rfl,by omega,by simp,fun j hj=>by omega,Cu,HBM⟩
 case round =>
  obtain⟨i,tY,rfl,hi,hyl,HD,HR,HB⟩:=hrel;by_cases hlt:i<16
  ·obtain⟨Y,hY⟩:∃ y,xq[i]?=some y:=⟨_,zbC (by rw[DV.out];exact hlt)⟩
   obtain⟨Z,hZ⟩:∃ z,tY[i]?=some z:=⟨_,zbC (by rw[hyl];exact hlt)⟩
   have CX:∀ (j:Nat) (u:Value),j<8->Y.cells[j]?=some u->wr.cell? ⟨gv,i*8+j,none⟩=some u:=fun j u hj hu =>
    (HB.out.cell (p:=⟨gv,i*8+j,none⟩) hgv.2.2.2).trans (wY.out _ u ((EN xq i j Y hY hj).trans hu))
   obtain⟨rr,hrr⟩:∃ r,wV[i]?=some r:=⟨_,zbC (by rw[Td.out];exact hlt)⟩
   obtain⟨b1,m1,d1,b5,m5,d5,hb1,hb5⟩:=zrf (Y4.out i Y rr hY hrr).2.2;obtain⟨nm,mo,⟨k,tx,nv,lo,hi2,kv⟩⟩:=Y;simp only[]at hb1 hb5;subst hb1 hb5;have hwl:w1.heap.size<wr.heap.size:=(iX HR.out).2.2.2;have e0:=CX 0 _ (by omega) rfl;have e1:=CX 1 _ (by omega) rfl;have e2:=CX 2 _ (by omega) rfl;have e3:=CX 3 _ (by omega) rfl;have e4:=CX 4 _ (by omega) rfl;have e5:=CX 5 _ (by omega) rfl;have e6:=CX 6 _ (by omega) rfl;have e7:=CX 7 _ (by omega) rfl;rw[Nat.add_zero]at e0;simp only[]at e0 e1 e2 e3 e4 e5 e6 e7;have HY:=hh9 hY;have HZ:=hh9 hZ;have RX:∀ (j:Nat) (u:Value),j<7->Z.cells[j]?=some u->wr.cell? ⟨w1.heap.size,i*7+j,none⟩=some u/\wr.frozen? ⟨w1.heap.size,i*7+j,none⟩=false:=fun j u hj hu=>⟨RP HR.out ((uI tY i j Z hZ hj).trans hu),AJ HR.out _⟩
   obtain⟨r0,q0⟩:=RX 0 _ (by omega) rfl;obtain⟨r1,q1⟩:=RX 1 _ (by omega) rfl;obtain⟨r2,q2⟩:=RX 2 _ (by omega) rfl;obtain⟨r3,q3⟩:=RX 3 _ (by omega) rfl;obtain⟨r4,q4⟩:=RX 4 _ (by omega) rfl;obtain⟨r5,q5⟩:=RX 5 _ (by omega) rfl;obtain⟨r6,q6⟩:=RX 6 _ (by omega) rfl;rw[Nat.add_zero]at r0 q0
   have hstep:(Ct wr w1.heap.size (i*7) ⟨nm,⟨k,tx,.slice b1 m1 d1,lo,hi2,.slice b5 m5 d5⟩⟩).ownsRow w1.heap.size 33 7 (.slice (some ⟨w1.heap.size,0,none⟩) 16 16) 16 ((tY.set i ⟨nm,⟨k,tx,.slice b1 m1 d1,lo,hi2,.slice b5 m5 d5⟩⟩).flatMap RV.cells):=by
    have h7:=nL (nL (nL (nL (nL (nL (nL HR.out (i*7) (.string nm)) (i*7+1) (.int .i64 k)) (i*7+2) (.string tx)) (i*7+3) (.slice b1 m1 d1)) (i*7+4) (.int .i64 lo)) (i*7+5) (.int .i64 hi2)) (i*7+6) (.slice b5 m5 d5);have e:=Y2 tY i ⟨nm,⟨k,tx,.slice b1 m1 d1,lo,hi2,.slice b5 m5 d5⟩⟩ (by rw[hyl];exact hlt);simp only[]at e;rw[e]at h7;exact h7
   have hbel:Below w1.heap.size w1 (Ct wr w1.heap.size (i*7) ⟨nm,⟨k,tx,.slice b1 m1 d1,lo,hi2,.slice b5 m5 d5⟩⟩):=HB.out.grown (zum _ _ _ _) (by omega) (fun b e=>by have:=zbB e;omega)
   have HD2:Hid (∀ j,j<i+1->(tY.set i ⟨nm,⟨k,tx,.slice b1 m1 d1,lo,hi2,.slice b5 m5 d5⟩⟩)[j]?=(xq[j]?).map Fv):=fun j hj=>by
    by_cases hji:j=i
    ·subst hji;rw[List.getElem?_set_self (by rw[hyl];exact hlt),HY.out];rfl
    ·rw[List.getElem?_set_ne (by omega)];exact HD.out j (by omega)
   have hstep:=mI hstep ((zbE _ _).alloc (zbA _) (.cells #[.string nm,.bool mo,.int .i64 k,.string tx,.slice b1 m1 d1,.int .i64 lo,.int .i64 hi2,.slice b5 m5 d5] 31));have hbel:=hbel.alloc hbel.size (.cells #[.string nm,.bool mo,.int .i64 k,.string tx,.slice b1 m1 d1,.int .i64 lo,.int .i64 hi2,.slice b5 m5 d5] 31);unfold Ct at hstep hbel;simp only[]at hstep hbel;have HST:=hh9 hstep;have pK:=hh9 hbel;clear CX hY hZ hrr RX hstep hbel;go_wp2_with fail
   go_roundw
   case rel=>exact⟨i+1,tY.set i ⟨nm,⟨k,tx,.slice b1 m1 d1,lo,hi2,.slice b5 m5 d5⟩⟩,by go_num,by omega,by rw[List.length_set];exact hyl,HD2,HST,pK⟩
   case measure=>simp[intOf];omega
  ·obtain rfl:i=16:=by omega
   have aU:=hh9 (qaw Y4.out DV.out hyl HD.out HR.out HB1.out HB.out);clear HR;go_wp2_with fail
   go_ret;exact⟨_,tY,rfl,aU.out,aJ HB1.out HB.out⟩
end Go.Proofs.YtahibnnhjahmnaaGreatDoor
