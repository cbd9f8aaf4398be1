/- Part 20 of what the laws of the grammar rest on. -/
import Derived.Test.YtahibnnhjahmnaaGreatDoorA19
set_option linter.all false
set_option maxRecDepth 100000
set_option maxHeartbeats 8000000
namespace Go.Proofs.YtahibnnhjahmnaaGreatDoor
open Go.RowKit
theorem zxl{k:Nat}(hel:∀ k',k'<k->uR 142 .alts k'):uR 185 .elem k:=by
 intro R p d s w h hs hp hd hk;have hR:=h.lt;have HR:=hh9 (fG w);have HA:=hh9 (h.alloc (.cells #[.int .i64 0,.string ⟨#[]⟩,.slice none 0 0,.int .i64 0,.int .i64 0,.slice none 0 0] 29));have HG:=hh9 (World.grownBy_alloc w (.cells #[.int .i64 0,.string ⟨#[]⟩,.slice none 0 0,.int .i64 0,.int .i64 0,.slice none 0 0] 29) (some R));have lX:Hid (∀ k',k'<s.size-p->uR 142 .alts k'):=fun k' hk'=>hel k' (by omega)
 have hr:=vR s p;clear h hel
 cases hal:aH (rd s p)
 ·by_cases kT:rd s p=40
  ·have YV:=hh9 kT;have HN:=hh9 (vS (by omega) kT);clear kT hal;go_enter Tryz.func185,Tryz.ntmps185;go_wp2_with fail
   refine(dQ HA.out hs hp).mono ?_;rw[HN.out];rintro e w1 ⟨rfl,n,rfl⟩;go_wp2_with fail
   refine(kM _ _).mono ?_;rw[show aH 40=false by decide];rintro e w1 ⟨rfl,rfl⟩;go_wp2_with fail
   refine(YU 40 41 (by omega) (by omega) lX.out (HA.out.drew n) hs hd YV.out).mono ?_;rintro e w2 ⟨r,hb,hgv⟩;have aP:=hh9 (Sr YV.out hb);clear hb
   cases r with
   |err c =>
    obtain⟨rfl,hg⟩:=hgv;have HG2:=hh9 ((bY HG.out n).trans hg);clear hg;go_wp2_with fail
    exact⟨rfl,_,aP.out,rfl,HG2.out⟩
   |ok t q =>
    obtain⟨x,ht,aR,rfl,ha,hg⟩:=hgv;have h2:=fq ht;have h5:=eU ht;have H2:=hh9 h2;have H5:=hh9 h5;have hz2:w.heap.size+1<=w2.heap.size:=by have:=hg.size;have:=hR;simp at *;omega
    have HR2:=hh9 (bG (W:=(w.alloc (.cells #[.int .i64 0,.string ⟨#[]⟩,.slice none 0 0,.int .i64 0,.int .i64 0,.slice none 0 0] 29)).drewN n) HR.out hg (by omega));have HG2:=hh9 ((bY HG.out n).trans hg);have HA2:=hh9 ha;have HT:=hh9 (ht.weak (P':=fun b=>w.heap.size+1<=b) (fun b hP _=>by have:=hR;simp at *;omega));clear ha hg ht h2 h5;go_wp2_with (refine bA rfl _ _ rfl w.heap.size x rfl rfl HR2.out H2.out H5.out ?_)
    refine bodyPost_ret_by (zag rfl _ _ w.heap.size x rfl HR2.out) rfl ⟨_,aP.out,x,?_,aR,rfl,HA2.out.aj (by omega) _,dY HG2.out (zbA _) _⟩;exact(HT.out.aj (fun b hb=>by omega) _).weak (fun b hb _=>by omega)
  ·by_cases pY:rd s p=91
   ·have SK:=hh9 pY;have HN:=hh9 (vS (by omega) pY);clear kT hal pY;go_enter Tryz.func185,Tryz.ntmps185;go_wp2_with fail
    refine(dQ HA.out hs hp).mono ?_;rw[HN.out];rintro e w1 ⟨rfl,n,rfl⟩;go_wp2_with fail
    refine(kM _ _).mono ?_;rw[show aH 91=false by decide];rintro e w1 ⟨rfl,rfl⟩;go_wp2_with fail
    refine(YU 91 93 (by omega) (by omega) lX.out (HA.out.drew n) hs hd SK.out).mono ?_;rintro e w2 ⟨r,hb,hgv⟩
    cases r with
    |err c =>
     obtain⟨rfl,hg⟩:=hgv;have aP:=hh9 (Yp SK.out hb);have HG2:=hh9 ((bY HG.out n).trans hg);clear hb hg;go_wp2_with fail
     exact⟨rfl,_,aP.out,rfl,HG2.out⟩
    |ok t q =>
     obtain⟨x,ht,aR,rfl,ha,hg⟩:=hgv;have aP:=hh9 (Yq SK.out hb);have h2:=fq ht;have h5:=eU ht;have H2:=hh9 h2;have H5:=hh9 h5;have hz2:w.heap.size+1<=w2.heap.size:=by have:=hg.size;simp at this;omega
     have HR2:=hh9 (lV (bG (W:=(w.alloc (.cells #[.int .i64 0,.string ⟨#[]⟩,.slice none 0 0,.int .i64 0,.int .i64 0,.slice none 0 0] 29)).drewN n) HR.out hg (by omega)) (.cells x.arr 29));have HG2:=hh9 (dn ((bY HG.out n).trans hg) (.cells x.arr 29));have HA2:=hh9 (ha.alloc (.cells x.arr 29));have sN:=fK.one (W:=w2) (W':=w2.alloc (.cells x.arr 29)) (base:=w.heap.size+1) (g:=w2.heap.size) (ht.weak (fun b hP _=>by simp at hP;omega)) (zbA _) hz2 (zbO _ _) (fun b _ hl=>heap_alloc_old _ _ hl) (by simp);have HT:=hh9 (sN.tree 3 0 1);clear hb ha hg ht h2 h5 sN
     go_wp2_with (first
      |(refine nR rfl _ rfl x rfl H2.out H5.out ?_)
      |(refine bA rfl _ _ rfl w.heap.size ⟨3,⟨#[]⟩,.slice none 0 0,0,1,.slice (some ⟨w2.heap.size,0,none⟩) 1 1⟩ rfl rfl HR2.out rfl rfl ?_))
     refine bodyPost_ret_by (zag rfl _ _ w.heap.size ⟨3,⟨#[]⟩,.slice none 0 0,0,1,.slice (some ⟨w2.heap.size,0,none⟩) 1 1⟩ rfl HR2.out) rfl ⟨_,aP.out,_,?_,aR,rfl,HA2.out.aj (by omega) _,dY HG2.out (zbA _) _⟩;exact(HT.out.aj (fun b hb=>by omega) _).weak (fun b hb _=>by omega)
   ·by_cases fI:rd s p=34
    ·have qj:=hh9 fI;have HN:=hh9 (vS (by omega) fI);clear kT hal pY fI
     cases hq:iY (rd s) p with
     |err c =>
      have HQ:=hh9 hq;clear hq;go_enter Tryz.func185,Tryz.ntmps185;go_wp2_with fail
      refine(dQ HA.out hs hp).mono ?_;rw[HN.out];rintro e w1 ⟨rfl,n,rfl⟩;go_wp2_with fail
      refine(kM _ _).mono ?_;rw[show aH 34=false by decide];rintro e w1 ⟨rfl,rfl⟩;go_wp2_with fail
      refine(AU (HA.out.drew n) hs hp).mono ?_;rw[HQ.out];rintro e w2 ⟨rfl,hg⟩;have HG2:=hh9 ((bY HG.out n).trans hg);clear hg;go_wp2_with fail
      exact⟨rfl,_,.mh qj.out HQ.out,rfl,HG2.out⟩
     |ok x q =>
      have HQ:=hh9 hq;have HX:=hh9 (Kq hq);clear hq;go_enter Tryz.func185,Tryz.ntmps185;go_wp2_with fail
      refine(dQ HA.out hs hp).mono ?_;rw[HN.out];rintro e w1 ⟨rfl,n,rfl⟩;go_wp2_with fail
      refine(kM _ _).mono ?_;rw[show aH 34=false by decide];rintro e w1 ⟨rfl,rfl⟩;go_wp2_with fail
      refine(AU (HA.out.drew n) hs hp).mono ?_;rw[HQ.out];rintro e w2 ⟨aR,rfl,ha,hg⟩;have hz2:w.heap.size+1<=w2.heap.size:=by have:=hg.size;simp at this;omega
      have HR2:=hh9 (bG (W:=(w.alloc (.cells #[.int .i64 0,.string ⟨#[]⟩,.slice none 0 0,.int .i64 0,.int .i64 0,.slice none 0 0] 29)).drewN n) HR.out hg (by omega));have HG2:=hh9 ((bY HG.out n).trans hg);have HA2:=hh9 ha;have aP:Hid (aK (rd s) .elem d p (.ok (Bh x) q)):=.mg qj.out HQ.out;clear ha hg;go_wp2_with fail
      refine(YP HX.out.1 (by have:=HX.out.2;omega)).mono ?_;rintro e w3 ⟨y,ht,rfl,hb⟩;have H2:=hh9 (fq ht);have H5:=hh9 (eU ht);have HR3:=hh9 (HR2.out.kept (hb.block _ HR2.out.lt));have aC:=hh9 (HA2.out.below hb);have aG:=hh9 (dw HG2.out hb);have HT:=hh9 (ht.weak (P':=fun b=>w.heap.size+1<=b) (fun b hP _=>by omega));clear ht hb;go_wp2_with (refine bA rfl _ _ rfl w.heap.size y rfl rfl HR3.out H2.out H5.out ?_)
      refine bodyPost_ret_by (zag rfl _ _ w.heap.size y rfl HR3.out) rfl ⟨_,aP.out,y,?_,aR,rfl,aC.out.aj (by omega) _,dY aG.out (zbA _) _⟩;exact(HT.out.aj (fun b hb=>by omega) _).weak (fun b hb _=>by omega)
    ·by_cases h37:rd s p=37
     ·have jB:=hh9 h37;have HN:=hh9 (vS (by omega) h37);have hlt:=fP (by omega) h37;clear kT hal pY fI h37;have hr2:=vR s (p+1);by_cases v105:rd s (p+1)=105
      ·have hv:=v105;clear v105;have HV:=hh9 hv;have HK:Hid (kP (rd s (p+1))=.text false):=by rw[hv];exact rfl
       have gY:=hh9 (vS (by omega) hv);have hlt2:=fP (by omega) hv;clear hv
       cases hq:iY (rd s) (p+2) with
       |err c =>
        have HQ:=hh9 hq;clear hq;go_enter Tryz.func185,Tryz.ntmps185;go_wp2_with fail
        refine(dQ HA.out hs hp).mono ?_;rw[HN.out];rintro e w1 ⟨rfl,n,rfl⟩;go_wp2_with fail
        refine(kM _ _).mono ?_;rw[show aH 37=false by decide];rintro e w1 ⟨rfl,rfl⟩;go_wp2_with fail
        refine(kG (HA.out.drew n) hs 37 (by omega) jB.out).mono ?_;rintro e w3 ⟨rfl,ha,hg⟩;have hz3:w.heap.size+1<=w3.heap.size:=by have:=hg.size;simp at this;omega
        have HR3:=hh9 (bG (W:=(w.alloc (.cells #[.int .i64 0,.string ⟨#[]⟩,.slice none 0 0,.int .i64 0,.int .i64 0,.slice none 0 0] 29)).drewN n) HR.out hg (by omega));have aG:=hh9 ((bY HG.out n).trans hg);have aC:=hh9 ha;clear ha hg HR HG HA;go_wp2_with fail
        refine(dQ aC.out hs hlt).mono ?_;rw[gY.out];rintro e w4 ⟨rfl,n2,rfl⟩;go_wp2_with fail
        refine(kG (aC.out.drew n2) hs 105 (by omega) HV.out).mono ?_;rintro e w4 ⟨rfl,ha,hg⟩;have dF:w.heap.size+1<=w4.heap.size:=by have:=hg.size;exact zbH hz3 this
        have HR4:=hh9 (bG (W:=w3.drewN n2) HR3.out hg (by omega));have bD:=hh9 ((bY aG.out n2).trans hg);have bf:=hh9 ha;clear ha hg HR3 aG aC;go_wp2_with fail
        refine(AU bf.out hs (by omega)).mono ?_;rw[HQ.out];rintro e w5 ⟨rfl,hg⟩;have dR:=hh9 (bD.out.trans hg);clear hg;go_wp2_with fail
        exact⟨rfl,_,.jl jB.out HK.out HQ.out,rfl,dR.out⟩
       |ok x q =>
        have HQ:=hh9 hq;have HX:=hh9 (Kq hq);clear hq;go_enter Tryz.func185,Tryz.ntmps185;go_wp2_with fail
        refine(dQ HA.out hs hp).mono ?_;rw[HN.out];rintro e w1 ⟨rfl,n,rfl⟩;go_wp2_with fail
        refine(kM _ _).mono ?_;rw[show aH 37=false by decide];rintro e w1 ⟨rfl,rfl⟩;go_wp2_with fail
        refine(kG (HA.out.drew n) hs 37 (by omega) jB.out).mono ?_;rintro e w3 ⟨rfl,ha,hg⟩;have hz3:w.heap.size+1<=w3.heap.size:=by have:=hg.size;simp at this;omega
        have HR3:=hh9 (bG (W:=(w.alloc (.cells #[.int .i64 0,.string ⟨#[]⟩,.slice none 0 0,.int .i64 0,.int .i64 0,.slice none 0 0] 29)).drewN n) HR.out hg (by omega));have aG:=hh9 ((bY HG.out n).trans hg);have aC:=hh9 ha;clear ha hg HR HG HA;go_wp2_with fail
        refine(dQ aC.out hs hlt).mono ?_;rw[gY.out];rintro e w4 ⟨rfl,n2,rfl⟩;go_wp2_with fail
        refine(kG (aC.out.drew n2) hs 105 (by omega) HV.out).mono ?_;rintro e w4 ⟨rfl,ha,hg⟩;have dF:w.heap.size+1<=w4.heap.size:=by have:=hg.size;exact zbH hz3 this
        have HR4:=hh9 (bG (W:=w3.drewN n2) HR3.out hg (by omega));have bD:=hh9 ((bY aG.out n2).trans hg);have bf:=hh9 ha;clear ha hg HR3 aG aC;go_wp2_with fail
        refine(AU bf.out hs (by omega)).mono ?_;rw[HQ.out];rintro e w2 ⟨aR,rfl,ha,hg⟩;have hz2:w.heap.size+1<=w2.heap.size:=by have:=hg.size;omega
        have HR2:=hh9 (bG HR4.out hg (by omega));have HG2:=hh9 (bD.out.trans hg);have HA2:=hh9 ha;have aP:Hid (aK (rd s) .elem d p (.ok (mU x false) q)):=.mq jB.out HK.out HQ.out;clear ha hg;go_wp2_with fail
        refine(Ox false HX.out.1 (by have:=HX.out.2;omega)).mono ?_;rintro e w3 ⟨y,ht,rfl,hb⟩;have H2:=hh9 (fq ht);have H5:=hh9 (eU ht);have HR3:=hh9 (HR2.out.kept (hb.block _ HR2.out.lt));have aC:=hh9 (HA2.out.below hb);have aG:=hh9 (dw HG2.out hb);have HT:=hh9 (ht.weak (P':=fun b=>w.heap.size+1<=b) (fun b hP _=>by omega));clear ht hb;go_wp2_with (refine bA rfl _ _ rfl w.heap.size y rfl rfl HR3.out H2.out H5.out ?_)
        refine bodyPost_ret_by (zag rfl _ _ w.heap.size y rfl HR3.out) rfl ⟨_,aP.out,y,?_,aR,rfl,aC.out.aj (by omega) _,dY aG.out (zbA _) _⟩;exact(HT.out.aj (fun b hb=>by omega) _).weak (fun b hb _=>by omega)
      ·by_cases v73:rd s (p+1)=73
       ·have hv:=v73;clear v73;have HV:=hh9 hv;have HK:Hid (kP (rd s (p+1))=.text false):=by rw[hv];exact rfl
        have gY:=hh9 (vS (by omega) hv);have hlt2:=fP (by omega) hv;clear hv
        cases hq:iY (rd s) (p+2) with
        |err c =>
         have HQ:=hh9 hq;clear hq;go_enter Tryz.func185,Tryz.ntmps185;go_wp2_with fail
         refine(dQ HA.out hs hp).mono ?_;rw[HN.out];rintro e w1 ⟨rfl,n,rfl⟩;go_wp2_with fail
         refine(kM _ _).mono ?_;rw[show aH 37=false by decide];rintro e w1 ⟨rfl,rfl⟩;go_wp2_with fail
         refine(kG (HA.out.drew n) hs 37 (by omega) jB.out).mono ?_;rintro e w3 ⟨rfl,ha,hg⟩;have hz3:w.heap.size+1<=w3.heap.size:=by have:=hg.size;simp at this;omega
         have HR3:=hh9 (bG (W:=(w.alloc (.cells #[.int .i64 0,.string ⟨#[]⟩,.slice none 0 0,.int .i64 0,.int .i64 0,.slice none 0 0] 29)).drewN n) HR.out hg (by omega));have aG:=hh9 ((bY HG.out n).trans hg);have aC:=hh9 ha;clear ha hg HR HG HA;go_wp2_with fail
         refine(dQ aC.out hs hlt).mono ?_;rw[gY.out];rintro e w4 ⟨rfl,n2,rfl⟩;go_wp2_with fail
         refine(kG (aC.out.drew n2) hs 73 (by omega) HV.out).mono ?_;rintro e w4 ⟨rfl,ha,hg⟩;have dF:w.heap.size+1<=w4.heap.size:=by have:=hg.size;exact zbH hz3 this
         have HR4:=hh9 (bG (W:=w3.drewN n2) HR3.out hg (by omega));have bD:=hh9 ((bY aG.out n2).trans hg);have bf:=hh9 ha;clear ha hg HR3 aG aC;go_wp2_with fail
         refine(AU bf.out hs (by omega)).mono ?_;rw[HQ.out];rintro e w5 ⟨rfl,hg⟩;have dR:=hh9 (bD.out.trans hg);clear hg;go_wp2_with fail
         exact⟨rfl,_,.jl jB.out HK.out HQ.out,rfl,dR.out⟩
        |ok x q =>
         have HQ:=hh9 hq;have HX:=hh9 (Kq hq);clear hq;go_enter Tryz.func185,Tryz.ntmps185;go_wp2_with fail
         refine(dQ HA.out hs hp).mono ?_;rw[HN.out];rintro e w1 ⟨rfl,n,rfl⟩;go_wp2_with fail
         refine(kM _ _).mono ?_;rw[show aH 37=false by decide];rintro e w1 ⟨rfl,rfl⟩;go_wp2_with fail
         refine(kG (HA.out.drew n) hs 37 (by omega) jB.out).mono ?_;rintro e w3 ⟨rfl,ha,hg⟩;have hz3:w.heap.size+1<=w3.heap.size:=by have:=hg.size;simp at this;omega
         have HR3:=hh9 (bG (W:=(w.alloc (.cells #[.int .i64 0,.string ⟨#[]⟩,.slice none 0 0,.int .i64 0,.int .i64 0,.slice none 0 0] 29)).drewN n) HR.out hg (by omega));have aG:=hh9 ((bY HG.out n).trans hg);have aC:=hh9 ha;clear ha hg HR HG HA;go_wp2_with fail
         refine(dQ aC.out hs hlt).mono ?_;rw[gY.out];rintro e w4 ⟨rfl,n2,rfl⟩;go_wp2_with fail
         refine(kG (aC.out.drew n2) hs 73 (by omega) HV.out).mono ?_;rintro e w4 ⟨rfl,ha,hg⟩;have dF:w.heap.size+1<=w4.heap.size:=by have:=hg.size;exact zbH hz3 this
         have HR4:=hh9 (bG (W:=w3.drewN n2) HR3.out hg (by omega));have bD:=hh9 ((bY aG.out n2).trans hg);have bf:=hh9 ha;clear ha hg HR3 aG aC;go_wp2_with fail
         refine(AU bf.out hs (by omega)).mono ?_;rw[HQ.out];rintro e w2 ⟨aR,rfl,ha,hg⟩;have hz2:w.heap.size+1<=w2.heap.size:=by have:=hg.size;omega
         have HR2:=hh9 (bG HR4.out hg (by omega));have HG2:=hh9 (bD.out.trans hg);have HA2:=hh9 ha;have aP:Hid (aK (rd s) .elem d p (.ok (mU x false) q)):=.mq jB.out HK.out HQ.out;clear ha hg;go_wp2_with fail
         refine(Ox false HX.out.1 (by have:=HX.out.2;omega)).mono ?_;rintro e w3 ⟨y,ht,rfl,hb⟩;have H2:=hh9 (fq ht);have H5:=hh9 (eU ht);have HR3:=hh9 (HR2.out.kept (hb.block _ HR2.out.lt));have aC:=hh9 (HA2.out.below hb);have aG:=hh9 (dw HG2.out hb);have HT:=hh9 (ht.weak (P':=fun b=>w.heap.size+1<=b) (fun b hP _=>by omega));clear ht hb;go_wp2_with (refine bA rfl _ _ rfl w.heap.size y rfl rfl HR3.out H2.out H5.out ?_)
         refine bodyPost_ret_by (zag rfl _ _ w.heap.size y rfl HR3.out) rfl ⟨_,aP.out,y,?_,aR,rfl,aC.out.aj (by omega) _,dY aG.out (zbA _) _⟩;exact(HT.out.aj (fun b hb=>by omega) _).weak (fun b hb _=>by omega)
       ·by_cases Cj:rd s (p+1)=115
        ·have hv:=Cj;clear Cj;have HV:=hh9 hv;have HK:Hid (kP (rd s (p+1))=.text true):=by rw[hv];exact rfl
         have gY:=hh9 (vS (by omega) hv);have hlt2:=fP (by omega) hv;clear hv
         cases hq:iY (rd s) (p+2) with
         |err c =>
          have HQ:=hh9 hq;clear hq;go_enter Tryz.func185,Tryz.ntmps185;go_wp2_with fail
          refine(dQ HA.out hs hp).mono ?_;rw[HN.out];rintro e w1 ⟨rfl,n,rfl⟩;go_wp2_with fail
          refine(kM _ _).mono ?_;rw[show aH 37=false by decide];rintro e w1 ⟨rfl,rfl⟩;go_wp2_with fail
          refine(kG (HA.out.drew n) hs 37 (by omega) jB.out).mono ?_;rintro e w3 ⟨rfl,ha,hg⟩;have hz3:w.heap.size+1<=w3.heap.size:=by have:=hg.size;simp at this;omega
          have HR3:=hh9 (bG (W:=(w.alloc (.cells #[.int .i64 0,.string ⟨#[]⟩,.slice none 0 0,.int .i64 0,.int .i64 0,.slice none 0 0] 29)).drewN n) HR.out hg (by omega));have aG:=hh9 ((bY HG.out n).trans hg);have aC:=hh9 ha;clear ha hg HR HG HA;go_wp2_with fail
          refine(dQ aC.out hs hlt).mono ?_;rw[gY.out];rintro e w4 ⟨rfl,n2,rfl⟩;go_wp2_with fail
          refine(kG (aC.out.drew n2) hs 115 (by omega) HV.out).mono ?_;rintro e w4 ⟨rfl,ha,hg⟩;have dF:w.heap.size+1<=w4.heap.size:=by have:=hg.size;exact zbH hz3 this
          have HR4:=hh9 (bG (W:=w3.drewN n2) HR3.out hg (by omega));have bD:=hh9 ((bY aG.out n2).trans hg);have bf:=hh9 ha;clear ha hg HR3 aG aC;go_wp2_with fail
          refine(AU bf.out hs (by omega)).mono ?_;rw[HQ.out];rintro e w5 ⟨rfl,hg⟩;have dR:=hh9 (bD.out.trans hg);clear hg;go_wp2_with fail
          exact⟨rfl,_,.jl jB.out HK.out HQ.out,rfl,dR.out⟩
         |ok x q =>
          have HQ:=hh9 hq;have HX:=hh9 (Kq hq);clear hq;go_enter Tryz.func185,Tryz.ntmps185;go_wp2_with fail
          refine(dQ HA.out hs hp).mono ?_;rw[HN.out];rintro e w1 ⟨rfl,n,rfl⟩;go_wp2_with fail
          refine(kM _ _).mono ?_;rw[show aH 37=false by decide];rintro e w1 ⟨rfl,rfl⟩;go_wp2_with fail
          refine(kG (HA.out.drew n) hs 37 (by omega) jB.out).mono ?_;rintro e w3 ⟨rfl,ha,hg⟩;have hz3:w.heap.size+1<=w3.heap.size:=by have:=hg.size;simp at this;omega
          have HR3:=hh9 (bG (W:=(w.alloc (.cells #[.int .i64 0,.string ⟨#[]⟩,.slice none 0 0,.int .i64 0,.int .i64 0,.slice none 0 0] 29)).drewN n) HR.out hg (by omega));have aG:=hh9 ((bY HG.out n).trans hg);have aC:=hh9 ha;clear ha hg HR HG HA;go_wp2_with fail
          refine(dQ aC.out hs hlt).mono ?_;rw[gY.out];rintro e w4 ⟨rfl,n2,rfl⟩;go_wp2_with fail
          refine(kG (aC.out.drew n2) hs 115 (by omega) HV.out).mono ?_;rintro e w4 ⟨rfl,ha,hg⟩;have dF:w.heap.size+1<=w4.heap.size:=by have:=hg.size;exact zbH hz3 this
          have HR4:=hh9 (bG (W:=w3.drewN n2) HR3.out hg (by omega));have bD:=hh9 ((bY aG.out n2).trans hg);have bf:=hh9 ha;clear ha hg HR3 aG aC;go_wp2_with fail
          refine(AU bf.out hs (by omega)).mono ?_;rw[HQ.out];rintro e w2 ⟨aR,rfl,ha,hg⟩;have hz2:w.heap.size+1<=w2.heap.size:=by have:=hg.size;omega
          have HR2:=hh9 (bG HR4.out hg (by omega));have HG2:=hh9 (bD.out.trans hg);have HA2:=hh9 ha;have aP:Hid (aK (rd s) .elem d p (.ok (mU x true) q)):=.mq jB.out HK.out HQ.out;clear ha hg;go_wp2_with fail
          refine(Ox true HX.out.1 (by have:=HX.out.2;omega)).mono ?_;rintro e w3 ⟨y,ht,rfl,hb⟩;have H2:=hh9 (fq ht);have H5:=hh9 (eU ht);have HR3:=hh9 (HR2.out.kept (hb.block _ HR2.out.lt));have aC:=hh9 (HA2.out.below hb);have aG:=hh9 (dw HG2.out hb);have HT:=hh9 (ht.weak (P':=fun b=>w.heap.size+1<=b) (fun b hP _=>by omega));clear ht hb;go_wp2_with (refine bA rfl _ _ rfl w.heap.size y rfl rfl HR3.out H2.out H5.out ?_)
          refine bodyPost_ret_by (zag rfl _ _ w.heap.size y rfl HR3.out) rfl ⟨_,aP.out,y,?_,aR,rfl,aC.out.aj (by omega) _,dY aG.out (zbA _) _⟩;exact(HT.out.aj (fun b hb=>by omega) _).weak (fun b hb _=>by omega)
        ·by_cases v83:rd s (p+1)=83
         ·have hv:=v83;clear v83;have HV:=hh9 hv;have HK:Hid (kP (rd s (p+1))=.text true):=by rw[hv];exact rfl
          have gY:=hh9 (vS (by omega) hv);have hlt2:=fP (by omega) hv;clear hv
          cases hq:iY (rd s) (p+2) with
          |err c =>
           have HQ:=hh9 hq;clear hq;go_enter Tryz.func185,Tryz.ntmps185;go_wp2_with fail
           refine(dQ HA.out hs hp).mono ?_;rw[HN.out];rintro e w1 ⟨rfl,n,rfl⟩;go_wp2_with fail
           refine(kM _ _).mono ?_;rw[show aH 37=false by decide];rintro e w1 ⟨rfl,rfl⟩;go_wp2_with fail
           refine(kG (HA.out.drew n) hs 37 (by omega) jB.out).mono ?_;rintro e w3 ⟨rfl,ha,hg⟩;have hz3:w.heap.size+1<=w3.heap.size:=by have:=hg.size;simp at this;omega
           have HR3:=hh9 (bG (W:=(w.alloc (.cells #[.int .i64 0,.string ⟨#[]⟩,.slice none 0 0,.int .i64 0,.int .i64 0,.slice none 0 0] 29)).drewN n) HR.out hg (by omega));have aG:=hh9 ((bY HG.out n).trans hg);have aC:=hh9 ha;clear ha hg HR HG HA;go_wp2_with fail
           refine(dQ aC.out hs hlt).mono ?_;rw[gY.out];rintro e w4 ⟨rfl,n2,rfl⟩;go_wp2_with fail
           refine(kG (aC.out.drew n2) hs 83 (by omega) HV.out).mono ?_;rintro e w4 ⟨rfl,ha,hg⟩;have dF:w.heap.size+1<=w4.heap.size:=by have:=hg.size;exact zbH hz3 this
           have HR4:=hh9 (bG (W:=w3.drewN n2) HR3.out hg (by omega));have bD:=hh9 ((bY aG.out n2).trans hg);have bf:=hh9 ha;clear ha hg HR3 aG aC;go_wp2_with fail
           refine(AU bf.out hs (by omega)).mono ?_;rw[HQ.out];rintro e w5 ⟨rfl,hg⟩;have dR:=hh9 (bD.out.trans hg);clear hg;go_wp2_with fail
           exact⟨rfl,_,.jl jB.out HK.out HQ.out,rfl,dR.out⟩
          |ok x q =>
           have HQ:=hh9 hq;have HX:=hh9 (Kq hq);clear hq;go_enter Tryz.func185,Tryz.ntmps185;go_wp2_with fail
           refine(dQ HA.out hs hp).mono ?_;rw[HN.out];rintro e w1 ⟨rfl,n,rfl⟩;go_wp2_with fail
           refine(kM _ _).mono ?_;rw[show aH 37=false by decide];rintro e w1 ⟨rfl,rfl⟩;go_wp2_with fail
           refine(kG (HA.out.drew n) hs 37 (by omega) jB.out).mono ?_;rintro e w3 ⟨rfl,ha,hg⟩;have hz3:w.heap.size+1<=w3.heap.size:=by have:=hg.size;simp at this;omega
           have HR3:=hh9 (bG (W:=(w.alloc (.cells #[.int .i64 0,.string ⟨#[]⟩,.slice none 0 0,.int .i64 0,.int .i64 0,.slice none 0 0] 29)).drewN n) HR.out hg (by omega));have aG:=hh9 ((bY HG.out n).trans hg);have aC:=hh9 ha;clear ha hg HR HG HA;go_wp2_with fail
           refine(dQ aC.out hs hlt).mono ?_;rw[gY.out];rintro e w4 ⟨rfl,n2,rfl⟩;go_wp2_with fail
           refine(kG (aC.out.drew n2) hs 83 (by omega) HV.out).mono ?_;rintro e w4 ⟨rfl,ha,hg⟩;have dF:w.heap.size+1<=w4.heap.size:=by have:=hg.size;exact zbH hz3 this
           have HR4:=hh9 (bG (W:=w3.drewN n2) HR3.out hg (by omega));have bD:=hh9 ((bY aG.out n2).trans hg);have bf:=hh9 ha;clear ha hg HR3 aG aC;go_wp2_with fail
           refine(AU bf.out hs (by omega)).mono ?_;rw[HQ.out];rintro e w2 ⟨aR,rfl,ha,hg⟩;have hz2:w.heap.size+1<=w2.heap.size:=by have:=hg.size;omega
           have HR2:=hh9 (bG HR4.out hg (by omega));have HG2:=hh9 (bD.out.trans hg);have HA2:=hh9 ha;have aP:Hid (aK (rd s) .elem d p (.ok (mU x true) q)):=.mq jB.out HK.out HQ.out;clear ha hg;go_wp2_with fail
           refine(Ox true HX.out.1 (by have:=HX.out.2;omega)).mono ?_;rintro e w3 ⟨y,ht,rfl,hb⟩;have H2:=hh9 (fq ht);have H5:=hh9 (eU ht);have HR3:=hh9 (HR2.out.kept (hb.block _ HR2.out.lt));have aC:=hh9 (HA2.out.below hb);have aG:=hh9 (dw HG2.out hb);have HT:=hh9 (ht.weak (P':=fun b=>w.heap.size+1<=b) (fun b hP _=>by omega));clear ht hb;go_wp2_with (refine bA rfl _ _ rfl w.heap.size y rfl rfl HR3.out H2.out H5.out ?_)
           refine bodyPost_ret_by (zag rfl _ _ w.heap.size y rfl HR3.out) rfl ⟨_,aP.out,y,?_,aR,rfl,aC.out.aj (by omega) _,dY aG.out (zbA _) _⟩;exact(HT.out.aj (fun b hb=>by omega) _).weak (fun b hb _=>by omega)
         ·by_cases Oy:rd s (p+1)=98
          ·have hv:=Oy;clear Oy;have HV:=hh9 hv;have HK:Hid (kP (rd s (p+1))=.base 2):=by rw[hv];exact rfl
           have gY:=hh9 (vS (by omega) hv);have hlt2:=fP (by omega) hv;clear hv;go_enter Tryz.func185,Tryz.ntmps185;go_wp2_with fail
           refine(dQ HA.out hs hp).mono ?_;rw[HN.out];rintro e w1 ⟨rfl,n,rfl⟩;go_wp2_with fail
           refine(kM _ _).mono ?_;rw[show aH 37=false by decide];rintro e w1 ⟨rfl,rfl⟩;go_wp2_with fail
           refine(kG (HA.out.drew n) hs 37 (by omega) jB.out).mono ?_;rintro e w3 ⟨rfl,ha,hg⟩;have hz3:w.heap.size+1<=w3.heap.size:=by have:=hg.size;simp at this;omega
           have HR3:=hh9 (bG (W:=(w.alloc (.cells #[.int .i64 0,.string ⟨#[]⟩,.slice none 0 0,.int .i64 0,.int .i64 0,.slice none 0 0] 29)).drewN n) HR.out hg (by omega));have aG:=hh9 ((bY HG.out n).trans hg);have aC:=hh9 ha;clear ha hg HR HG HA;go_wp2_with fail
           refine(dQ aC.out hs hlt).mono ?_;rw[gY.out];rintro e w4 ⟨rfl,n2,rfl⟩;go_wp2_with fail
           refine(kG (aC.out.drew n2) hs 98 (by omega) HV.out).mono ?_;rintro e w4 ⟨rfl,ha,hg⟩;have dF:w.heap.size+1<=w4.heap.size:=by have:=hg.size;exact zbH hz3 this
           have HR4:=hh9 (bG (W:=w3.drewN n2) HR3.out hg (by omega));have bD:=hh9 ((bY aG.out n2).trans hg);have bf:=hh9 ha;clear ha hg HR3 aG aC;go_wp2_with fail
           refine(Ik 2 (by omega) bf.out hs (by omega)).mono ?_;rintro e w2 ⟨r,aD,hgv⟩;have aP:Hid (aK (rd s) .elem d p r):=.value jB.out HK.out aD;clear aD
           cases r with
           |err c =>
            obtain⟨rfl,hg⟩:=hgv;have HG2:=hh9 ((bD.out).trans hg);clear hg;go_wp2_with fail
            exact⟨rfl,_,aP.out,rfl,HG2.out⟩
           |ok t q =>
            obtain⟨x,ht,aR,rfl,ha,hg⟩:=hgv;have h2:=fq ht;have h5:=eU ht;have H2:=hh9 h2;have H5:=hh9 h5;have hz2:w.heap.size+1<=w2.heap.size:=by have:=hg.size;have:=dF;simp at *;omega
            have HR2:=hh9 (bG (W:=w4) HR4.out hg (by omega));have HG2:=hh9 ((bD.out).trans hg);have HA2:=hh9 ha;have HT:=hh9 (ht.weak (P':=fun b=>w.heap.size+1<=b) (fun b hP _=>by have:=dF;simp at *;omega));clear ha hg ht h2 h5;go_wp2_with (refine bA rfl _ _ rfl w.heap.size x rfl rfl HR2.out H2.out H5.out ?_)
            refine bodyPost_ret_by (zag rfl _ _ w.heap.size x rfl HR2.out) rfl ⟨_,aP.out,x,?_,aR,rfl,HA2.out.aj (by omega) _,dY HG2.out (zbA _) _⟩;exact(HT.out.aj (fun b hb=>by omega) _).weak (fun b hb _=>by omega)
          ·by_cases v66:rd s (p+1)=66
           ·have hv:=v66;clear v66;have HV:=hh9 hv;have HK:Hid (kP (rd s (p+1))=.base 2):=by rw[hv];exact rfl
            have gY:=hh9 (vS (by omega) hv);have hlt2:=fP (by omega) hv;clear hv;go_enter Tryz.func185,Tryz.ntmps185;go_wp2_with fail
            refine(dQ HA.out hs hp).mono ?_;rw[HN.out];rintro e w1 ⟨rfl,n,rfl⟩;go_wp2_with fail
            refine(kM _ _).mono ?_;rw[show aH 37=false by decide];rintro e w1 ⟨rfl,rfl⟩;go_wp2_with fail
            refine(kG (HA.out.drew n) hs 37 (by omega) jB.out).mono ?_;rintro e w3 ⟨rfl,ha,hg⟩;have hz3:w.heap.size+1<=w3.heap.size:=by have:=hg.size;simp at this;omega
            have HR3:=hh9 (bG (W:=(w.alloc (.cells #[.int .i64 0,.string ⟨#[]⟩,.slice none 0 0,.int .i64 0,.int .i64 0,.slice none 0 0] 29)).drewN n) HR.out hg (by omega));have aG:=hh9 ((bY HG.out n).trans hg);have aC:=hh9 ha;clear ha hg HR HG HA;go_wp2_with fail
            refine(dQ aC.out hs hlt).mono ?_;rw[gY.out];rintro e w4 ⟨rfl,n2,rfl⟩;go_wp2_with fail
            refine(kG (aC.out.drew n2) hs 66 (by omega) HV.out).mono ?_;rintro e w4 ⟨rfl,ha,hg⟩;have dF:w.heap.size+1<=w4.heap.size:=by have:=hg.size;exact zbH hz3 this
            have HR4:=hh9 (bG (W:=w3.drewN n2) HR3.out hg (by omega));have bD:=hh9 ((bY aG.out n2).trans hg);have bf:=hh9 ha;clear ha hg HR3 aG aC;go_wp2_with fail
            refine(Ik 2 (by omega) bf.out hs (by omega)).mono ?_;rintro e w2 ⟨r,aD,hgv⟩;have aP:Hid (aK (rd s) .elem d p r):=.value jB.out HK.out aD;clear aD
            cases r with
            |err c =>
             obtain⟨rfl,hg⟩:=hgv;have HG2:=hh9 ((bD.out).trans hg);clear hg;go_wp2_with fail
             exact⟨rfl,_,aP.out,rfl,HG2.out⟩
            |ok t q =>
             obtain⟨x,ht,aR,rfl,ha,hg⟩:=hgv;have h2:=fq ht;have h5:=eU ht;have H2:=hh9 h2;have H5:=hh9 h5;have hz2:w.heap.size+1<=w2.heap.size:=by have:=hg.size;have:=dF;simp at *;omega
             have HR2:=hh9 (bG (W:=w4) HR4.out hg (by omega));have HG2:=hh9 ((bD.out).trans hg);have HA2:=hh9 ha;have HT:=hh9 (ht.weak (P':=fun b=>w.heap.size+1<=b) (fun b hP _=>by have:=dF;simp at *;omega));clear ha hg ht h2 h5;go_wp2_with (refine bA rfl _ _ rfl w.heap.size x rfl rfl HR2.out H2.out H5.out ?_)
             refine bodyPost_ret_by (zag rfl _ _ w.heap.size x rfl HR2.out) rfl ⟨_,aP.out,x,?_,aR,rfl,HA2.out.aj (by omega) _,dY HG2.out (zbA _) _⟩;exact(HT.out.aj (fun b hb=>by omega) _).weak (fun b hb _=>by omega)
           ·by_cases Ck:rd s (p+1)=100
            ·have hv:=Ck;clear Ck;have HV:=hh9 hv;have HK:Hid (kP (rd s (p+1))=.base 10):=by rw[hv];exact rfl
             have gY:=hh9 (vS (by omega) hv);have hlt2:=fP (by omega) hv;clear hv;go_enter Tryz.func185,Tryz.ntmps185;go_wp2_with fail
             refine(dQ HA.out hs hp).mono ?_;rw[HN.out];rintro e w1 ⟨rfl,n,rfl⟩;go_wp2_with fail
             refine(kM _ _).mono ?_;rw[show aH 37=false by decide];rintro e w1 ⟨rfl,rfl⟩;go_wp2_with fail
             refine(kG (HA.out.drew n) hs 37 (by omega) jB.out).mono ?_;rintro e w3 ⟨rfl,ha,hg⟩;have hz3:w.heap.size+1<=w3.heap.size:=by have:=hg.size;simp at this;omega
             have HR3:=hh9 (bG (W:=(w.alloc (.cells #[.int .i64 0,.string ⟨#[]⟩,.slice none 0 0,.int .i64 0,.int .i64 0,.slice none 0 0] 29)).drewN n) HR.out hg (by omega));have aG:=hh9 ((bY HG.out n).trans hg);have aC:=hh9 ha;clear ha hg HR HG HA;go_wp2_with fail
             refine(dQ aC.out hs hlt).mono ?_;rw[gY.out];rintro e w4 ⟨rfl,n2,rfl⟩;go_wp2_with fail
             refine(kG (aC.out.drew n2) hs 100 (by omega) HV.out).mono ?_;rintro e w4 ⟨rfl,ha,hg⟩;have dF:w.heap.size+1<=w4.heap.size:=by have:=hg.size;exact zbH hz3 this
             have HR4:=hh9 (bG (W:=w3.drewN n2) HR3.out hg (by omega));have bD:=hh9 ((bY aG.out n2).trans hg);have bf:=hh9 ha;clear ha hg HR3 aG aC;go_wp2_with fail
             refine(Ik 10 (by omega) bf.out hs (by omega)).mono ?_;rintro e w2 ⟨r,aD,hgv⟩;have aP:Hid (aK (rd s) .elem d p r):=.value jB.out HK.out aD;clear aD
             cases r with
             |err c =>
              obtain⟨rfl,hg⟩:=hgv;have HG2:=hh9 ((bD.out).trans hg);clear hg;go_wp2_with fail
              exact⟨rfl,_,aP.out,rfl,HG2.out⟩
             |ok t q =>
              obtain⟨x,ht,aR,rfl,ha,hg⟩:=hgv;have h2:=fq ht;have h5:=eU ht;have H2:=hh9 h2;have H5:=hh9 h5;have hz2:w.heap.size+1<=w2.heap.size:=by have:=hg.size;have:=dF;simp at *;omega
              have HR2:=hh9 (bG (W:=w4) HR4.out hg (by omega));have HG2:=hh9 ((bD.out).trans hg);have HA2:=hh9 ha;have HT:=hh9 (ht.weak (P':=fun b=>w.heap.size+1<=b) (fun b hP _=>by have:=dF;simp at *;omega));clear ha hg ht h2 h5;go_wp2_with (refine bA rfl _ _ rfl w.heap.size x rfl rfl HR2.out H2.out H5.out ?_)
              refine bodyPost_ret_by (zag rfl _ _ w.heap.size x rfl HR2.out) rfl ⟨_,aP.out,x,?_,aR,rfl,HA2.out.aj (by omega) _,dY HG2.out (zbA _) _⟩;exact(HT.out.aj (fun b hb=>by omega) _).weak (fun b hb _=>by omega)
            ·by_cases v68:rd s (p+1)=68
             ·have hv:=v68;clear v68;have HV:=hh9 hv;have HK:Hid (kP (rd s (p+1))=.base 10):=by rw[hv];exact rfl
              have gY:=hh9 (vS (by omega) hv);have hlt2:=fP (by omega) hv;clear hv;go_enter Tryz.func185,Tryz.ntmps185;go_wp2_with fail
              refine(dQ HA.out hs hp).mono ?_;rw[HN.out];rintro e w1 ⟨rfl,n,rfl⟩;go_wp2_with fail
              refine(kM _ _).mono ?_;rw[show aH 37=false by decide];rintro e w1 ⟨rfl,rfl⟩;go_wp2_with fail
              refine(kG (HA.out.drew n) hs 37 (by omega) jB.out).mono ?_;rintro e w3 ⟨rfl,ha,hg⟩;have hz3:w.heap.size+1<=w3.heap.size:=by have:=hg.size;simp at this;omega
              have HR3:=hh9 (bG (W:=(w.alloc (.cells #[.int .i64 0,.string ⟨#[]⟩,.slice none 0 0,.int .i64 0,.int .i64 0,.slice none 0 0] 29)).drewN n) HR.out hg (by omega));have aG:=hh9 ((bY HG.out n).trans hg);have aC:=hh9 ha;clear ha hg HR HG HA;go_wp2_with fail
              refine(dQ aC.out hs hlt).mono ?_;rw[gY.out];rintro e w4 ⟨rfl,n2,rfl⟩;go_wp2_with fail
              refine(kG (aC.out.drew n2) hs 68 (by omega) HV.out).mono ?_;rintro e w4 ⟨rfl,ha,hg⟩;have dF:w.heap.size+1<=w4.heap.size:=by have:=hg.size;exact zbH hz3 this
              have HR4:=hh9 (bG (W:=w3.drewN n2) HR3.out hg (by omega));have bD:=hh9 ((bY aG.out n2).trans hg);have bf:=hh9 ha;clear ha hg HR3 aG aC;go_wp2_with fail
              refine(Ik 10 (by omega) bf.out hs (by omega)).mono ?_;rintro e w2 ⟨r,aD,hgv⟩;have aP:Hid (aK (rd s) .elem d p r):=.value jB.out HK.out aD;clear aD
              cases r with
              |err c =>
               obtain⟨rfl,hg⟩:=hgv;have HG2:=hh9 ((bD.out).trans hg);clear hg;go_wp2_with fail
               exact⟨rfl,_,aP.out,rfl,HG2.out⟩
              |ok t q =>
               obtain⟨x,ht,aR,rfl,ha,hg⟩:=hgv;have h2:=fq ht;have h5:=eU ht;have H2:=hh9 h2;have H5:=hh9 h5;have hz2:w.heap.size+1<=w2.heap.size:=by have:=hg.size;have:=dF;simp at *;omega
               have HR2:=hh9 (bG (W:=w4) HR4.out hg (by omega));have HG2:=hh9 ((bD.out).trans hg);have HA2:=hh9 ha;have HT:=hh9 (ht.weak (P':=fun b=>w.heap.size+1<=b) (fun b hP _=>by have:=dF;simp at *;omega));clear ha hg ht h2 h5;go_wp2_with (refine bA rfl _ _ rfl w.heap.size x rfl rfl HR2.out H2.out H5.out ?_)
               refine bodyPost_ret_by (zag rfl _ _ w.heap.size x rfl HR2.out) rfl ⟨_,aP.out,x,?_,aR,rfl,HA2.out.aj (by omega) _,dY HG2.out (zbA _) _⟩;exact(HT.out.aj (fun b hb=>by omega) _).weak (fun b hb _=>by omega)
             ·by_cases Cm:rd s (p+1)=120
              ·have hv:=Cm;clear Cm;have HV:=hh9 hv;have HK:Hid (kP (rd s (p+1))=.base 16):=by rw[hv];exact rfl
               have gY:=hh9 (vS (by omega) hv);have hlt2:=fP (by omega) hv;clear hv;go_enter Tryz.func185,Tryz.ntmps185;go_wp2_with fail
               refine(dQ HA.out hs hp).mono ?_;rw[HN.out];rintro e w1 ⟨rfl,n,rfl⟩;go_wp2_with fail
               refine(kM _ _).mono ?_;rw[show aH 37=false by decide];rintro e w1 ⟨rfl,rfl⟩;go_wp2_with fail
               refine(kG (HA.out.drew n) hs 37 (by omega) jB.out).mono ?_;rintro e w3 ⟨rfl,ha,hg⟩;have hz3:w.heap.size+1<=w3.heap.size:=by have:=hg.size;simp at this;omega
               have HR3:=hh9 (bG (W:=(w.alloc (.cells #[.int .i64 0,.string ⟨#[]⟩,.slice none 0 0,.int .i64 0,.int .i64 0,.slice none 0 0] 29)).drewN n) HR.out hg (by omega));have aG:=hh9 ((bY HG.out n).trans hg);have aC:=hh9 ha;clear ha hg HR HG HA;go_wp2_with fail
               refine(dQ aC.out hs hlt).mono ?_;rw[gY.out];rintro e w4 ⟨rfl,n2,rfl⟩;go_wp2_with fail
               refine(uP (aC.out.drew n2) hs 120 (by omega) HV.out).mono ?_;rintro e w4 ⟨rfl,ha,hg⟩;have dF:w.heap.size+1<=w4.heap.size:=by have:=hg.size;exact zbH hz3 this
               have HR4:=hh9 (bG (W:=w3.drewN n2) HR3.out hg (by omega));have bD:=hh9 ((bY aG.out n2).trans hg);have bf:=hh9 ha;clear ha hg HR3 aG aC;go_wp2_with fail
               refine(Ik 16 (by omega) bf.out hs (by omega)).mono ?_;rintro e w2 ⟨r,aD,hgv⟩;have aP:Hid (aK (rd s) .elem d p r):=.value jB.out HK.out aD;clear aD
               cases r with
               |err c =>
                obtain⟨rfl,hg⟩:=hgv;have HG2:=hh9 ((bD.out).trans hg);clear hg;go_wp2_with fail
                exact⟨rfl,_,aP.out,rfl,HG2.out⟩
               |ok t q =>
                obtain⟨x,ht,aR,rfl,ha,hg⟩:=hgv;have h2:=fq ht;have h5:=eU ht;have H2:=hh9 h2;have H5:=hh9 h5;have hz2:w.heap.size+1<=w2.heap.size:=by have:=hg.size;have:=dF;simp at *;omega
                have HR2:=hh9 (bG (W:=w4) HR4.out hg (by omega));have HG2:=hh9 ((bD.out).trans hg);have HA2:=hh9 ha;have HT:=hh9 (ht.weak (P':=fun b=>w.heap.size+1<=b) (fun b hP _=>by have:=dF;simp at *;omega));clear ha hg ht h2 h5;go_wp2_with (refine bA rfl _ _ rfl w.heap.size x rfl rfl HR2.out H2.out H5.out ?_)
                refine bodyPost_ret_by (zag rfl _ _ w.heap.size x rfl HR2.out) rfl ⟨_,aP.out,x,?_,aR,rfl,HA2.out.aj (by omega) _,dY HG2.out (zbA _) _⟩;exact(HT.out.aj (fun b hb=>by omega) _).weak (fun b hb _=>by omega)
              ·by_cases Oz:rd s (p+1)=88
               ·have hv:=Oz;clear Oz;have HV:=hh9 hv;have HK:Hid (kP (rd s (p+1))=.base 16):=by rw[hv];exact rfl
                have gY:=hh9 (vS (by omega) hv);have hlt2:=fP (by omega) hv;have HNV:Hid (rd s (p+1)≠120):=by rw[hv];exact(by omega:(88:Int)≠120)
                clear hv;go_enter Tryz.func185,Tryz.ntmps185;go_wp2_with fail
                refine(dQ HA.out hs hp).mono ?_;rw[HN.out];rintro e w1 ⟨rfl,n,rfl⟩;go_wp2_with fail
                refine(kM _ _).mono ?_;rw[show aH 37=false by decide];rintro e w1 ⟨rfl,rfl⟩;go_wp2_with fail
                refine(kG (HA.out.drew n) hs 37 (by omega) jB.out).mono ?_;rintro e w3 ⟨rfl,ha,hg⟩;have hz3:w.heap.size+1<=w3.heap.size:=by have:=hg.size;simp at this;omega
                have HR3:=hh9 (bG (W:=(w.alloc (.cells #[.int .i64 0,.string ⟨#[]⟩,.slice none 0 0,.int .i64 0,.int .i64 0,.slice none 0 0] 29)).drewN n) HR.out hg (by omega));have aG:=hh9 ((bY HG.out n).trans hg);have aC:=hh9 ha;clear ha hg HR HG HA;go_wp2_with fail
                refine(dQ aC.out hs hlt).mono ?_;rw[gY.out];rintro e w4 ⟨rfl,n2,rfl⟩;go_wp2_with fail
                refine(tT (aC.out.drew n2) hs hlt 120 (by omega) HNV.out).mono ?_;rintro e w5 ⟨rfl,ha,hg⟩;have rT:w.heap.size+1<=w5.heap.size:=by have:=hg.size;exact zbH hz3 this
                have fT:=hh9 (bG (W:=w3.drewN n2) HR3.out hg (by omega));have dR:=hh9 ((bY aG.out n2).trans hg);have bQ:=hh9 ha;clear ha hg HR3 aG aC;go_wp2_with fail
                refine(kG bQ.out hs 88 (by omega) HV.out).mono ?_;rintro e w4 ⟨rfl,ha,hg⟩;have dF:w.heap.size+1<=w4.heap.size:=by have:=hg.size;omega
                have HR4:=hh9 (bG fT.out hg (by omega));have bD:=hh9 (dR.out.trans hg);have bf:=hh9 ha;clear ha hg fT dR bQ;go_wp2_with fail
                refine(Ik 16 (by omega) bf.out hs (by omega)).mono ?_;rintro e w2 ⟨r,aD,hgv⟩;have aP:Hid (aK (rd s) .elem d p r):=.value jB.out HK.out aD;clear aD
                cases r with
                |err c =>
                 obtain⟨rfl,hg⟩:=hgv;have HG2:=hh9 ((bD.out).trans hg);clear hg;go_wp2_with fail
                 exact⟨rfl,_,aP.out,rfl,HG2.out⟩
                |ok t q =>
                 obtain⟨x,ht,aR,rfl,ha,hg⟩:=hgv;have h2:=fq ht;have h5:=eU ht;have H2:=hh9 h2;have H5:=hh9 h5;have hz2:w.heap.size+1<=w2.heap.size:=by have:=hg.size;have:=dF;simp at *;omega
                 have HR2:=hh9 (bG (W:=w4) HR4.out hg (by omega));have HG2:=hh9 ((bD.out).trans hg);have HA2:=hh9 ha;have HT:=hh9 (ht.weak (P':=fun b=>w.heap.size+1<=b) (fun b hP _=>by have:=dF;simp at *;omega));clear ha hg ht h2 h5;go_wp2_with (refine bA rfl _ _ rfl w.heap.size x rfl rfl HR2.out H2.out H5.out ?_)
                 refine bodyPost_ret_by (zag rfl _ _ w.heap.size x rfl HR2.out) rfl ⟨_,aP.out,x,?_,aR,rfl,HA2.out.aj (by omega) _,dY HG2.out (zbA _) _⟩;exact(HT.out.aj (fun b hb=>by omega) _).weak (fun b hb _=>by omega)
               ·have HK:Hid (kP (rd s (p+1))=.none):=zra (fun c hc he=>by
                 rcases hc with rfl|rfl|rfl|rfl|rfl|rfl|rfl|rfl|rfl|rfl<;>contradiction)
                have f105:(nx (rd s) (p+1)==105)=false:=by simp;exact fun h=>v105 ((sK (by omega)).1 h)
                have f73:(nx (rd s) (p+1)==73)=false:=by simp;exact fun h=>v73 ((sK (by omega)).1 h)
                have f115:(nx (rd s) (p+1)==115)=false:=by simp;exact fun h=>Cj ((sK (by omega)).1 h)
                have f83:(nx (rd s) (p+1)==83)=false:=by simp;exact fun h=>v83 ((sK (by omega)).1 h)
                have f98:(nx (rd s) (p+1)==98)=false:=by simp;exact fun h=>Oy ((sK (by omega)).1 h)
                have f66:(nx (rd s) (p+1)==66)=false:=by simp;exact fun h=>v66 ((sK (by omega)).1 h)
                have f100:(nx (rd s) (p+1)==100)=false:=by simp;exact fun h=>Ck ((sK (by omega)).1 h)
                have f68:(nx (rd s) (p+1)==68)=false:=by simp;exact fun h=>v68 ((sK (by omega)).1 h)
                have Kh:=hh9 Cm;have wL:=hh9 Oz;clear v105 v73 Cj v83 Oy v66 Ck v68 Cm Oz;go_enter Tryz.func185,Tryz.ntmps185;go_wp2_with fail
                refine(dQ HA.out hs hp).mono ?_;rw[HN.out];rintro e w1 ⟨rfl,n,rfl⟩;go_wp2_with fail
                refine(kM _ _).mono ?_;rw[show aH 37=false by decide];rintro e w1 ⟨rfl,rfl⟩;go_wp2_with fail
                refine(kG (HA.out.drew n) hs 37 (by omega) jB.out).mono ?_;rintro e w3 ⟨rfl,ha,hg⟩;have hz3:w.heap.size+1<=w3.heap.size:=by have:=hg.size;simp at this;omega
                have HR3:=hh9 (bG (W:=(w.alloc (.cells #[.int .i64 0,.string ⟨#[]⟩,.slice none 0 0,.int .i64 0,.int .i64 0,.slice none 0 0] 29)).drewN n) HR.out hg (by omega));have aG:=hh9 ((bY HG.out n).trans hg);have aC:=hh9 ha;clear ha hg HR HG HA;go_wp2_with fail
                refine(dQ aC.out hs hlt).mono ?_;rintro e w4 ⟨rfl,n2,rfl⟩;go_wp2_with fail
                refine(tT (aC.out.drew n2) hs hlt 120 (by omega) Kh.out).mono ?_;rintro e w5 ⟨rfl,ha,hg⟩;have dR:=hh9 ((bY aG.out n2).trans hg);have bQ:=hh9 ha;clear ha hg HR3 aG aC;go_wp2_with fail
                refine(Ig bQ.out hs hlt 88 (by omega) wL.out).mono ?_;rintro e w4 ⟨rfl,hg⟩;have bD:=hh9 (dR.out.trans hg);clear hg;go_wp2_with fail
                exact⟨rfl,_,.kD jB.out HK.out,rfl,bD.out⟩
     ·have e1:(nx (rd s) p==40)=false:=by simp;exact fun h=>kT ((sK (by omega)).1 h)
      have e2:(nx (rd s) p==91)=false:=by simp;exact fun h=>pY ((sK (by omega)).1 h)
      have e3:(nx (rd s) p==34)=false:=by simp;exact fun h=>fI ((sK (by omega)).1 h)
      have jB:=hh9 h37;have aP:Hid (aK (rd s) .elem d p (.err 20)):=.no hal kT pY fI h37;have rE:=hh9 (Ol.trans hal);clear kT hal pY fI h37;go_enter Tryz.func185,Tryz.ntmps185;go_wp2_with fail
      refine(dQ HA.out hs hp).mono ?_;rintro e w1 ⟨rfl,n,rfl⟩;go_wp2_with fail
      refine(kM _ _).mono ?_;rw[rE.out];rintro e w1 ⟨rfl,rfl⟩;go_wp2_with fail
      refine(Ig (HA.out.drew n) hs hp 37 (by omega) jB.out).mono ?_;rintro e w2 ⟨rfl,hg⟩;have HG2:=hh9 ((bY HG.out n).trans hg);clear hg;go_wp2_with fail
      exact⟨rfl,_,aP.out,rfl,HG2.out⟩
 ·have rE:=hh9 (Ol.trans hal);have kN:=hh9 hal;clear hal
  cases hn:lU (rd s) p with
  |err c =>
   have HE:=hh9 hn;clear hn;go_enter Tryz.func185,Tryz.ntmps185;go_wp2_with fail
   refine(dQ HA.out hs hp).mono ?_;rintro e w1 ⟨rfl,n,rfl⟩;go_wp2_with fail
   refine(kM _ _).mono ?_;rw[rE.out];rintro e w1 ⟨rfl,rfl⟩;go_wp2_with fail
   refine(Ow (HA.out.drew n) hs hp).mono ?_;rw[HE.out];rintro e w2 ⟨rfl,hg⟩;have HG2:=hh9 ((bY HG.out n).trans hg);clear hg;go_wp2_with fail
   exact⟨rfl,_,.l9 kN.out HE.out,rfl,HG2.out⟩
  |ok x q =>
   have HE:=hh9 hn;clear hn;go_enter Tryz.func185,Tryz.ntmps185;go_wp2_with fail
   refine(dQ HA.out hs hp).mono ?_;rintro e w1 ⟨rfl,n,rfl⟩;go_wp2_with fail
   refine(kM _ _).mono ?_;rw[rE.out];rintro e w1 ⟨rfl,rfl⟩;go_wp2_with fail
   refine(Ow (HA.out.drew n) hs hp).mono ?_;rw[HE.out];rintro e w2 ⟨aR,rfl,ha,hg⟩;have hz2:w.heap.size+1<=w2.heap.size:=by have:=hg.size;simp at this;omega
   have HR2:=hh9 (bG (W:=(w.alloc (.cells #[.int .i64 0,.string ⟨#[]⟩,.slice none 0 0,.int .i64 0,.int .i64 0,.slice none 0 0] 29)).drewN n) HR.out hg (by omega));have HG2:=hh9 ((bY HG.out n).trans hg);have HA2:=hh9 ha;clear ha hg;go_wp2_with (refine bA rfl _ _ rfl w.heap.size ⟨4,ak x,.slice none 0 0,0,0,.slice none 0 0⟩ rfl rfl HR2.out rfl rfl ?_)
   refine bodyPost_ret_by (zag rfl _ _ w.heap.size ⟨4,ak x,.slice none 0 0,0,0,.slice none 0 0⟩ rfl HR2.out) rfl ⟨_,.mV kN.out HE.out,_,?_,aR,rfl,HA2.out.aj (by omega) _,dY HG2.out (zbA _) _⟩;exact Ah _ _ _ _ _ _
end Go.Proofs.YtahibnnhjahmnaaGreatDoor
