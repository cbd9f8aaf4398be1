/- Part 17 of what the laws of the grammar rest on. -/
import Derived.Test.YtekjnfldgjcgeaaGreatDoorA13
import Derived.Test.YtekjnfldgjcgeaaGreatDoorA16
set_option linter.all false
set_option maxRecDepth 100000
set_option maxHeartbeats 8000000
namespace Go.Proofs.YtekjnfldgjcgeaaGreatDoor
open Go.RowKit
theorem zw1 {k:Nat} (hel:∀ k',k'<k->zgu 140 .alts k'):zgu 183 .elem k:=by
 intro R p d s w h hs hp hd hk
 have hR:=h.lt
 have HR:=hh9 (zav w)
 have HA:=hh9 (h.alloc (.cells #[.int .i64 0,.string ⟨#[]⟩,.slice none 0 0,.int .i64 0,.int .i64 0,.slice none 0 0] 35))
 have HG:=hh9 (World.grownBy_alloc w (.cells #[.int .i64 0,.string ⟨#[]⟩,.slice none 0 0,.int .i64 0,.int .i64 0,.slice none 0 0] 35) (some R))
 have HEL:Hid (∀ k',k'<s.size-p->zgu 140 .alts k'):=fun k' hk'=>hel k' (by omega)
 have hr:=zcu s p
 clear h hel
 cases hal:isAl (rd s p)
 ·by_cases h40:rd s p=40
  ·have H40:=hh9 h40
   have HN:=hh9 (zh7 (by omega) h40)
   clear h40 hal
   go_enter Tryz.func183,Tryz.ntmps183
   go_wp2_with fail
   refine (zag HA.out hs hp).mono ?_
   rw [HN.out]
   rintro e w1 ⟨rfl,n,rfl⟩
   go_wp2_with fail
   refine (zaw _ _).mono ?_
   rw [show isAl 40=false by decide]
   rintro e w1 ⟨rfl,rfl⟩
   go_wp2_with fail
   refine (zha 40 41 (by omega) (by omega) HEL.out (HA.out.drew n) hs hd H40.out).mono ?_
   rintro e w2 ⟨r,hb,hgv⟩
   have HANS:=hh9 (zmz H40.out hb)
   clear hb
   cases r with
   | err c =>
    obtain ⟨rfl,hg⟩:=hgv
    have HG2:=hh9 ((za5 HG.out n).trans hg)
    clear hg
    go_wp2_with fail
    exact ⟨rfl,_,HANS.out,rfl,HG2.out⟩
   | ok t q =>
    obtain ⟨x,ht,hqs,rfl,ha,hg⟩:=hgv
    have h2:=zaa ht
    have h5:=zab ht
    have H2:=hh9 h2
    have H5:=hh9 h5
    have hz2:w.heap.size+1<=w2.heap.size:=by have:=hg.size;have:=hR;simp at *;omega
    have HR2:=hh9 (za8 (W:=(w.alloc (.cells #[.int .i64 0,.string ⟨#[]⟩,.slice none 0 0,.int .i64 0,.int .i64 0,.slice none 0 0] 35)).drewN n) HR.out hg (by omega))
    have HG2:=hh9 ((za5 HG.out n).trans hg)
    have HA2:=hh9 ha
    have HT:=hh9 (ht.weak (P':=fun b=>w.heap.size+1<=b) (fun b hP _=>by have:=hR;simp at *;omega))
    clear ha hg ht h2 h5
    go_wp2_with (refine za6 rfl _ _ rfl w.heap.size x rfl rfl HR2.out H2.out H5.out ?_)
    refine bodyPost_ret_by (zaj rfl _ _ w.heap.size x rfl HR2.out) rfl ⟨_,HANS.out,x,?_,hqs,rfl,HA2.out.set_row (by omega) _,zae HG2.out (Nat.le_refl _) _⟩
    exact (HT.out.set_row (fun b hb=>by omega) _).weak (fun b hb _=>by omega)
  ·by_cases h91:rd s p=91
   ·have H91:=hh9 h91
    have HN:=hh9 (zh7 (by omega) h91)
    clear h40 hal h91
    go_enter Tryz.func183,Tryz.ntmps183
    go_wp2_with fail
    refine (zag HA.out hs hp).mono ?_
    rw [HN.out]
    rintro e w1 ⟨rfl,n,rfl⟩
    go_wp2_with fail
    refine (zaw _ _).mono ?_
    rw [show isAl 91=false by decide]
    rintro e w1 ⟨rfl,rfl⟩
    go_wp2_with fail
    refine (zha 91 93 (by omega) (by omega) HEL.out (HA.out.drew n) hs hd H91.out).mono ?_
    rintro e w2 ⟨r,hb,hgv⟩
    cases r with
    | err c =>
     obtain ⟨rfl,hg⟩:=hgv
     have HANS:=hh9 (zh6 H91.out hb)
     have HG2:=hh9 ((za5 HG.out n).trans hg)
     clear hb hg
     go_wp2_with fail
     exact ⟨rfl,_,HANS.out,rfl,HG2.out⟩
    | ok t q =>
     obtain ⟨x,ht,hqs,rfl,ha,hg⟩:=hgv
     have HANS:=hh9 (zim H91.out hb)
     have h2:=zaa ht
     have h5:=zab ht
     have H2:=hh9 h2
     have H5:=hh9 h5
     have hz2:w.heap.size+1<=w2.heap.size:=by have:=hg.size;simp at this;omega
     have HR2:=hh9 (zaz (za8 (W:=(w.alloc (.cells #[.int .i64 0,.string ⟨#[]⟩,.slice none 0 0,.int .i64 0,.int .i64 0,.slice none 0 0] 35)).drewN n) HR.out hg (by omega)) (.cells x.arr 35))
     have HG2:=hh9 (zao ((za5 HG.out n).trans hg) (.cells x.arr 35))
     have HA2:=hh9 (ha.alloc (.cells x.arr 35))
     have hkids:=zbq.one (W:=w2) (W':=w2.alloc (.cells x.arr 35)) (base:=w.heap.size+1) (g:=w2.heap.size) (ht.weak (fun b hP _=>by simp at hP;omega)) (Nat.le_refl _) hz2 (heap_alloc_new _ _) (fun b _ hl=>heap_alloc_old _ _ hl) (by simp)
     have HT:=hh9 (hkids.tree 3 0 1)
     clear hb ha hg ht h2 h5 hkids
     go_wp2_with (first
      | (refine zbc rfl _ rfl x rfl H2.out H5.out ?_)
      | (refine za6 rfl _ _ rfl w.heap.size ⟨3,⟨#[]⟩,.slice none 0 0,0,1,.slice (some ⟨w2.heap.size,0,none⟩) 1 1⟩ rfl rfl HR2.out rfl rfl ?_))
     refine bodyPost_ret_by (zaj rfl _ _ w.heap.size ⟨3,⟨#[]⟩,.slice none 0 0,0,1,.slice (some ⟨w2.heap.size,0,none⟩) 1 1⟩ rfl HR2.out) rfl ⟨_,HANS.out,_,?_,hqs,rfl,HA2.out.set_row (by omega) _,zae HG2.out (Nat.le_refl _) _⟩
     exact (HT.out.set_row (fun b hb=>by omega) _).weak (fun b hb _=>by omega)
   ·by_cases h34:rd s p=34
    ·have H34:=hh9 h34
     have HN:=hh9 (zh7 (by omega) h34)
     clear h40 hal h91 h34
     cases hq:zb2 (rd s) p with
     | err c =>
      have HQ:=hh9 hq
      clear hq
      go_enter Tryz.func183,Tryz.ntmps183
      go_wp2_with fail
      refine (zag HA.out hs hp).mono ?_
      rw [HN.out]
      rintro e w1 ⟨rfl,n,rfl⟩
      go_wp2_with fail
      refine (zaw _ _).mono ?_
      rw [show isAl 34=false by decide]
      rintro e w1 ⟨rfl,rfl⟩
      go_wp2_with fail
      refine (zcq (HA.out.drew n) hs hp).mono ?_
      rw [HQ.out]
      rintro e w2 ⟨rfl,hg⟩
      have HG2:=hh9 ((za5 HG.out n).trans hg)
      clear hg
      go_wp2_with fail
      exact ⟨rfl,_,.quoteErr H34.out HQ.out,rfl,HG2.out⟩
     | ok x q =>
      have HQ:=hh9 hq
      have HX:=hh9 (zen hq)
      clear hq
      go_enter Tryz.func183,Tryz.ntmps183
      go_wp2_with fail
      refine (zag HA.out hs hp).mono ?_
      rw [HN.out]
      rintro e w1 ⟨rfl,n,rfl⟩
      go_wp2_with fail
      refine (zaw _ _).mono ?_
      rw [show isAl 34=false by decide]
      rintro e w1 ⟨rfl,rfl⟩
      go_wp2_with fail
      refine (zcq (HA.out.drew n) hs hp).mono ?_
      rw [HQ.out]
      rintro e w2 ⟨hqs,rfl,ha,hg⟩
      have hz2:w.heap.size+1<=w2.heap.size:=by have:=hg.size;simp at this;omega
      have HR2:=hh9 (za8 (W:=(w.alloc (.cells #[.int .i64 0,.string ⟨#[]⟩,.slice none 0 0,.int .i64 0,.int .i64 0,.slice none 0 0] 35)).drewN n) HR.out hg (by omega))
      have HG2:=hh9 ((za5 HG.out n).trans hg)
      have HA2:=hh9 ha
      have HANS:Hid (Ans (rd s) .elem d p (.ok (zmf x) q)):=.quoteOk H34.out HQ.out
      clear ha hg
      go_wp2_with fail
      refine (zrj HX.out.1 (by have:=HX.out.2;omega)).mono ?_
      rintro e w3 ⟨y,ht,rfl,hb⟩
      have H2:=hh9 (zaa ht)
      have H5:=hh9 (zab ht)
      have HR3:=hh9 (HR2.out.kept (hb.block _ HR2.out.lt))
      have HA3:=hh9 (HA2.out.below hb)
      have HG3:=hh9 (za4 HG2.out hb)
      have HT:=hh9 (ht.weak (P':=fun b=>w.heap.size+1<=b) (fun b hP _=>by omega))
      clear ht hb
      go_wp2_with (refine za6 rfl _ _ rfl w.heap.size y rfl rfl HR3.out H2.out H5.out ?_)
      refine bodyPost_ret_by (zaj rfl _ _ w.heap.size y rfl HR3.out) rfl ⟨_,HANS.out,y,?_,hqs,rfl,HA3.out.set_row (by omega) _,zae HG3.out (Nat.le_refl _) _⟩
      exact (HT.out.set_row (fun b hb=>by omega) _).weak (fun b hb _=>by omega)
    ·by_cases h37:rd s p=37
     ·have H37:=hh9 h37
      have HN:=hh9 (zh7 (by omega) h37)
      have hlt:=zbu (by omega) h37
      clear h40 hal h91 h34 h37
      have hr2:=zcu s (p+1)
      by_cases v105:rd s (p+1)=105
      ·have hv:=v105
       clear v105
       have HV:=hh9 hv
       have HK:Hid (zc0 (rd s (p+1))=.text false):=by rw [hv];exact rfl
       have HN2:=hh9 (zh7 (by omega) hv)
       have hlt2:=zbu (by omega) hv
       clear hv
       cases hq:zb2 (rd s) (p+2) with
       | err c =>
        have HQ:=hh9 hq
        clear hq
        go_enter Tryz.func183,Tryz.ntmps183
        go_wp2_with fail
        refine (zag HA.out hs hp).mono ?_
        rw [HN.out]
        rintro e w1 ⟨rfl,n,rfl⟩
        go_wp2_with fail
        refine (zaw _ _).mono ?_
        rw [show isAl 37=false by decide]
        rintro e w1 ⟨rfl,rfl⟩
        go_wp2_with fail
        refine (zb1 (HA.out.drew n) hs 37 (by omega) H37.out).mono ?_
        rintro e w3 ⟨rfl,ha,hg⟩
        have hz3:w.heap.size+1<=w3.heap.size:=by have:=hg.size;simp at this;omega
        have HR3:=hh9 (za8 (W:=(w.alloc (.cells #[.int .i64 0,.string ⟨#[]⟩,.slice none 0 0,.int .i64 0,.int .i64 0,.slice none 0 0] 35)).drewN n) HR.out hg (by omega))
        have HG3:=hh9 ((za5 HG.out n).trans hg)
        have HA3:=hh9 ha
        clear ha hg HR HG HA
        go_wp2_with fail
        refine (zag HA3.out hs hlt).mono ?_
        rw [HN2.out]
        rintro e w4 ⟨rfl,n2,rfl⟩
        go_wp2_with fail
        refine (zb1 (HA3.out.drew n2) hs 105 (by omega) HV.out).mono ?_
        rintro e w4 ⟨rfl,ha,hg⟩
        have hz4:w.heap.size+1<=w4.heap.size:=by have:=hg.size;exact Nat.le_trans hz3 this
        have HR4:=hh9 (za8 (W:=w3.drewN n2) HR3.out hg (by omega))
        have HG4:=hh9 ((za5 HG3.out n2).trans hg)
        have HA4:=hh9 ha
        clear ha hg HR3 HG3 HA3
        go_wp2_with fail
        refine (zcq HA4.out hs (by omega)).mono ?_
        rw [HQ.out]
        rintro e w5 ⟨rfl,hg⟩
        have HG5:=hh9 (HG4.out.trans hg)
        clear hg
        go_wp2_with fail
        exact ⟨rfl,_,.litErr H37.out HK.out HQ.out,rfl,HG5.out⟩
       | ok x q =>
        have HQ:=hh9 hq
        have HX:=hh9 (zen hq)
        clear hq
        go_enter Tryz.func183,Tryz.ntmps183
        go_wp2_with fail
        refine (zag HA.out hs hp).mono ?_
        rw [HN.out]
        rintro e w1 ⟨rfl,n,rfl⟩
        go_wp2_with fail
        refine (zaw _ _).mono ?_
        rw [show isAl 37=false by decide]
        rintro e w1 ⟨rfl,rfl⟩
        go_wp2_with fail
        refine (zb1 (HA.out.drew n) hs 37 (by omega) H37.out).mono ?_
        rintro e w3 ⟨rfl,ha,hg⟩
        have hz3:w.heap.size+1<=w3.heap.size:=by have:=hg.size;simp at this;omega
        have HR3:=hh9 (za8 (W:=(w.alloc (.cells #[.int .i64 0,.string ⟨#[]⟩,.slice none 0 0,.int .i64 0,.int .i64 0,.slice none 0 0] 35)).drewN n) HR.out hg (by omega))
        have HG3:=hh9 ((za5 HG.out n).trans hg)
        have HA3:=hh9 ha
        clear ha hg HR HG HA
        go_wp2_with fail
        refine (zag HA3.out hs hlt).mono ?_
        rw [HN2.out]
        rintro e w4 ⟨rfl,n2,rfl⟩
        go_wp2_with fail
        refine (zb1 (HA3.out.drew n2) hs 105 (by omega) HV.out).mono ?_
        rintro e w4 ⟨rfl,ha,hg⟩
        have hz4:w.heap.size+1<=w4.heap.size:=by have:=hg.size;exact Nat.le_trans hz3 this
        have HR4:=hh9 (za8 (W:=w3.drewN n2) HR3.out hg (by omega))
        have HG4:=hh9 ((za5 HG3.out n2).trans hg)
        have HA4:=hh9 ha
        clear ha hg HR3 HG3 HA3
        go_wp2_with fail
        refine (zcq HA4.out hs (by omega)).mono ?_
        rw [HQ.out]
        rintro e w2 ⟨hqs,rfl,ha,hg⟩
        have hz2:w.heap.size+1<=w2.heap.size:=by have:=hg.size;omega
        have HR2:=hh9 (za8 HR4.out hg (by omega))
        have HG2:=hh9 (HG4.out.trans hg)
        have HA2:=hh9 ha
        have HANS:Hid (Ans (rd s) .elem d p (.ok (litT x false) q)):=.litOk H37.out HK.out HQ.out
        clear ha hg
        go_wp2_with fail
        refine (zn3 false HX.out.1 (by have:=HX.out.2;omega)).mono ?_
        rintro e w3 ⟨y,ht,rfl,hb⟩
        have H2:=hh9 (zaa ht)
        have H5:=hh9 (zab ht)
        have HR3:=hh9 (HR2.out.kept (hb.block _ HR2.out.lt))
        have HA3:=hh9 (HA2.out.below hb)
        have HG3:=hh9 (za4 HG2.out hb)
        have HT:=hh9 (ht.weak (P':=fun b=>w.heap.size+1<=b) (fun b hP _=>by omega))
        clear ht hb
        go_wp2_with (refine za6 rfl _ _ rfl w.heap.size y rfl rfl HR3.out H2.out H5.out ?_)
        refine bodyPost_ret_by (zaj rfl _ _ w.heap.size y rfl HR3.out) rfl ⟨_,HANS.out,y,?_,hqs,rfl,HA3.out.set_row (by omega) _,zae HG3.out (Nat.le_refl _) _⟩
        exact (HT.out.set_row (fun b hb=>by omega) _).weak (fun b hb _=>by omega)
      ·by_cases v73:rd s (p+1)=73
       ·have hv:=v73
        clear v73
        have HV:=hh9 hv
        have HK:Hid (zc0 (rd s (p+1))=.text false):=by rw [hv];exact rfl
        have HN2:=hh9 (zh7 (by omega) hv)
        have hlt2:=zbu (by omega) hv
        clear hv
        cases hq:zb2 (rd s) (p+2) with
        | err c =>
         have HQ:=hh9 hq
         clear hq
         go_enter Tryz.func183,Tryz.ntmps183
         go_wp2_with fail
         refine (zag HA.out hs hp).mono ?_
         rw [HN.out]
         rintro e w1 ⟨rfl,n,rfl⟩
         go_wp2_with fail
         refine (zaw _ _).mono ?_
         rw [show isAl 37=false by decide]
         rintro e w1 ⟨rfl,rfl⟩
         go_wp2_with fail
         refine (zb1 (HA.out.drew n) hs 37 (by omega) H37.out).mono ?_
         rintro e w3 ⟨rfl,ha,hg⟩
         have hz3:w.heap.size+1<=w3.heap.size:=by have:=hg.size;simp at this;omega
         have HR3:=hh9 (za8 (W:=(w.alloc (.cells #[.int .i64 0,.string ⟨#[]⟩,.slice none 0 0,.int .i64 0,.int .i64 0,.slice none 0 0] 35)).drewN n) HR.out hg (by omega))
         have HG3:=hh9 ((za5 HG.out n).trans hg)
         have HA3:=hh9 ha
         clear ha hg HR HG HA
         go_wp2_with fail
         refine (zag HA3.out hs hlt).mono ?_
         rw [HN2.out]
         rintro e w4 ⟨rfl,n2,rfl⟩
         go_wp2_with fail
         refine (zb1 (HA3.out.drew n2) hs 73 (by omega) HV.out).mono ?_
         rintro e w4 ⟨rfl,ha,hg⟩
         have hz4:w.heap.size+1<=w4.heap.size:=by have:=hg.size;exact Nat.le_trans hz3 this
         have HR4:=hh9 (za8 (W:=w3.drewN n2) HR3.out hg (by omega))
         have HG4:=hh9 ((za5 HG3.out n2).trans hg)
         have HA4:=hh9 ha
         clear ha hg HR3 HG3 HA3
         go_wp2_with fail
         refine (zcq HA4.out hs (by omega)).mono ?_
         rw [HQ.out]
         rintro e w5 ⟨rfl,hg⟩
         have HG5:=hh9 (HG4.out.trans hg)
         clear hg
         go_wp2_with fail
         exact ⟨rfl,_,.litErr H37.out HK.out HQ.out,rfl,HG5.out⟩
        | ok x q =>
         have HQ:=hh9 hq
         have HX:=hh9 (zen hq)
         clear hq
         go_enter Tryz.func183,Tryz.ntmps183
         go_wp2_with fail
         refine (zag HA.out hs hp).mono ?_
         rw [HN.out]
         rintro e w1 ⟨rfl,n,rfl⟩
         go_wp2_with fail
         refine (zaw _ _).mono ?_
         rw [show isAl 37=false by decide]
         rintro e w1 ⟨rfl,rfl⟩
         go_wp2_with fail
         refine (zb1 (HA.out.drew n) hs 37 (by omega) H37.out).mono ?_
         rintro e w3 ⟨rfl,ha,hg⟩
         have hz3:w.heap.size+1<=w3.heap.size:=by have:=hg.size;simp at this;omega
         have HR3:=hh9 (za8 (W:=(w.alloc (.cells #[.int .i64 0,.string ⟨#[]⟩,.slice none 0 0,.int .i64 0,.int .i64 0,.slice none 0 0] 35)).drewN n) HR.out hg (by omega))
         have HG3:=hh9 ((za5 HG.out n).trans hg)
         have HA3:=hh9 ha
         clear ha hg HR HG HA
         go_wp2_with fail
         refine (zag HA3.out hs hlt).mono ?_
         rw [HN2.out]
         rintro e w4 ⟨rfl,n2,rfl⟩
         go_wp2_with fail
         refine (zb1 (HA3.out.drew n2) hs 73 (by omega) HV.out).mono ?_
         rintro e w4 ⟨rfl,ha,hg⟩
         have hz4:w.heap.size+1<=w4.heap.size:=by have:=hg.size;exact Nat.le_trans hz3 this
         have HR4:=hh9 (za8 (W:=w3.drewN n2) HR3.out hg (by omega))
         have HG4:=hh9 ((za5 HG3.out n2).trans hg)
         have HA4:=hh9 ha
         clear ha hg HR3 HG3 HA3
         go_wp2_with fail
         refine (zcq HA4.out hs (by omega)).mono ?_
         rw [HQ.out]
         rintro e w2 ⟨hqs,rfl,ha,hg⟩
         have hz2:w.heap.size+1<=w2.heap.size:=by have:=hg.size;omega
         have HR2:=hh9 (za8 HR4.out hg (by omega))
         have HG2:=hh9 (HG4.out.trans hg)
         have HA2:=hh9 ha
         have HANS:Hid (Ans (rd s) .elem d p (.ok (litT x false) q)):=.litOk H37.out HK.out HQ.out
         clear ha hg
         go_wp2_with fail
         refine (zn3 false HX.out.1 (by have:=HX.out.2;omega)).mono ?_
         rintro e w3 ⟨y,ht,rfl,hb⟩
         have H2:=hh9 (zaa ht)
         have H5:=hh9 (zab ht)
         have HR3:=hh9 (HR2.out.kept (hb.block _ HR2.out.lt))
         have HA3:=hh9 (HA2.out.below hb)
         have HG3:=hh9 (za4 HG2.out hb)
         have HT:=hh9 (ht.weak (P':=fun b=>w.heap.size+1<=b) (fun b hP _=>by omega))
         clear ht hb
         go_wp2_with (refine za6 rfl _ _ rfl w.heap.size y rfl rfl HR3.out H2.out H5.out ?_)
         refine bodyPost_ret_by (zaj rfl _ _ w.heap.size y rfl HR3.out) rfl ⟨_,HANS.out,y,?_,hqs,rfl,HA3.out.set_row (by omega) _,zae HG3.out (Nat.le_refl _) _⟩
         exact (HT.out.set_row (fun b hb=>by omega) _).weak (fun b hb _=>by omega)
       ·by_cases v115:rd s (p+1)=115
        ·have hv:=v115
         clear v115
         have HV:=hh9 hv
         have HK:Hid (zc0 (rd s (p+1))=.text true):=by rw [hv];exact rfl
         have HN2:=hh9 (zh7 (by omega) hv)
         have hlt2:=zbu (by omega) hv
         clear hv
         cases hq:zb2 (rd s) (p+2) with
         | err c =>
          have HQ:=hh9 hq
          clear hq
          go_enter Tryz.func183,Tryz.ntmps183
          go_wp2_with fail
          refine (zag HA.out hs hp).mono ?_
          rw [HN.out]
          rintro e w1 ⟨rfl,n,rfl⟩
          go_wp2_with fail
          refine (zaw _ _).mono ?_
          rw [show isAl 37=false by decide]
          rintro e w1 ⟨rfl,rfl⟩
          go_wp2_with fail
          refine (zb1 (HA.out.drew n) hs 37 (by omega) H37.out).mono ?_
          rintro e w3 ⟨rfl,ha,hg⟩
          have hz3:w.heap.size+1<=w3.heap.size:=by have:=hg.size;simp at this;omega
          have HR3:=hh9 (za8 (W:=(w.alloc (.cells #[.int .i64 0,.string ⟨#[]⟩,.slice none 0 0,.int .i64 0,.int .i64 0,.slice none 0 0] 35)).drewN n) HR.out hg (by omega))
          have HG3:=hh9 ((za5 HG.out n).trans hg)
          have HA3:=hh9 ha
          clear ha hg HR HG HA
          go_wp2_with fail
          refine (zag HA3.out hs hlt).mono ?_
          rw [HN2.out]
          rintro e w4 ⟨rfl,n2,rfl⟩
          go_wp2_with fail
          refine (zb1 (HA3.out.drew n2) hs 115 (by omega) HV.out).mono ?_
          rintro e w4 ⟨rfl,ha,hg⟩
          have hz4:w.heap.size+1<=w4.heap.size:=by have:=hg.size;exact Nat.le_trans hz3 this
          have HR4:=hh9 (za8 (W:=w3.drewN n2) HR3.out hg (by omega))
          have HG4:=hh9 ((za5 HG3.out n2).trans hg)
          have HA4:=hh9 ha
          clear ha hg HR3 HG3 HA3
          go_wp2_with fail
          refine (zcq HA4.out hs (by omega)).mono ?_
          rw [HQ.out]
          rintro e w5 ⟨rfl,hg⟩
          have HG5:=hh9 (HG4.out.trans hg)
          clear hg
          go_wp2_with fail
          exact ⟨rfl,_,.litErr H37.out HK.out HQ.out,rfl,HG5.out⟩
         | ok x q =>
          have HQ:=hh9 hq
          have HX:=hh9 (zen hq)
          clear hq
          go_enter Tryz.func183,Tryz.ntmps183
          go_wp2_with fail
          refine (zag HA.out hs hp).mono ?_
          rw [HN.out]
          rintro e w1 ⟨rfl,n,rfl⟩
          go_wp2_with fail
          refine (zaw _ _).mono ?_
          rw [show isAl 37=false by decide]
          rintro e w1 ⟨rfl,rfl⟩
          go_wp2_with fail
          refine (zb1 (HA.out.drew n) hs 37 (by omega) H37.out).mono ?_
          rintro e w3 ⟨rfl,ha,hg⟩
          have hz3:w.heap.size+1<=w3.heap.size:=by have:=hg.size;simp at this;omega
          have HR3:=hh9 (za8 (W:=(w.alloc (.cells #[.int .i64 0,.string ⟨#[]⟩,.slice none 0 0,.int .i64 0,.int .i64 0,.slice none 0 0] 35)).drewN n) HR.out hg (by omega))
          have HG3:=hh9 ((za5 HG.out n).trans hg)
          have HA3:=hh9 ha
          clear ha hg HR HG HA
          go_wp2_with fail
          refine (zag HA3.out hs hlt).mono ?_
          rw [HN2.out]
          rintro e w4 ⟨rfl,n2,rfl⟩
          go_wp2_with fail
          refine (zb1 (HA3.out.drew n2) hs 115 (by omega) HV.out).mono ?_
          rintro e w4 ⟨rfl,ha,hg⟩
          have hz4:w.heap.size+1<=w4.heap.size:=by have:=hg.size;exact Nat.le_trans hz3 this
          have HR4:=hh9 (za8 (W:=w3.drewN n2) HR3.out hg (by omega))
          have HG4:=hh9 ((za5 HG3.out n2).trans hg)
          have HA4:=hh9 ha
          clear ha hg HR3 HG3 HA3
          go_wp2_with fail
          refine (zcq HA4.out hs (by omega)).mono ?_
          rw [HQ.out]
          rintro e w2 ⟨hqs,rfl,ha,hg⟩
          have hz2:w.heap.size+1<=w2.heap.size:=by have:=hg.size;omega
          have HR2:=hh9 (za8 HR4.out hg (by omega))
          have HG2:=hh9 (HG4.out.trans hg)
          have HA2:=hh9 ha
          have HANS:Hid (Ans (rd s) .elem d p (.ok (litT x true) q)):=.litOk H37.out HK.out HQ.out
          clear ha hg
          go_wp2_with fail
          refine (zn3 true HX.out.1 (by have:=HX.out.2;omega)).mono ?_
          rintro e w3 ⟨y,ht,rfl,hb⟩
          have H2:=hh9 (zaa ht)
          have H5:=hh9 (zab ht)
          have HR3:=hh9 (HR2.out.kept (hb.block _ HR2.out.lt))
          have HA3:=hh9 (HA2.out.below hb)
          have HG3:=hh9 (za4 HG2.out hb)
          have HT:=hh9 (ht.weak (P':=fun b=>w.heap.size+1<=b) (fun b hP _=>by omega))
          clear ht hb
          go_wp2_with (refine za6 rfl _ _ rfl w.heap.size y rfl rfl HR3.out H2.out H5.out ?_)
          refine bodyPost_ret_by (zaj rfl _ _ w.heap.size y rfl HR3.out) rfl ⟨_,HANS.out,y,?_,hqs,rfl,HA3.out.set_row (by omega) _,zae HG3.out (Nat.le_refl _) _⟩
          exact (HT.out.set_row (fun b hb=>by omega) _).weak (fun b hb _=>by omega)
        ·by_cases v83:rd s (p+1)=83
         ·have hv:=v83
          clear v83
          have HV:=hh9 hv
          have HK:Hid (zc0 (rd s (p+1))=.text true):=by rw [hv];exact rfl
          have HN2:=hh9 (zh7 (by omega) hv)
          have hlt2:=zbu (by omega) hv
          clear hv
          cases hq:zb2 (rd s) (p+2) with
          | err c =>
           have HQ:=hh9 hq
           clear hq
           go_enter Tryz.func183,Tryz.ntmps183
           go_wp2_with fail
           refine (zag HA.out hs hp).mono ?_
           rw [HN.out]
           rintro e w1 ⟨rfl,n,rfl⟩
           go_wp2_with fail
           refine (zaw _ _).mono ?_
           rw [show isAl 37=false by decide]
           rintro e w1 ⟨rfl,rfl⟩
           go_wp2_with fail
           refine (zb1 (HA.out.drew n) hs 37 (by omega) H37.out).mono ?_
           rintro e w3 ⟨rfl,ha,hg⟩
           have hz3:w.heap.size+1<=w3.heap.size:=by have:=hg.size;simp at this;omega
           have HR3:=hh9 (za8 (W:=(w.alloc (.cells #[.int .i64 0,.string ⟨#[]⟩,.slice none 0 0,.int .i64 0,.int .i64 0,.slice none 0 0] 35)).drewN n) HR.out hg (by omega))
           have HG3:=hh9 ((za5 HG.out n).trans hg)
           have HA3:=hh9 ha
           clear ha hg HR HG HA
           go_wp2_with fail
           refine (zag HA3.out hs hlt).mono ?_
           rw [HN2.out]
           rintro e w4 ⟨rfl,n2,rfl⟩
           go_wp2_with fail
           refine (zb1 (HA3.out.drew n2) hs 83 (by omega) HV.out).mono ?_
           rintro e w4 ⟨rfl,ha,hg⟩
           have hz4:w.heap.size+1<=w4.heap.size:=by have:=hg.size;exact Nat.le_trans hz3 this
           have HR4:=hh9 (za8 (W:=w3.drewN n2) HR3.out hg (by omega))
           have HG4:=hh9 ((za5 HG3.out n2).trans hg)
           have HA4:=hh9 ha
           clear ha hg HR3 HG3 HA3
           go_wp2_with fail
           refine (zcq HA4.out hs (by omega)).mono ?_
           rw [HQ.out]
           rintro e w5 ⟨rfl,hg⟩
           have HG5:=hh9 (HG4.out.trans hg)
           clear hg
           go_wp2_with fail
           exact ⟨rfl,_,.litErr H37.out HK.out HQ.out,rfl,HG5.out⟩
          | ok x q =>
           have HQ:=hh9 hq
           have HX:=hh9 (zen hq)
           clear hq
           go_enter Tryz.func183,Tryz.ntmps183
           go_wp2_with fail
           refine (zag HA.out hs hp).mono ?_
           rw [HN.out]
           rintro e w1 ⟨rfl,n,rfl⟩
           go_wp2_with fail
           refine (zaw _ _).mono ?_
           rw [show isAl 37=false by decide]
           rintro e w1 ⟨rfl,rfl⟩
           go_wp2_with fail
           refine (zb1 (HA.out.drew n) hs 37 (by omega) H37.out).mono ?_
           rintro e w3 ⟨rfl,ha,hg⟩
           have hz3:w.heap.size+1<=w3.heap.size:=by have:=hg.size;simp at this;omega
           have HR3:=hh9 (za8 (W:=(w.alloc (.cells #[.int .i64 0,.string ⟨#[]⟩,.slice none 0 0,.int .i64 0,.int .i64 0,.slice none 0 0] 35)).drewN n) HR.out hg (by omega))
           have HG3:=hh9 ((za5 HG.out n).trans hg)
           have HA3:=hh9 ha
           clear ha hg HR HG HA
           go_wp2_with fail
           refine (zag HA3.out hs hlt).mono ?_
           rw [HN2.out]
           rintro e w4 ⟨rfl,n2,rfl⟩
           go_wp2_with fail
           refine (zb1 (HA3.out.drew n2) hs 83 (by omega) HV.out).mono ?_
           rintro e w4 ⟨rfl,ha,hg⟩
           have hz4:w.heap.size+1<=w4.heap.size:=by have:=hg.size;exact Nat.le_trans hz3 this
           have HR4:=hh9 (za8 (W:=w3.drewN n2) HR3.out hg (by omega))
           have HG4:=hh9 ((za5 HG3.out n2).trans hg)
           have HA4:=hh9 ha
           clear ha hg HR3 HG3 HA3
           go_wp2_with fail
           refine (zcq HA4.out hs (by omega)).mono ?_
           rw [HQ.out]
           rintro e w2 ⟨hqs,rfl,ha,hg⟩
           have hz2:w.heap.size+1<=w2.heap.size:=by have:=hg.size;omega
           have HR2:=hh9 (za8 HR4.out hg (by omega))
           have HG2:=hh9 (HG4.out.trans hg)
           have HA2:=hh9 ha
           have HANS:Hid (Ans (rd s) .elem d p (.ok (litT x true) q)):=.litOk H37.out HK.out HQ.out
           clear ha hg
           go_wp2_with fail
           refine (zn3 true HX.out.1 (by have:=HX.out.2;omega)).mono ?_
           rintro e w3 ⟨y,ht,rfl,hb⟩
           have H2:=hh9 (zaa ht)
           have H5:=hh9 (zab ht)
           have HR3:=hh9 (HR2.out.kept (hb.block _ HR2.out.lt))
           have HA3:=hh9 (HA2.out.below hb)
           have HG3:=hh9 (za4 HG2.out hb)
           have HT:=hh9 (ht.weak (P':=fun b=>w.heap.size+1<=b) (fun b hP _=>by omega))
           clear ht hb
           go_wp2_with (refine za6 rfl _ _ rfl w.heap.size y rfl rfl HR3.out H2.out H5.out ?_)
           refine bodyPost_ret_by (zaj rfl _ _ w.heap.size y rfl HR3.out) rfl ⟨_,HANS.out,y,?_,hqs,rfl,HA3.out.set_row (by omega) _,zae HG3.out (Nat.le_refl _) _⟩
           exact (HT.out.set_row (fun b hb=>by omega) _).weak (fun b hb _=>by omega)
         ·by_cases v98:rd s (p+1)=98
          ·have hv:=v98
           clear v98
           have HV:=hh9 hv
           have HK:Hid (zc0 (rd s (p+1))=.base 2):=by rw [hv];exact rfl
           have HN2:=hh9 (zh7 (by omega) hv)
           have hlt2:=zbu (by omega) hv
           clear hv
           go_enter Tryz.func183,Tryz.ntmps183
           go_wp2_with fail
           refine (zag HA.out hs hp).mono ?_
           rw [HN.out]
           rintro e w1 ⟨rfl,n,rfl⟩
           go_wp2_with fail
           refine (zaw _ _).mono ?_
           rw [show isAl 37=false by decide]
           rintro e w1 ⟨rfl,rfl⟩
           go_wp2_with fail
           refine (zb1 (HA.out.drew n) hs 37 (by omega) H37.out).mono ?_
           rintro e w3 ⟨rfl,ha,hg⟩
           have hz3:w.heap.size+1<=w3.heap.size:=by have:=hg.size;simp at this;omega
           have HR3:=hh9 (za8 (W:=(w.alloc (.cells #[.int .i64 0,.string ⟨#[]⟩,.slice none 0 0,.int .i64 0,.int .i64 0,.slice none 0 0] 35)).drewN n) HR.out hg (by omega))
           have HG3:=hh9 ((za5 HG.out n).trans hg)
           have HA3:=hh9 ha
           clear ha hg HR HG HA
           go_wp2_with fail
           refine (zag HA3.out hs hlt).mono ?_
           rw [HN2.out]
           rintro e w4 ⟨rfl,n2,rfl⟩
           go_wp2_with fail
           refine (zb1 (HA3.out.drew n2) hs 98 (by omega) HV.out).mono ?_
           rintro e w4 ⟨rfl,ha,hg⟩
           have hz4:w.heap.size+1<=w4.heap.size:=by have:=hg.size;exact Nat.le_trans hz3 this
           have HR4:=hh9 (za8 (W:=w3.drewN n2) HR3.out hg (by omega))
           have HG4:=hh9 ((za5 HG3.out n2).trans hg)
           have HA4:=hh9 ha
           clear ha hg HR3 HG3 HA3
           go_wp2_with fail
           refine (zdq 2 (by omega) HA4.out hs (by omega)).mono ?_
           rintro e w2 ⟨r,hans,hgv⟩
           have HANS:Hid (Ans (rd s) .elem d p r):=.value H37.out HK.out hans
           clear hans
           cases r with
           | err c =>
            obtain ⟨rfl,hg⟩:=hgv
            have HG2:=hh9 ((HG4.out).trans hg)
            clear hg
            go_wp2_with fail
            exact ⟨rfl,_,HANS.out,rfl,HG2.out⟩
           | ok t q =>
            obtain ⟨x,ht,hqs,rfl,ha,hg⟩:=hgv
            have h2:=zaa ht
            have h5:=zab ht
            have H2:=hh9 h2
            have H5:=hh9 h5
            have hz2:w.heap.size+1<=w2.heap.size:=by have:=hg.size;have:=hz4;simp at *;omega
            have HR2:=hh9 (za8 (W:=w4) HR4.out hg (by omega))
            have HG2:=hh9 ((HG4.out).trans hg)
            have HA2:=hh9 ha
            have HT:=hh9 (ht.weak (P':=fun b=>w.heap.size+1<=b) (fun b hP _=>by have:=hz4;simp at *;omega))
            clear ha hg ht h2 h5
            go_wp2_with (refine za6 rfl _ _ rfl w.heap.size x rfl rfl HR2.out H2.out H5.out ?_)
            refine bodyPost_ret_by (zaj rfl _ _ w.heap.size x rfl HR2.out) rfl ⟨_,HANS.out,x,?_,hqs,rfl,HA2.out.set_row (by omega) _,zae HG2.out (Nat.le_refl _) _⟩
            exact (HT.out.set_row (fun b hb=>by omega) _).weak (fun b hb _=>by omega)
          ·by_cases v66:rd s (p+1)=66
           ·have hv:=v66
            clear v66
            have HV:=hh9 hv
            have HK:Hid (zc0 (rd s (p+1))=.base 2):=by rw [hv];exact rfl
            have HN2:=hh9 (zh7 (by omega) hv)
            have hlt2:=zbu (by omega) hv
            clear hv
            go_enter Tryz.func183,Tryz.ntmps183
            go_wp2_with fail
            refine (zag HA.out hs hp).mono ?_
            rw [HN.out]
            rintro e w1 ⟨rfl,n,rfl⟩
            go_wp2_with fail
            refine (zaw _ _).mono ?_
            rw [show isAl 37=false by decide]
            rintro e w1 ⟨rfl,rfl⟩
            go_wp2_with fail
            refine (zb1 (HA.out.drew n) hs 37 (by omega) H37.out).mono ?_
            rintro e w3 ⟨rfl,ha,hg⟩
            have hz3:w.heap.size+1<=w3.heap.size:=by have:=hg.size;simp at this;omega
            have HR3:=hh9 (za8 (W:=(w.alloc (.cells #[.int .i64 0,.string ⟨#[]⟩,.slice none 0 0,.int .i64 0,.int .i64 0,.slice none 0 0] 35)).drewN n) HR.out hg (by omega))
            have HG3:=hh9 ((za5 HG.out n).trans hg)
            have HA3:=hh9 ha
            clear ha hg HR HG HA
            go_wp2_with fail
            refine (zag HA3.out hs hlt).mono ?_
            rw [HN2.out]
            rintro e w4 ⟨rfl,n2,rfl⟩
            go_wp2_with fail
            refine (zb1 (HA3.out.drew n2) hs 66 (by omega) HV.out).mono ?_
            rintro e w4 ⟨rfl,ha,hg⟩
            have hz4:w.heap.size+1<=w4.heap.size:=by have:=hg.size;exact Nat.le_trans hz3 this
            have HR4:=hh9 (za8 (W:=w3.drewN n2) HR3.out hg (by omega))
            have HG4:=hh9 ((za5 HG3.out n2).trans hg)
            have HA4:=hh9 ha
            clear ha hg HR3 HG3 HA3
            go_wp2_with fail
            refine (zdq 2 (by omega) HA4.out hs (by omega)).mono ?_
            rintro e w2 ⟨r,hans,hgv⟩
            have HANS:Hid (Ans (rd s) .elem d p r):=.value H37.out HK.out hans
            clear hans
            cases r with
            | err c =>
             obtain ⟨rfl,hg⟩:=hgv
             have HG2:=hh9 ((HG4.out).trans hg)
             clear hg
             go_wp2_with fail
             exact ⟨rfl,_,HANS.out,rfl,HG2.out⟩
            | ok t q =>
             obtain ⟨x,ht,hqs,rfl,ha,hg⟩:=hgv
             have h2:=zaa ht
             have h5:=zab ht
             have H2:=hh9 h2
             have H5:=hh9 h5
             have hz2:w.heap.size+1<=w2.heap.size:=by have:=hg.size;have:=hz4;simp at *;omega
             have HR2:=hh9 (za8 (W:=w4) HR4.out hg (by omega))
             have HG2:=hh9 ((HG4.out).trans hg)
             have HA2:=hh9 ha
             have HT:=hh9 (ht.weak (P':=fun b=>w.heap.size+1<=b) (fun b hP _=>by have:=hz4;simp at *;omega))
             clear ha hg ht h2 h5
             go_wp2_with (refine za6 rfl _ _ rfl w.heap.size x rfl rfl HR2.out H2.out H5.out ?_)
             refine bodyPost_ret_by (zaj rfl _ _ w.heap.size x rfl HR2.out) rfl ⟨_,HANS.out,x,?_,hqs,rfl,HA2.out.set_row (by omega) _,zae HG2.out (Nat.le_refl _) _⟩
             exact (HT.out.set_row (fun b hb=>by omega) _).weak (fun b hb _=>by omega)
           ·by_cases v100:rd s (p+1)=100
            ·have hv:=v100
             clear v100
             have HV:=hh9 hv
             have HK:Hid (zc0 (rd s (p+1))=.base 10):=by rw [hv];exact rfl
             have HN2:=hh9 (zh7 (by omega) hv)
             have hlt2:=zbu (by omega) hv
             clear hv
             go_enter Tryz.func183,Tryz.ntmps183
             go_wp2_with fail
             refine (zag HA.out hs hp).mono ?_
             rw [HN.out]
             rintro e w1 ⟨rfl,n,rfl⟩
             go_wp2_with fail
             refine (zaw _ _).mono ?_
             rw [show isAl 37=false by decide]
             rintro e w1 ⟨rfl,rfl⟩
             go_wp2_with fail
             refine (zb1 (HA.out.drew n) hs 37 (by omega) H37.out).mono ?_
             rintro e w3 ⟨rfl,ha,hg⟩
             have hz3:w.heap.size+1<=w3.heap.size:=by have:=hg.size;simp at this;omega
             have HR3:=hh9 (za8 (W:=(w.alloc (.cells #[.int .i64 0,.string ⟨#[]⟩,.slice none 0 0,.int .i64 0,.int .i64 0,.slice none 0 0] 35)).drewN n) HR.out hg (by omega))
             have HG3:=hh9 ((za5 HG.out n).trans hg)
             have HA3:=hh9 ha
             clear ha hg HR HG HA
             go_wp2_with fail
             refine (zag HA3.out hs hlt).mono ?_
             rw [HN2.out]
             rintro e w4 ⟨rfl,n2,rfl⟩
             go_wp2_with fail
             refine (zb1 (HA3.out.drew n2) hs 100 (by omega) HV.out).mono ?_
             rintro e w4 ⟨rfl,ha,hg⟩
             have hz4:w.heap.size+1<=w4.heap.size:=by have:=hg.size;exact Nat.le_trans hz3 this
             have HR4:=hh9 (za8 (W:=w3.drewN n2) HR3.out hg (by omega))
             have HG4:=hh9 ((za5 HG3.out n2).trans hg)
             have HA4:=hh9 ha
             clear ha hg HR3 HG3 HA3
             go_wp2_with fail
             refine (zdq 10 (by omega) HA4.out hs (by omega)).mono ?_
             rintro e w2 ⟨r,hans,hgv⟩
             have HANS:Hid (Ans (rd s) .elem d p r):=.value H37.out HK.out hans
             clear hans
             cases r with
             | err c =>
              obtain ⟨rfl,hg⟩:=hgv
              have HG2:=hh9 ((HG4.out).trans hg)
              clear hg
              go_wp2_with fail
              exact ⟨rfl,_,HANS.out,rfl,HG2.out⟩
             | ok t q =>
              obtain ⟨x,ht,hqs,rfl,ha,hg⟩:=hgv
              have h2:=zaa ht
              have h5:=zab ht
              have H2:=hh9 h2
              have H5:=hh9 h5
              have hz2:w.heap.size+1<=w2.heap.size:=by have:=hg.size;have:=hz4;simp at *;omega
              have HR2:=hh9 (za8 (W:=w4) HR4.out hg (by omega))
              have HG2:=hh9 ((HG4.out).trans hg)
              have HA2:=hh9 ha
              have HT:=hh9 (ht.weak (P':=fun b=>w.heap.size+1<=b) (fun b hP _=>by have:=hz4;simp at *;omega))
              clear ha hg ht h2 h5
              go_wp2_with (refine za6 rfl _ _ rfl w.heap.size x rfl rfl HR2.out H2.out H5.out ?_)
              refine bodyPost_ret_by (zaj rfl _ _ w.heap.size x rfl HR2.out) rfl ⟨_,HANS.out,x,?_,hqs,rfl,HA2.out.set_row (by omega) _,zae HG2.out (Nat.le_refl _) _⟩
              exact (HT.out.set_row (fun b hb=>by omega) _).weak (fun b hb _=>by omega)
            ·by_cases v68:rd s (p+1)=68
             ·have hv:=v68
              clear v68
              have HV:=hh9 hv
              have HK:Hid (zc0 (rd s (p+1))=.base 10):=by rw [hv];exact rfl
              have HN2:=hh9 (zh7 (by omega) hv)
              have hlt2:=zbu (by omega) hv
              clear hv
              go_enter Tryz.func183,Tryz.ntmps183
              go_wp2_with fail
              refine (zag HA.out hs hp).mono ?_
              rw [HN.out]
              rintro e w1 ⟨rfl,n,rfl⟩
              go_wp2_with fail
              refine (zaw _ _).mono ?_
              rw [show isAl 37=false by decide]
              rintro e w1 ⟨rfl,rfl⟩
              go_wp2_with fail
              refine (zb1 (HA.out.drew n) hs 37 (by omega) H37.out).mono ?_
              rintro e w3 ⟨rfl,ha,hg⟩
              have hz3:w.heap.size+1<=w3.heap.size:=by have:=hg.size;simp at this;omega
              have HR3:=hh9 (za8 (W:=(w.alloc (.cells #[.int .i64 0,.string ⟨#[]⟩,.slice none 0 0,.int .i64 0,.int .i64 0,.slice none 0 0] 35)).drewN n) HR.out hg (by omega))
              have HG3:=hh9 ((za5 HG.out n).trans hg)
              have HA3:=hh9 ha
              clear ha hg HR HG HA
              go_wp2_with fail
              refine (zag HA3.out hs hlt).mono ?_
              rw [HN2.out]
              rintro e w4 ⟨rfl,n2,rfl⟩
              go_wp2_with fail
              refine (zb1 (HA3.out.drew n2) hs 68 (by omega) HV.out).mono ?_
              rintro e w4 ⟨rfl,ha,hg⟩
              have hz4:w.heap.size+1<=w4.heap.size:=by have:=hg.size;exact Nat.le_trans hz3 this
              have HR4:=hh9 (za8 (W:=w3.drewN n2) HR3.out hg (by omega))
              have HG4:=hh9 ((za5 HG3.out n2).trans hg)
              have HA4:=hh9 ha
              clear ha hg HR3 HG3 HA3
              go_wp2_with fail
              refine (zdq 10 (by omega) HA4.out hs (by omega)).mono ?_
              rintro e w2 ⟨r,hans,hgv⟩
              have HANS:Hid (Ans (rd s) .elem d p r):=.value H37.out HK.out hans
              clear hans
              cases r with
              | err c =>
               obtain ⟨rfl,hg⟩:=hgv
               have HG2:=hh9 ((HG4.out).trans hg)
               clear hg
               go_wp2_with fail
               exact ⟨rfl,_,HANS.out,rfl,HG2.out⟩
              | ok t q =>
               obtain ⟨x,ht,hqs,rfl,ha,hg⟩:=hgv
               have h2:=zaa ht
               have h5:=zab ht
               have H2:=hh9 h2
               have H5:=hh9 h5
               have hz2:w.heap.size+1<=w2.heap.size:=by have:=hg.size;have:=hz4;simp at *;omega
               have HR2:=hh9 (za8 (W:=w4) HR4.out hg (by omega))
               have HG2:=hh9 ((HG4.out).trans hg)
               have HA2:=hh9 ha
               have HT:=hh9 (ht.weak (P':=fun b=>w.heap.size+1<=b) (fun b hP _=>by have:=hz4;simp at *;omega))
               clear ha hg ht h2 h5
               go_wp2_with (refine za6 rfl _ _ rfl w.heap.size x rfl rfl HR2.out H2.out H5.out ?_)
               refine bodyPost_ret_by (zaj rfl _ _ w.heap.size x rfl HR2.out) rfl ⟨_,HANS.out,x,?_,hqs,rfl,HA2.out.set_row (by omega) _,zae HG2.out (Nat.le_refl _) _⟩
               exact (HT.out.set_row (fun b hb=>by omega) _).weak (fun b hb _=>by omega)
             ·by_cases v120:rd s (p+1)=120
              ·have hv:=v120
               clear v120
               have HV:=hh9 hv
               have HK:Hid (zc0 (rd s (p+1))=.base 16):=by rw [hv];exact rfl
               have HN2:=hh9 (zh7 (by omega) hv)
               have hlt2:=zbu (by omega) hv
               clear hv
               go_enter Tryz.func183,Tryz.ntmps183
               go_wp2_with fail
               refine (zag HA.out hs hp).mono ?_
               rw [HN.out]
               rintro e w1 ⟨rfl,n,rfl⟩
               go_wp2_with fail
               refine (zaw _ _).mono ?_
               rw [show isAl 37=false by decide]
               rintro e w1 ⟨rfl,rfl⟩
               go_wp2_with fail
               refine (zb1 (HA.out.drew n) hs 37 (by omega) H37.out).mono ?_
               rintro e w3 ⟨rfl,ha,hg⟩
               have hz3:w.heap.size+1<=w3.heap.size:=by have:=hg.size;simp at this;omega
               have HR3:=hh9 (za8 (W:=(w.alloc (.cells #[.int .i64 0,.string ⟨#[]⟩,.slice none 0 0,.int .i64 0,.int .i64 0,.slice none 0 0] 35)).drewN n) HR.out hg (by omega))
               have HG3:=hh9 ((za5 HG.out n).trans hg)
               have HA3:=hh9 ha
               clear ha hg HR HG HA
               go_wp2_with fail
               refine (zag HA3.out hs hlt).mono ?_
               rw [HN2.out]
               rintro e w4 ⟨rfl,n2,rfl⟩
               go_wp2_with fail
               refine (zca (HA3.out.drew n2) hs 120 (by omega) HV.out).mono ?_
               rintro e w4 ⟨rfl,ha,hg⟩
               have hz4:w.heap.size+1<=w4.heap.size:=by have:=hg.size;exact Nat.le_trans hz3 this
               have HR4:=hh9 (za8 (W:=w3.drewN n2) HR3.out hg (by omega))
               have HG4:=hh9 ((za5 HG3.out n2).trans hg)
               have HA4:=hh9 ha
               clear ha hg HR3 HG3 HA3
               go_wp2_with fail
               refine (zdq 16 (by omega) HA4.out hs (by omega)).mono ?_
               rintro e w2 ⟨r,hans,hgv⟩
               have HANS:Hid (Ans (rd s) .elem d p r):=.value H37.out HK.out hans
               clear hans
               cases r with
               | err c =>
                obtain ⟨rfl,hg⟩:=hgv
                have HG2:=hh9 ((HG4.out).trans hg)
                clear hg
                go_wp2_with fail
                exact ⟨rfl,_,HANS.out,rfl,HG2.out⟩
               | ok t q =>
                obtain ⟨x,ht,hqs,rfl,ha,hg⟩:=hgv
                have h2:=zaa ht
                have h5:=zab ht
                have H2:=hh9 h2
                have H5:=hh9 h5
                have hz2:w.heap.size+1<=w2.heap.size:=by have:=hg.size;have:=hz4;simp at *;omega
                have HR2:=hh9 (za8 (W:=w4) HR4.out hg (by omega))
                have HG2:=hh9 ((HG4.out).trans hg)
                have HA2:=hh9 ha
                have HT:=hh9 (ht.weak (P':=fun b=>w.heap.size+1<=b) (fun b hP _=>by have:=hz4;simp at *;omega))
                clear ha hg ht h2 h5
                go_wp2_with (refine za6 rfl _ _ rfl w.heap.size x rfl rfl HR2.out H2.out H5.out ?_)
                refine bodyPost_ret_by (zaj rfl _ _ w.heap.size x rfl HR2.out) rfl ⟨_,HANS.out,x,?_,hqs,rfl,HA2.out.set_row (by omega) _,zae HG2.out (Nat.le_refl _) _⟩
                exact (HT.out.set_row (fun b hb=>by omega) _).weak (fun b hb _=>by omega)
              ·by_cases v88:rd s (p+1)=88
               ·have hv:=v88
                clear v88
                have HV:=hh9 hv
                have HK:Hid (zc0 (rd s (p+1))=.base 16):=by rw [hv];exact rfl
                have HN2:=hh9 (zh7 (by omega) hv)
                have hlt2:=zbu (by omega) hv
                have HNV:Hid (rd s (p+1)≠120):=by rw [hv];exact (by omega:(88:Int)≠120)
                clear hv
                go_enter Tryz.func183,Tryz.ntmps183
                go_wp2_with fail
                refine (zag HA.out hs hp).mono ?_
                rw [HN.out]
                rintro e w1 ⟨rfl,n,rfl⟩
                go_wp2_with fail
                refine (zaw _ _).mono ?_
                rw [show isAl 37=false by decide]
                rintro e w1 ⟨rfl,rfl⟩
                go_wp2_with fail
                refine (zb1 (HA.out.drew n) hs 37 (by omega) H37.out).mono ?_
                rintro e w3 ⟨rfl,ha,hg⟩
                have hz3:w.heap.size+1<=w3.heap.size:=by have:=hg.size;simp at this;omega
                have HR3:=hh9 (za8 (W:=(w.alloc (.cells #[.int .i64 0,.string ⟨#[]⟩,.slice none 0 0,.int .i64 0,.int .i64 0,.slice none 0 0] 35)).drewN n) HR.out hg (by omega))
                have HG3:=hh9 ((za5 HG.out n).trans hg)
                have HA3:=hh9 ha
                clear ha hg HR HG HA
                go_wp2_with fail
                refine (zag HA3.out hs hlt).mono ?_
                rw [HN2.out]
                rintro e w4 ⟨rfl,n2,rfl⟩
                go_wp2_with fail
                refine (zci (HA3.out.drew n2) hs hlt 120 (by omega) HNV.out).mono ?_
                rintro e w5 ⟨rfl,ha,hg⟩
                have hz5:w.heap.size+1<=w5.heap.size:=by have:=hg.size;exact Nat.le_trans hz3 this
                have HR5:=hh9 (za8 (W:=w3.drewN n2) HR3.out hg (by omega))
                have HG5:=hh9 ((za5 HG3.out n2).trans hg)
                have HA5:=hh9 ha
                clear ha hg HR3 HG3 HA3
                go_wp2_with fail
                refine (zb1 HA5.out hs 88 (by omega) HV.out).mono ?_
                rintro e w4 ⟨rfl,ha,hg⟩
                have hz4:w.heap.size+1<=w4.heap.size:=by have:=hg.size;omega
                have HR4:=hh9 (za8 HR5.out hg (by omega))
                have HG4:=hh9 (HG5.out.trans hg)
                have HA4:=hh9 ha
                clear ha hg HR5 HG5 HA5
                go_wp2_with fail
                refine (zdq 16 (by omega) HA4.out hs (by omega)).mono ?_
                rintro e w2 ⟨r,hans,hgv⟩
                have HANS:Hid (Ans (rd s) .elem d p r):=.value H37.out HK.out hans
                clear hans
                cases r with
                | err c =>
                 obtain ⟨rfl,hg⟩:=hgv
                 have HG2:=hh9 ((HG4.out).trans hg)
                 clear hg
                 go_wp2_with fail
                 exact ⟨rfl,_,HANS.out,rfl,HG2.out⟩
                | ok t q =>
                 obtain ⟨x,ht,hqs,rfl,ha,hg⟩:=hgv
                 have h2:=zaa ht
                 have h5:=zab ht
                 have H2:=hh9 h2
                 have H5:=hh9 h5
                 have hz2:w.heap.size+1<=w2.heap.size:=by have:=hg.size;have:=hz4;simp at *;omega
                 have HR2:=hh9 (za8 (W:=w4) HR4.out hg (by omega))
                 have HG2:=hh9 ((HG4.out).trans hg)
                 have HA2:=hh9 ha
                 have HT:=hh9 (ht.weak (P':=fun b=>w.heap.size+1<=b) (fun b hP _=>by have:=hz4;simp at *;omega))
                 clear ha hg ht h2 h5
                 go_wp2_with (refine za6 rfl _ _ rfl w.heap.size x rfl rfl HR2.out H2.out H5.out ?_)
                 refine bodyPost_ret_by (zaj rfl _ _ w.heap.size x rfl HR2.out) rfl ⟨_,HANS.out,x,?_,hqs,rfl,HA2.out.set_row (by omega) _,zae HG2.out (Nat.le_refl _) _⟩
                 exact (HT.out.set_row (fun b hb=>by omega) _).weak (fun b hb _=>by omega)
               ·have HK:Hid (zc0 (rd s (p+1))=.none):=zq1 (fun c hc he=>by
                 rcases hc with rfl | rfl | rfl | rfl | rfl | rfl | rfl | rfl | rfl | rfl<;>contradiction)
                have f105:(nx (rd s) (p+1)==105)=false:=by simp;exact fun h=>v105 ((zfz (by omega)).1 h)
                have f73:(nx (rd s) (p+1)==73)=false:=by simp;exact fun h=>v73 ((zfz (by omega)).1 h)
                have f115:(nx (rd s) (p+1)==115)=false:=by simp;exact fun h=>v115 ((zfz (by omega)).1 h)
                have f83:(nx (rd s) (p+1)==83)=false:=by simp;exact fun h=>v83 ((zfz (by omega)).1 h)
                have f98:(nx (rd s) (p+1)==98)=false:=by simp;exact fun h=>v98 ((zfz (by omega)).1 h)
                have f66:(nx (rd s) (p+1)==66)=false:=by simp;exact fun h=>v66 ((zfz (by omega)).1 h)
                have f100:(nx (rd s) (p+1)==100)=false:=by simp;exact fun h=>v100 ((zfz (by omega)).1 h)
                have f68:(nx (rd s) (p+1)==68)=false:=by simp;exact fun h=>v68 ((zfz (by omega)).1 h)
                have HX1:=hh9 v120
                have HX2:=hh9 v88
                clear v105 v73 v115 v83 v98 v66 v100 v68 v120 v88
                go_enter Tryz.func183,Tryz.ntmps183
                go_wp2_with fail
                refine (zag HA.out hs hp).mono ?_
                rw [HN.out]
                rintro e w1 ⟨rfl,n,rfl⟩
                go_wp2_with fail
                refine (zaw _ _).mono ?_
                rw [show isAl 37=false by decide]
                rintro e w1 ⟨rfl,rfl⟩
                go_wp2_with fail
                refine (zb1 (HA.out.drew n) hs 37 (by omega) H37.out).mono ?_
                rintro e w3 ⟨rfl,ha,hg⟩
                have hz3:w.heap.size+1<=w3.heap.size:=by have:=hg.size;simp at this;omega
                have HR3:=hh9 (za8 (W:=(w.alloc (.cells #[.int .i64 0,.string ⟨#[]⟩,.slice none 0 0,.int .i64 0,.int .i64 0,.slice none 0 0] 35)).drewN n) HR.out hg (by omega))
                have HG3:=hh9 ((za5 HG.out n).trans hg)
                have HA3:=hh9 ha
                clear ha hg HR HG HA
                go_wp2_with fail
                refine (zag HA3.out hs hlt).mono ?_
                rintro e w4 ⟨rfl,n2,rfl⟩
                go_wp2_with fail
                refine (zci (HA3.out.drew n2) hs hlt 120 (by omega) HX1.out).mono ?_
                rintro e w5 ⟨rfl,ha,hg⟩
                have HG5:=hh9 ((za5 HG3.out n2).trans hg)
                have HA5:=hh9 ha
                clear ha hg HR3 HG3 HA3
                go_wp2_with fail
                refine (zi2 HA5.out hs hlt 88 (by omega) HX2.out).mono ?_
                rintro e w4 ⟨rfl,hg⟩
                have HG4:=hh9 (HG5.out.trans hg)
                clear hg
                go_wp2_with fail
                exact ⟨rfl,_,.valueNo H37.out HK.out,rfl,HG4.out⟩
     ·have e1:(nx (rd s) p==40)=false:=by simp;exact fun h=>h40 ((zfz (by omega)).1 h)
      have e2:(nx (rd s) p==91)=false:=by simp;exact fun h=>h91 ((zfz (by omega)).1 h)
      have e3:(nx (rd s) p==34)=false:=by simp;exact fun h=>h34 ((zfz (by omega)).1 h)
      have H37:=hh9 h37
      have HANS:Hid (Ans (rd s) .elem d p (.err 20)):=.no hal h40 h91 h34 h37
      have HAL:=hh9 (zmw.trans hal)
      clear h40 hal h91 h34 h37
      go_enter Tryz.func183,Tryz.ntmps183
      go_wp2_with fail
      refine (zag HA.out hs hp).mono ?_
      rintro e w1 ⟨rfl,n,rfl⟩
      go_wp2_with fail
      refine (zaw _ _).mono ?_
      rw [HAL.out]
      rintro e w1 ⟨rfl,rfl⟩
      go_wp2_with fail
      refine (zi2 (HA.out.drew n) hs hp 37 (by omega) H37.out).mono ?_
      rintro e w2 ⟨rfl,hg⟩
      have HG2:=hh9 ((za5 HG.out n).trans hg)
      clear hg
      go_wp2_with fail
      exact ⟨rfl,_,HANS.out,rfl,HG2.out⟩
 ·have HAL:=hh9 (zmw.trans hal)
  have HAL0:=hh9 hal
  clear hal
  cases hn:zcc (rd s) p with
  | err c =>
   have HE:=hh9 hn
   clear hn
   go_enter Tryz.func183,Tryz.ntmps183
   go_wp2_with fail
   refine (zag HA.out hs hp).mono ?_
   rintro e w1 ⟨rfl,n,rfl⟩
   go_wp2_with fail
   refine (zaw _ _).mono ?_
   rw [HAL.out]
   rintro e w1 ⟨rfl,rfl⟩
   go_wp2_with fail
   refine (zh9 (HA.out.drew n) hs hp).mono ?_
   rw [HE.out]
   rintro e w2 ⟨rfl,hg⟩
   have HG2:=hh9 ((za5 HG.out n).trans hg)
   clear hg
   go_wp2_with fail
   exact ⟨rfl,_,.nameErr HAL0.out HE.out,rfl,HG2.out⟩
  | ok x q =>
   have HE:=hh9 hn
   clear hn
   go_enter Tryz.func183,Tryz.ntmps183
   go_wp2_with fail
   refine (zag HA.out hs hp).mono ?_
   rintro e w1 ⟨rfl,n,rfl⟩
   go_wp2_with fail
   refine (zaw _ _).mono ?_
   rw [HAL.out]
   rintro e w1 ⟨rfl,rfl⟩
   go_wp2_with fail
   refine (zh9 (HA.out.drew n) hs hp).mono ?_
   rw [HE.out]
   rintro e w2 ⟨hqs,rfl,ha,hg⟩
   have hz2:w.heap.size+1<=w2.heap.size:=by have:=hg.size;simp at this;omega
   have HR2:=hh9 (za8 (W:=(w.alloc (.cells #[.int .i64 0,.string ⟨#[]⟩,.slice none 0 0,.int .i64 0,.int .i64 0,.slice none 0 0] 35)).drewN n) HR.out hg (by omega))
   have HG2:=hh9 ((za5 HG.out n).trans hg)
   have HA2:=hh9 ha
   clear ha hg
   go_wp2_with (refine za6 rfl _ _ rfl w.heap.size ⟨4,za3 x,.slice none 0 0,0,0,.slice none 0 0⟩ rfl rfl HR2.out rfl rfl ?_)
   refine bodyPost_ret_by (zaj rfl _ _ w.heap.size ⟨4,za3 x,.slice none 0 0,0,0,.slice none 0 0⟩ rfl HR2.out) rfl ⟨_,.nameOk HAL0.out HE.out,_,?_,hqs,rfl,HA2.out.set_row (by omega) _,zae HG2.out (Nat.le_refl _) _⟩
   exact zd4 _ _ _ _ _ _
end Go.Proofs.YtekjnfldgjcgeaaGreatDoor
