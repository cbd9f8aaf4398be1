/- Part 35 of what the laws of the grammar rest on. -/
import Derived.Test.YtekjnfldgjcgeaaGreatDoorA32
import Derived.Test.YtekjnfldgjcgeaaGreatDoorA34
set_option linter.all false
set_option maxRecDepth 100000
set_option maxHeartbeats 8000000
namespace Go.Proofs.YtekjnfldgjcgeaaGreatDoor
open Go.RowKit
theorem ztv {R p:Nat} {s:ByteArray} {w:World} (h:AtY w R s p 0) (hs:s.size<=50000) (h37:rd s p=37) :
  Calls Tryz.prog 117 #[.pointer (some ⟨R,0,none⟩)] w (ValueY R s p w):=by
 by_cases hnum:0<=rd s (p+1)/\(orv (rd s (p+1))=98\/orv (rd s (p+1))=100\/orv (rd s (p+1))=120)
 ·obtain ⟨h0,hC⟩:=hnum
  rcases hC with hC | hC | hC
  ·exact zgw (.inl ⟨rfl,rfl⟩) h hs h37 hC h0
  ·exact zgw (.inr (.inl ⟨rfl,rfl⟩)) h hs h37 hC h0
  ·exact zgw (.inr (.inr ⟨rfl,rfl⟩)) h hs h37 hC h0
 have hR:=h.lt
 have hlt:=zbu (by omega) h37
 obtain ⟨p1,hp1⟩:∃ p1,p+1=p1:=⟨_,rfl⟩
 obtain ⟨p2,hp2⟩:∃ p2,p1+1=p2:=⟨_,rfl⟩
 obtain ⟨c0,c1,c2,z0,z1,z2⟩:=h.cells
 have HA1:=hh9 ((h.put (x:=(p:Int)+1) (q:=p1) (by omega)).alloc (.cells #[.int .i64 0,.string ⟨#[]⟩,.slice none 0 0,.int .i64 0,.int .i64 0,.slice none 0 0] 35))
 have HG1:=hh9 (zao (zah (zak w (some R)) 1 (.int .i64 ((p:Int)+1))) (.cells #[.int .i64 0,.string ⟨#[]⟩,.slice none 0 0,.int .i64 0,.int .i64 0,.slice none 0 0] 35))
 have HR1:Hid (Res0 ((w.setCell ⟨R,1,none⟩ (.int .i64 ((p:Int)+1))).alloc (.cells #[.int .i64 0,.string ⟨#[]⟩,.slice none 0 0,.int .i64 0,.int .i64 0,.slice none 0 0] 35)) w.heap.size):=by
  have g:=zav (w.setCell ⟨R,1,none⟩ (.int .i64 ((p:Int)+1)))
  rwa [show (w.setCell ⟨R,1,none⟩ (.int .i64 ((p:Int)+1))).heap.size=w.heap.size by simp] at g
 have hz1:w.heap.size+1<=((w.setCell ⟨R,1,none⟩ (.int .i64 ((p:Int)+1))).alloc (.cells #[.int .i64 0,.string ⟨#[]⟩,.slice none 0 0,.int .i64 0,.int .i64 0,.slice none 0 0] 35)).heap.size:=by simp
 have hZr:=zge s p1
 obtain ⟨Z,hZ⟩:∃ z,rd s p1=z:=⟨_,rfl⟩
 rw [hZ] at hZr
 have HZ:=hh9 hZ
 have H37:=hh9 h37
 have HP1:=hh9 hp1
 have HP2:=hh9 hp2
 have e1:p1+1<=p2/\p2<=p1+1/\p+1<=p1/\p1<=p+1/\p1<=s.size:=by omega
 obtain ⟨e1,e2,e3,e4,e5⟩:=e1
 have HNO:Hid (zc0 Z=.none->∀ d,Ans (rd s) .elem d p (.err 20)):=fun g d=>.valueNo h37 (by rw [hp1,hZ];exact g)
 clear h h37 hZ hp1 hp2
 rw [HP1.out,HZ.out] at hnum
 by_cases hneg:Z<0
 ·have hz:Z=-1:=by omega
  subst hz
  have hor:bits .or .i64 (-1) 32=-1:=by decide
  have HNONE:=hh9 (HNO.out (zx5 (.inl (by omega))))
  clear HNO hnum
  go_enter Tryz.func117,Tryz.ntmps117
  go_wp2_with fail
  refine (yat0 HA1.out hs (by omega) _ HZ.out).mono ?_
  rintro e w2 ⟨rfl,hb⟩
  have HA2:=hh9 (HA1.out.below hb)
  have HG2:=hh9 (za4 HG1.out hb)
  have HR2:=hh9 (HR1.out.kept (hb.block _ HR1.out.lt))
  have hz2:w.heap.size+1<=w2.heap.size:=Nat.le_trans hz1 hb.size
  clear hb
  go_wp2_with fail
  refine (yat0 HA2.out hs (by omega) _ HZ.out).mono ?_
  rintro e w3 ⟨rfl,hb⟩
  have HA3:=hh9 (HA2.out.below hb)
  have HG3:=hh9 (za4 HG2.out hb)
  have HR3:=hh9 (HR2.out.kept (hb.block _ HR2.out.lt))
  have hz3:w.heap.size+1<=w3.heap.size:=Nat.le_trans hz2 hb.size
  obtain ⟨d0,d1,d2,y0,y1,y2⟩:=HA3.out.cells
  clear hb HA1 HG1 HR1 HA2 HG2 HR2 hz1 hz2 c0 c1 c2 z0 z1 z2
  have HA4':=hh9 (HA3.out.put (x:=(p1:Int)+1) (q:=p2) (by omega))
  go_wp2_with fail
  refine (zba HA4'.out 20).mono ?_
  rintro e w5 ⟨rfl,ha,hg⟩
  have hg':=(zah (zak w3 (some R)) 1 (.int .i64 ((p1:Int)+1))).trans hg
  have HA5:=hh9 ha
  have HG5:=hh9 (HG3.out.trans hg')
  have HR5:=hh9 (za8 HR3.out hg' (by omega))
  clear ha hg hg'
  go_wp2_with (refine za6 rfl _ _ rfl w.heap.size ⟨0,⟨#[]⟩,.slice none 0 0,0,0,.slice none 0 0⟩ rfl rfl HR5.out rfl rfl ?_)
  exact bodyPost_ret_by (zaj rfl _ _ w.heap.size ⟨0,⟨#[]⟩,.slice none 0 0,0,0,.slice none 0 0⟩ rfl HR5.out) rfl ⟨_,.mk 0 [] [] 0 0 [],p2,20,zd4 _ _ 0 0 0 [],⟨rfl,HA5.out.set_row (by omega) _,zae HG5.out (Nat.le_refl _) _⟩,.inr ⟨by omega,by omega,HNONE.out⟩⟩
 ·have hor0:=qcd Z (by omega) (by omega)
  obtain ⟨C,hC⟩:∃ C,orv Z=C:=⟨_,rfl⟩
  have hor:bits .or .i64 Z 32=C:=by rw [hor0,hC]
  have hlt1:p1<s.size:=zbu (by omega) HZ.out
  have hnot:C≠98/\C≠100/\C≠120:=by rw [hC] at hnum;exact ⟨fun e=>hnum ⟨by omega,.inl e⟩,fun e=>hnum ⟨by omega,.inr (.inl e)⟩,fun e=>hnum ⟨by omega,.inr (.inr e)⟩⟩
  clear hnum
  by_cases h105:C=105
  ·subst h105
   clear hnot
   have hK:=qdq (Z:=Z) (by omega) (by omega) hC
   have HKB:=hh9 (show zc0 (rd s p1)=.text false by rw [HZ.out];exact hK)
   have hV2:Hid (∀ x q,zb2 (rd s) p2=.ok x q->∀ d,Ans (rd s) .elem d p (.ok (litT x false) q)):=by
    have g1:=HP1.out
    have g2:=HP2.out
    have e:p2=p+2:=by omega
    rw [e]
    exact fun x q hr d=>.litOk H37.out (by rw [g1];exact HKB.out) hr
   have hV3:Hid (∀ c,zb2 (rd s) p2=.err c->∀ d,Ans (rd s) .elem d p (.err c)):=by
    have g1:=HP1.out
    have g2:=HP2.out
    have e:p2=p+2:=by omega
    rw [e]
    exact fun c hr d=>.litErr H37.out (by rw [g1];exact HKB.out) hr
   clear HNO hC hor0
   by_cases h34:rd s p2=34
   ·have H34:Hid (rd s (p1+1)=34):=by rw [HP2.out];exact h34
    have H34b:=hh9 h34
    clear h34
    go_enter Tryz.func117,Tryz.ntmps117
    go_wp2_with fail
    refine (yat0 HA1.out hs (by omega) _ HZ.out).mono ?_
    rintro e w2 ⟨rfl,hb⟩
    have HA2:=hh9 (HA1.out.below hb)
    have HG2:=hh9 (za4 HG1.out hb)
    have HR2:=hh9 (HR1.out.kept (hb.block _ HR1.out.lt))
    have hz2:w.heap.size+1<=w2.heap.size:=Nat.le_trans hz1 hb.size
    clear hb
    go_wp2_with fail
    refine (yat0 HA2.out hs (by omega) _ HZ.out).mono ?_
    rintro e w3 ⟨rfl,hb⟩
    have HA3:=hh9 (HA2.out.below hb)
    have HG3:=hh9 (za4 HG2.out hb)
    have HR3:=hh9 (HR2.out.kept (hb.block _ HR2.out.lt))
    have hz3:w.heap.size+1<=w3.heap.size:=Nat.le_trans hz2 hb.size
    obtain ⟨d0,d1,d2,y0,y1,y2⟩:=HA3.out.cells
    clear hb HA1 HG1 HR1 HA2 HG2 HR2 hz1 hz2 c0 c1 c2 z0 z1 z2
    go_wp2_with fail
    refine (zb7 HA3.out hs (by omega) 1 (by omega) 1 rfl 34 H34.out).mono ?_
    rintro e w4 ⟨rfl,hb⟩
    have HA4:=hh9 (HA3.out.below hb)
    have HG4:=hh9 (za4 HG3.out hb)
    have HR4:=hh9 (HR3.out.kept (hb.block _ HR3.out.lt))
    have hz4:w.heap.size+1<=w4.heap.size:=Nat.le_trans hz3 hb.size
    clear hb d0 d1 d2 y0 y1 y2
    obtain ⟨d0,d1,d2,y0,y1,y2⟩:=HA4.out.cells
    have HA5:=hh9 (HA4.out.put (x:=(p1:Int)+1) (q:=p2) (by omega))
    have HG5:=hh9 (zah HG4.out 1 (.int .i64 ((p1:Int)+1)))
    have HR5:Hid (Res0 (w4.setCell ⟨R,1,none⟩ (.int .i64 ((p1:Int)+1))) w.heap.size):=zdh HR4.out (by omega)
    have hz5:w.heap.size+1<=(w4.setCell ⟨R,1,none⟩ (.int .i64 ((p1:Int)+1))).heap.size:=by simpa using hz4
    clear HA3 HG3 HR3 hz3 HA4 HG4 HR4 hz4
    go_wp2_with fail
    refine (zm7 HA5.out hs H34b.out).mono ?_
    rintro e w6 ⟨x,t,q,c,ht,⟨rfl,ha,hg⟩,hout⟩
    have H2:=hh9 (zaa ht)
    have H5:=hh9 (zab ht)
    have HT:=hh9 (ht.weak (P':=fun b=>w.heap.size+1<=b) (fun b hP _=>by omega))
    have HA6:=hh9 ha
    have HG6:=hh9 (HG5.out.trans hg)
    have HR6:=hh9 (za8 HR5.out hg (by omega))
    have HFIN:Hid (OutV s p t q c):=by
     rcases hout with ⟨rfl,h1,xs,h2,h3⟩ | ⟨rfl,h1,h2⟩
     ·refine .inl ⟨rfl,?_,h1,fun d=>?_⟩
      ·have:=(zf7 h2).1
       omega
      ·have h4:=hV2.out _ _ h2 d
       rw [h3]
       exact h4
     ·exact .inr ⟨by omega,by omega,hV3.out _ h2⟩
    clear ht ha hg hout HA5 HG5 HR5
    go_wp2_with (refine za6 rfl _ _ rfl w.heap.size x rfl rfl HR6.out H2.out H5.out ?_)
    exact bodyPost_ret_by (zaj rfl _ _ w.heap.size x rfl HR6.out) rfl ⟨x,t,q,c,(HT.out.set_row (fun b hb=>by omega) _).weak (fun b hb _=>by omega),⟨rfl,HA6.out.set_row (by omega) _,zae HG6.out (Nat.le_refl _) _⟩,HFIN.out⟩
   ·have HNONE:Hid (∀ d,Ans (rd s) .elem d p (.err 20)):=hV3.out 20 (by unfold zb2;rw [if_neg h34])
    obtain ⟨Y,hY⟩:∃ y,rd s p2=y:=⟨_,rfl⟩
    have qy:(Y==34)=false:=by rw [<- hY];simpa using h34
    have HY:Hid (rd s (p1+1)=Y):=by rw [HP2.out];exact hY
    clear hY h34
    go_enter Tryz.func117,Tryz.ntmps117
    go_wp2_with fail
    refine (yat0 HA1.out hs (by omega) _ HZ.out).mono ?_
    rintro e w2 ⟨rfl,hb⟩
    have HA2:=hh9 (HA1.out.below hb)
    have HG2:=hh9 (za4 HG1.out hb)
    have HR2:=hh9 (HR1.out.kept (hb.block _ HR1.out.lt))
    have hz2:w.heap.size+1<=w2.heap.size:=Nat.le_trans hz1 hb.size
    clear hb
    go_wp2_with fail
    refine (yat0 HA2.out hs (by omega) _ HZ.out).mono ?_
    rintro e w3 ⟨rfl,hb⟩
    have HA3:=hh9 (HA2.out.below hb)
    have HG3:=hh9 (za4 HG2.out hb)
    have HR3:=hh9 (HR2.out.kept (hb.block _ HR2.out.lt))
    have hz3:w.heap.size+1<=w3.heap.size:=Nat.le_trans hz2 hb.size
    obtain ⟨d0,d1,d2,y0,y1,y2⟩:=HA3.out.cells
    clear hb HA1 HG1 HR1 HA2 HG2 HR2 hz1 hz2 c0 c1 c2 z0 z1 z2
    go_wp2_with fail
    refine (zb7 HA3.out hs (by omega) 1 (by omega) 1 rfl Y HY.out).mono ?_
    rintro e w4 ⟨rfl,hb⟩
    have HA4:=hh9 (HA3.out.below hb)
    have HG4:=hh9 (za4 HG3.out hb)
    have HR4:=hh9 (HR3.out.kept (hb.block _ HR3.out.lt))
    have hz4:w.heap.size+1<=w4.heap.size:=Nat.le_trans hz3 hb.size
    clear hb d0 d1 d2 y0 y1 y2 HA3 HG3 HR3
    obtain ⟨d0,d1,d2,y0,y1,y2⟩:=HA4.out.cells
    have HA4':=hh9 (HA4.out.put (x:=(p1:Int)+1) (q:=p2) (by omega))
    go_wp2_with fail
    refine (zba HA4'.out 20).mono ?_
    rintro e w5 ⟨rfl,ha,hg⟩
    have hg':=(zah (zak w4 (some R)) 1 (.int .i64 ((p1:Int)+1))).trans hg
    have HA5:=hh9 ha
    have HG5:=hh9 (HG4.out.trans hg')
    have HR5:=hh9 (za8 HR4.out hg' (by omega))
    clear ha hg hg'
    go_wp2_with (refine za6 rfl _ _ rfl w.heap.size ⟨0,⟨#[]⟩,.slice none 0 0,0,0,.slice none 0 0⟩ rfl rfl HR5.out rfl rfl ?_)
    exact bodyPost_ret_by (zaj rfl _ _ w.heap.size ⟨0,⟨#[]⟩,.slice none 0 0,0,0,.slice none 0 0⟩ rfl HR5.out) rfl ⟨_,.mk 0 [] [] 0 0 [],p2,20,zd4 _ _ 0 0 0 [],⟨rfl,HA5.out.set_row (by omega) _,zae HG5.out (Nat.le_refl _) _⟩,.inr ⟨by omega,by omega,HNONE.out⟩⟩
  ·by_cases h115:C=115
   ·subst h115
    clear hnot h105
    have hK:=qdr (Z:=Z) (by omega) (by omega) hC
    have HKB:=hh9 (show zc0 (rd s p1)=.text true by rw [HZ.out];exact hK)
    have hV2:Hid (∀ x q,zb2 (rd s) p2=.ok x q->∀ d,Ans (rd s) .elem d p (.ok (litT x true) q)):=by
     have g1:=HP1.out
     have g2:=HP2.out
     have e:p2=p+2:=by omega
     rw [e]
     exact fun x q hr d=>.litOk H37.out (by rw [g1];exact HKB.out) hr
    have hV3:Hid (∀ c,zb2 (rd s) p2=.err c->∀ d,Ans (rd s) .elem d p (.err c)):=by
     have g1:=HP1.out
     have g2:=HP2.out
     have e:p2=p+2:=by omega
     rw [e]
     exact fun c hr d=>.litErr H37.out (by rw [g1];exact HKB.out) hr
    clear HNO hC hor0
    by_cases h34:rd s p2=34
    ·have H34:Hid (rd s (p1+1)=34):=by rw [HP2.out];exact h34
     have H34b:=hh9 h34
     clear h34
     go_enter Tryz.func117,Tryz.ntmps117
     go_wp2_with fail
     refine (yat0 HA1.out hs (by omega) _ HZ.out).mono ?_
     rintro e w2 ⟨rfl,hb⟩
     have HA2:=hh9 (HA1.out.below hb)
     have HG2:=hh9 (za4 HG1.out hb)
     have HR2:=hh9 (HR1.out.kept (hb.block _ HR1.out.lt))
     have hz2:w.heap.size+1<=w2.heap.size:=Nat.le_trans hz1 hb.size
     clear hb
     go_wp2_with fail
     refine (yat0 HA2.out hs (by omega) _ HZ.out).mono ?_
     rintro e w3 ⟨rfl,hb⟩
     have HA3:=hh9 (HA2.out.below hb)
     have HG3:=hh9 (za4 HG2.out hb)
     have HR3:=hh9 (HR2.out.kept (hb.block _ HR2.out.lt))
     have hz3:w.heap.size+1<=w3.heap.size:=Nat.le_trans hz2 hb.size
     obtain ⟨d0,d1,d2,y0,y1,y2⟩:=HA3.out.cells
     clear hb HA1 HG1 HR1 HA2 HG2 HR2 hz1 hz2 c0 c1 c2 z0 z1 z2
     go_wp2_with fail
     refine (zb7 HA3.out hs (by omega) 1 (by omega) 1 rfl 34 H34.out).mono ?_
     rintro e w4 ⟨rfl,hb⟩
     have HA4:=hh9 (HA3.out.below hb)
     have HG4:=hh9 (za4 HG3.out hb)
     have HR4:=hh9 (HR3.out.kept (hb.block _ HR3.out.lt))
     have hz4:w.heap.size+1<=w4.heap.size:=Nat.le_trans hz3 hb.size
     clear hb d0 d1 d2 y0 y1 y2
     obtain ⟨d0,d1,d2,y0,y1,y2⟩:=HA4.out.cells
     have HA5:=hh9 (HA4.out.put (x:=(p1:Int)+1) (q:=p2) (by omega))
     have HG5:=hh9 (zah HG4.out 1 (.int .i64 ((p1:Int)+1)))
     have HR5:Hid (Res0 (w4.setCell ⟨R,1,none⟩ (.int .i64 ((p1:Int)+1))) w.heap.size):=zdh HR4.out (by omega)
     have hz5:w.heap.size+1<=(w4.setCell ⟨R,1,none⟩ (.int .i64 ((p1:Int)+1))).heap.size:=by simpa using hz4
     clear HA3 HG3 HR3 hz3 HA4 HG4 HR4 hz4
     go_wp2_with fail
     refine (ztt HA5.out hs H34b.out).mono ?_
     rintro e w6 ⟨x,t,q,c,ht,⟨rfl,ha,hg⟩,hout⟩
     have H2:=hh9 (zaa ht)
     have H5:=hh9 (zab ht)
     have HT:=hh9 (ht.weak (P':=fun b=>w.heap.size+1<=b) (fun b hP _=>by omega))
     have HA6:=hh9 ha
     have HG6:=hh9 (HG5.out.trans hg)
     have HR6:=hh9 (za8 HR5.out hg (by omega))
     have HFIN:Hid (OutV s p t q c):=by
      rcases hout with ⟨rfl,h1,xs,h2,h3⟩ | ⟨rfl,h1,h2⟩
      ·refine .inl ⟨rfl,?_,h1,fun d=>?_⟩
       ·have:=(zf7 h2).1
        omega
       ·have h4:=hV2.out _ _ h2 d
        rw [h3]
        exact h4
      ·exact .inr ⟨by omega,by omega,hV3.out _ h2⟩
     clear ht ha hg hout HA5 HG5 HR5
     go_wp2_with (refine za6 rfl _ _ rfl w.heap.size x rfl rfl HR6.out H2.out H5.out ?_)
     exact bodyPost_ret_by (zaj rfl _ _ w.heap.size x rfl HR6.out) rfl ⟨x,t,q,c,(HT.out.set_row (fun b hb=>by omega) _).weak (fun b hb _=>by omega),⟨rfl,HA6.out.set_row (by omega) _,zae HG6.out (Nat.le_refl _) _⟩,HFIN.out⟩
    ·have HNONE:Hid (∀ d,Ans (rd s) .elem d p (.err 20)):=hV3.out 20 (by unfold zb2;rw [if_neg h34])
     obtain ⟨Y,hY⟩:∃ y,rd s p2=y:=⟨_,rfl⟩
     have qy:(Y==34)=false:=by rw [<- hY];simpa using h34
     have HY:Hid (rd s (p1+1)=Y):=by rw [HP2.out];exact hY
     clear hY h34
     go_enter Tryz.func117,Tryz.ntmps117
     go_wp2_with fail
     refine (yat0 HA1.out hs (by omega) _ HZ.out).mono ?_
     rintro e w2 ⟨rfl,hb⟩
     have HA2:=hh9 (HA1.out.below hb)
     have HG2:=hh9 (za4 HG1.out hb)
     have HR2:=hh9 (HR1.out.kept (hb.block _ HR1.out.lt))
     have hz2:w.heap.size+1<=w2.heap.size:=Nat.le_trans hz1 hb.size
     clear hb
     go_wp2_with fail
     refine (yat0 HA2.out hs (by omega) _ HZ.out).mono ?_
     rintro e w3 ⟨rfl,hb⟩
     have HA3:=hh9 (HA2.out.below hb)
     have HG3:=hh9 (za4 HG2.out hb)
     have HR3:=hh9 (HR2.out.kept (hb.block _ HR2.out.lt))
     have hz3:w.heap.size+1<=w3.heap.size:=Nat.le_trans hz2 hb.size
     obtain ⟨d0,d1,d2,y0,y1,y2⟩:=HA3.out.cells
     clear hb HA1 HG1 HR1 HA2 HG2 HR2 hz1 hz2 c0 c1 c2 z0 z1 z2
     go_wp2_with fail
     refine (zb7 HA3.out hs (by omega) 1 (by omega) 1 rfl Y HY.out).mono ?_
     rintro e w4 ⟨rfl,hb⟩
     have HA4:=hh9 (HA3.out.below hb)
     have HG4:=hh9 (za4 HG3.out hb)
     have HR4:=hh9 (HR3.out.kept (hb.block _ HR3.out.lt))
     have hz4:w.heap.size+1<=w4.heap.size:=Nat.le_trans hz3 hb.size
     clear hb d0 d1 d2 y0 y1 y2 HA3 HG3 HR3
     obtain ⟨d0,d1,d2,y0,y1,y2⟩:=HA4.out.cells
     have HA4':=hh9 (HA4.out.put (x:=(p1:Int)+1) (q:=p2) (by omega))
     go_wp2_with fail
     refine (zba HA4'.out 20).mono ?_
     rintro e w5 ⟨rfl,ha,hg⟩
     have hg':=(zah (zak w4 (some R)) 1 (.int .i64 ((p1:Int)+1))).trans hg
     have HA5:=hh9 ha
     have HG5:=hh9 (HG4.out.trans hg')
     have HR5:=hh9 (za8 HR4.out hg' (by omega))
     clear ha hg hg'
     go_wp2_with (refine za6 rfl _ _ rfl w.heap.size ⟨0,⟨#[]⟩,.slice none 0 0,0,0,.slice none 0 0⟩ rfl rfl HR5.out rfl rfl ?_)
     exact bodyPost_ret_by (zaj rfl _ _ w.heap.size ⟨0,⟨#[]⟩,.slice none 0 0,0,0,.slice none 0 0⟩ rfl HR5.out) rfl ⟨_,.mk 0 [] [] 0 0 [],p2,20,zd4 _ _ 0 0 0 [],⟨rfl,HA5.out.set_row (by omega) _,zae HG5.out (Nat.le_refl _) _⟩,.inr ⟨by omega,by omega,HNONE.out⟩⟩
   ·obtain ⟨h98,h100,h120⟩:=hnot
    have q1:(C==98)=false:=by simpa using h98
    have q2:(C==100)=false:=by simpa using h100
    have q3:(C==120)=false:=by simpa using h120
    have q4:(C==105)=false:=by simpa using h105
    have q5:(C==115)=false:=by simpa using h115
    have HNONE:=hh9 (HNO.out (zx5 (.inr ⟨by omega,by omega,by omega,by omega,by omega,by omega,by omega⟩)))
    clear HNO hor0 hC h98 h100 h120 h105 h115
    go_enter Tryz.func117,Tryz.ntmps117
    go_wp2_with fail
    refine (yat0 HA1.out hs (by omega) _ HZ.out).mono ?_
    rintro e w2 ⟨rfl,hb⟩
    have HA2:=hh9 (HA1.out.below hb)
    have HG2:=hh9 (za4 HG1.out hb)
    have HR2:=hh9 (HR1.out.kept (hb.block _ HR1.out.lt))
    have hz2:w.heap.size+1<=w2.heap.size:=Nat.le_trans hz1 hb.size
    clear hb
    go_wp2_with fail
    refine (yat0 HA2.out hs (by omega) _ HZ.out).mono ?_
    rintro e w3 ⟨rfl,hb⟩
    have HA3:=hh9 (HA2.out.below hb)
    have HG3:=hh9 (za4 HG2.out hb)
    have HR3:=hh9 (HR2.out.kept (hb.block _ HR2.out.lt))
    have hz3:w.heap.size+1<=w3.heap.size:=Nat.le_trans hz2 hb.size
    obtain ⟨d0,d1,d2,y0,y1,y2⟩:=HA3.out.cells
    clear hb HA1 HG1 HR1 HA2 HG2 HR2 hz1 hz2 c0 c1 c2 z0 z1 z2
    have HA4':=hh9 (HA3.out.put (x:=(p1:Int)+1) (q:=p2) (by omega))
    go_wp2_with fail
    refine (zba HA4'.out 20).mono ?_
    rintro e w5 ⟨rfl,ha,hg⟩
    have hg':=(zah (zak w3 (some R)) 1 (.int .i64 ((p1:Int)+1))).trans hg
    have HA5:=hh9 ha
    have HG5:=hh9 (HG3.out.trans hg')
    have HR5:=hh9 (za8 HR3.out hg' (by omega))
    clear ha hg hg'
    go_wp2_with (refine za6 rfl _ _ rfl w.heap.size ⟨0,⟨#[]⟩,.slice none 0 0,0,0,.slice none 0 0⟩ rfl rfl HR5.out rfl rfl ?_)
    exact bodyPost_ret_by (zaj rfl _ _ w.heap.size ⟨0,⟨#[]⟩,.slice none 0 0,0,0,.slice none 0 0⟩ rfl HR5.out) rfl ⟨_,.mk 0 [] [] 0 0 [],p2,20,zd4 _ _ 0 0 0 [],⟨rfl,HA5.out.set_row (by omega) _,zae HG5.out (Nat.le_refl _) _⟩,.inr ⟨by omega,by omega,HNONE.out⟩⟩
theorem qds {s:ByteArray} {d p:Nat} {t:Tree} {q:Nat} {c:Int} (h40:rd s p=40) (h:zqf s d p 41 t q c):OutY false s d .elem p t q c:=by
 rcases h with ⟨rfl,h1,h2,h3⟩ | ⟨h1,h2,h3⟩
 ·exact .inl ⟨rfl,h1,h2,zmz h40 h3⟩
 ·exact .inr ⟨h1,h2,zmz h40 h3⟩
theorem qdt {s:ByteArray} {d p:Nat} {t:Tree} {q:Nat} {c:Int} (h91:rd s p=91) (h:zqf s d p 93 t q c):OutY false s d .elem p (repT 0 1 t) q c:=by
 rcases h with ⟨rfl,h1,h2,h3⟩ | ⟨h1,h2,h3⟩
 ·exact .inl ⟨rfl,h1,h2,zim h91 h3⟩
 ·exact .inr ⟨h1,h2,zh6 h91 h3⟩
theorem ztw {k:Nat} (hel:∀ k',k'<k->zfq 36 true .alts k') (hbe:k≠0->ze3 36):znd 96 k:=by
 intro R p d c0 s w h hs hp hp2 hd
 have hR:=h.lt
 have HR:=hh9 (zav w)
 have HA:=hh9 (h.alloc (.cells #[.int .i64 0,.string ⟨#[]⟩,.slice none 0 0,.int .i64 0,.int .i64 0,.slice none 0 0] 35))
 have HG:=hh9 (World.grownBy_alloc w (.cells #[.int .i64 0,.string ⟨#[]⟩,.slice none 0 0,.int .i64 0,.int .i64 0,.slice none 0 0] 35) (some R))
 obtain ⟨Z,hZ⟩:∃ z,rd s p=z:=⟨_,rfl⟩
 have HZ:=hh9 hZ
 clear h
 by_cases hc0:c0=0
 ·subst hc0
  obtain ⟨hps,hd5,hkk⟩:=hp rfl
  clear hp hd
  have HEL:Hid (∀ k',k'<s.size-p->zfq 36 true .alts k'):=fun k' hk'=>hel k' (by omega)
  have HBE:Hid (p<s.size->ze3 36):=fun g=>hbe (by omega)
  clear hel hbe
  by_cases h40:Z=40
  ·subst h40
   have HZ2:=hh9 hZ
   have hlt:=zbu (by omega) hZ
   clear hZ
   go_enter Tryz.func96,Tryz.ntmps96
   go_wp2_with fail
   refine (yat0 HA.out hs (by omega) _ HZ.out).mono ?_
   rintro e w1 ⟨rfl,hb⟩
   have HA1:=hh9 (HA.out.below hb)
   have HG1:=hh9 (za4 HG.out hb)
   have HR1:=hh9 (HR.out.kept (hb.block _ HR.out.lt))
   have hz1:w.heap.size+1<=w1.heap.size:=by have:=hb.size;simp at this;omega
   obtain ⟨d0,d1,d2,y0,y1,y2⟩:=HA1.out.cells
   clear hb HA HG HR
   go_wp2_with fail
   refine (zm6 40 41 (by omega) (by omega) HEL.out (HBE.out hlt) HA1.out hs hd5 HZ.out).mono ?_
   rintro e w2 ⟨x,t,q,c,ht,⟨rfl,ha,hg⟩,hout⟩
   have HFIN:=hh9 (qds HZ.out hout)
   clear hout
   have H2:=hh9 (zaa ht)
   have H5:=hh9 (zab ht)
   have HT:=hh9 (ht.weak (P':=fun b=>w.heap.size+1<=b) (fun b hP _=>by omega))
   have HA2:=hh9 ha
   have HG2:=hh9 (HG1.out.trans hg)
   have HR2:=hh9 (za8 HR1.out hg (by omega))
   clear ht ha hg HA1 HG1 HR1 d0 d1 d2 y0 y1 y2
   go_wp2_with (refine za6 rfl _ _ rfl w.heap.size x rfl rfl HR2.out H2.out H5.out ?_)
   exact bodyPost_ret_by (zaj rfl _ _ w.heap.size x rfl HR2.out) rfl ⟨x,t,q,c,(HT.out.set_row (fun b hb=>by omega) _).weak (fun b hb _=>by omega),⟨rfl,HA2.out.set_row (by omega) _,zae HG2.out (Nat.le_refl _) _⟩,.inl ⟨rfl,HFIN.out⟩⟩
  ·have q40:(Z==40)=false:=by simpa using h40
   by_cases h91:Z=91
   ·subst h91
    have hlt:=zbu (by omega) hZ
    clear hZ h40
    go_enter Tryz.func96,Tryz.ntmps96
    go_wp2_with fail
    refine (yat0 HA.out hs (by omega) _ HZ.out).mono ?_
    rintro e w1 ⟨rfl,hb⟩
    have HA1:=hh9 (HA.out.below hb)
    have HG1:=hh9 (za4 HG.out hb)
    have HR1:=hh9 (HR.out.kept (hb.block _ HR.out.lt))
    have hz1:w.heap.size+1<=w1.heap.size:=by have:=hb.size;simp at this;omega
    obtain ⟨d0,d1,d2,y0,y1,y2⟩:=HA1.out.cells
    clear hb HA HG HR
    go_wp2_with fail
    refine (zm6 91 93 (by omega) (by omega) HEL.out (HBE.out hlt) HA1.out hs hd5 HZ.out).mono ?_
    rintro e w2 ⟨x,t,q,c,ht,⟨rfl,ha,hg⟩,hout⟩
    have HFIN:=hh9 (qdt HZ.out hout)
    have H2:=hh9 (zaa ht)
    have H5:=hh9 (zab ht)
    have hz2:w.heap.size+1<=w2.heap.size:=by have:=hg.size;omega
    have HR2:=hh9 (zaz (za8 HR1.out hg (by omega)) (.cells x.arr 35))
    have HG2:=hh9 (zao (HG1.out.trans hg) (.cells x.arr 35))
    have HA2:=hh9 (ha.alloc (.cells x.arr 35))
    have hkids:=zbq.one (W:=w2) (W':=w2.alloc (.cells x.arr 35)) (base:=w.heap.size+1) (g:=w2.heap.size) (ht.weak (fun b hP _=>by omega)) (Nat.le_refl _) hz2 (heap_alloc_new _ _) (fun b _ hl=>heap_alloc_old _ _ hl) (by simp)
    have HT:=hh9 (hkids.tree 3 0 1)
    clear ht ha hg hout hkids HA1 HG1 HR1 d0 d1 d2 y0 y1 y2
    go_wp2_with (first
     | (refine zbc rfl _ rfl x rfl H2.out H5.out ?_)
     | (refine za6 rfl _ _ rfl w.heap.size ⟨3,⟨#[]⟩,.slice none 0 0,0,1,.slice (some ⟨w2.heap.size,0,none⟩) 1 1⟩ rfl rfl HR2.out rfl rfl ?_))
    exact bodyPost_ret_by (zaj rfl _ _ w.heap.size ⟨3,⟨#[]⟩,.slice none 0 0,0,1,.slice (some ⟨w2.heap.size,0,none⟩) 1 1⟩ rfl HR2.out) rfl ⟨_,_,q,c,(HT.out.set_row (fun b hb=>by omega) _).weak (fun b hb _=>by omega),⟨rfl,HA2.out.set_row (by omega) _,zae HG2.out (Nat.le_refl _) _⟩,.inl ⟨rfl,HFIN.out⟩⟩
   ·have q91:(Z==91)=false:=by simpa using h91
    by_cases h34:Z=34
    ·subst h34
     clear hZ h40 h91
     go_enter Tryz.func96,Tryz.ntmps96
     go_wp2_with fail
     refine (yat0 HA.out hs (by omega) _ HZ.out).mono ?_
     rintro e w1 ⟨rfl,hb⟩
     have HA1:=hh9 (HA.out.below hb)
     have HG1:=hh9 (za4 HG.out hb)
     have HR1:=hh9 (HR.out.kept (hb.block _ HR.out.lt))
     have hz1:w.heap.size+1<=w1.heap.size:=by have:=hb.size;simp at this;omega
     obtain ⟨d0,d1,d2,y0,y1,y2⟩:=HA1.out.cells
     clear hb HA HG HR
     go_wp2_with fail
     refine (zm7 HA1.out hs HZ.out).mono ?_
     rintro e w2 ⟨x,t,q,c,ht,⟨rfl,ha,hg⟩,hout⟩
     have hpq:p<s.size:=zbu (by omega) HZ.out
     have HFIN:Hid (OutY false s d .elem p t q c):=by
      rcases hout with ⟨rfl,h1,xs,h2,h3⟩ | ⟨rfl,h1,h2⟩
      ·exact .inl ⟨rfl,Nat.le_of_lt (zf7 h2).1,h1,by rw [h3];exact .quoteOk HZ.out h2⟩
      ·exact .inr ⟨by omega,by omega,.quoteErr HZ.out h2⟩
     clear hout
     have H2:=hh9 (zaa ht)
     have H5:=hh9 (zab ht)
     have HT:=hh9 (ht.weak (P':=fun b=>w.heap.size+1<=b) (fun b hP _=>by omega))
     have HA2:=hh9 ha
     have HG2:=hh9 (HG1.out.trans hg)
     have HR2:=hh9 (za8 HR1.out hg (by omega))
     clear ht ha hg HA1 HG1 HR1 d0 d1 d2 y0 y1 y2
     go_wp2_with (refine za6 rfl _ _ rfl w.heap.size x rfl rfl HR2.out H2.out H5.out ?_)
     exact bodyPost_ret_by (zaj rfl _ _ w.heap.size x rfl HR2.out) rfl ⟨x,t,q,c,(HT.out.set_row (fun b hb=>by omega) _).weak (fun b hb _=>by omega),⟨rfl,HA2.out.set_row (by omega) _,zae HG2.out (Nat.le_refl _) _⟩,.inl ⟨rfl,HFIN.out⟩⟩
    ·have q34:(Z==34)=false:=by simpa using h34
     by_cases h37:Z=37
     ·subst h37
      clear hZ h40 h91 h34
      go_enter Tryz.func96,Tryz.ntmps96
      go_wp2_with fail
      refine (yat0 HA.out hs (by omega) _ HZ.out).mono ?_
      rintro e w1 ⟨rfl,hb⟩
      have HA1:=hh9 (HA.out.below hb)
      have HG1:=hh9 (za4 HG.out hb)
      have HR1:=hh9 (HR.out.kept (hb.block _ HR.out.lt))
      have hz1:w.heap.size+1<=w1.heap.size:=by have:=hb.size;simp at this;omega
      obtain ⟨d0,d1,d2,y0,y1,y2⟩:=HA1.out.cells
      clear hb HA HG HR
      go_wp2_with fail
      refine (ztv HA1.out hs HZ.out).mono ?_
      rintro e w2 ⟨x,t,q,c,ht,⟨rfl,ha,hg⟩,hout⟩
      have HFIN:Hid (OutY false s d .elem p t q c):=by
       rcases hout with ⟨rfl,h1,h2,h3⟩ | ⟨h0,h1,h3⟩
       ·exact .inl ⟨rfl,h1,h2,h3 d⟩
       ·exact .inr ⟨h0,by omega,h3 d⟩
      clear hout
      have H2:=hh9 (zaa ht)
      have H5:=hh9 (zab ht)
      have HT:=hh9 (ht.weak (P':=fun b=>w.heap.size+1<=b) (fun b hP _=>by omega))
      have HA2:=hh9 ha
      have HG2:=hh9 (HG1.out.trans hg)
      have HR2:=hh9 (za8 HR1.out hg (by omega))
      clear ht ha hg HA1 HG1 HR1 d0 d1 d2 y0 y1 y2
      go_wp2_with (refine za6 rfl _ _ rfl w.heap.size x rfl rfl HR2.out H2.out H5.out ?_)
      exact bodyPost_ret_by (zaj rfl _ _ w.heap.size x rfl HR2.out) rfl ⟨x,t,q,c,(HT.out.set_row (fun b hb=>by omega) _).weak (fun b hb _=>by omega),⟨rfl,HA2.out.set_row (by omega) _,zae HG2.out (Nat.le_refl _) _⟩,.inl ⟨rfl,HFIN.out⟩⟩
     ·have q37:(Z==37)=false:=by simpa using h37
      have HNO:Hid (isAl Z=false->Ans (rd s) .elem d p (.err 20)):=fun g=>.no (by rw [hZ];exact g) (by rw [hZ];exact h40) (by rw [hZ];exact h91) (by rw [hZ];exact h34) (by rw [hZ];exact h37)
      clear hZ h40 h91 h34 h37
      go_enter Tryz.func96,Tryz.ntmps96
      go_wp2_with fail
      refine (yat0 HA.out hs (by omega) _ HZ.out).mono ?_
      rintro e w1 ⟨rfl,hb⟩
      have HA1:=hh9 (HA.out.below hb)
      have HG1:=hh9 (za4 HG.out hb)
      have HR1:=hh9 (HR.out.kept (hb.block _ HR.out.lt))
      have hz1:w.heap.size+1<=w1.heap.size:=by have:=hb.size;simp at this;omega
      obtain ⟨d0,d1,d2,y0,y1,y2⟩:=HA1.out.cells
      clear hb HA HG HR
      go_wp2_with fail
      refine (zp3 HA1.out hs hps).mono ?_
      intro e w2 hn
      obtain ⟨x,q,c,hg3,hout⟩:∃ (x:List Int) (q:Nat) (c:Int),GivesY R s (.string (za3 x)) q c w1 e w2/\OutY false s d .elem p (refT x) q c:=by
       rcases hn with ⟨h1,h2⟩ | ⟨h1,x,q,h2,h3⟩ | ⟨h1,h2,x,q,h3,h4⟩
       ·exact ⟨[],p,20,h2,.inr ⟨by omega,by omega,HNO.out (by rw [<- HZ.out];exact h1)⟩⟩
       ·exact ⟨x,q,0,h3,.inl ⟨rfl,(zem hps h2).1,(zem hps h2).2,.nameOk h1 h2⟩⟩
       ·exact ⟨x,q,2,h4,.inr ⟨by omega,by omega,.nameErr h1 h2⟩⟩
      obtain ⟨rfl,ha,hg⟩:=hg3
      have HFIN:=hh9 hout
      have HA2:=hh9 ha
      have HG2:=hh9 (HG1.out.trans hg)
      have HR2:=hh9 (za8 HR1.out hg (by omega))
      obtain ⟨T,hT⟩:∃ T,T=za3 x:=⟨_,rfl⟩
      have HT:=hh9 hT
      rw [<- hT]
      clear hn hout ha hg hT HA1 HG1 HR1 d0 d1 d2 y0 y1 y2
      go_wp2_with (refine za6 rfl _ _ rfl w.heap.size ⟨4,T,.slice none 0 0,0,0,.slice none 0 0⟩ rfl rfl HR2.out rfl rfl ?_)
      refine bodyPost_ret_by (zaj rfl _ _ w.heap.size ⟨4,T,.slice none 0 0,0,0,.slice none 0 0⟩ rfl HR2.out) rfl ⟨_,refT x,q,c,?_,⟨rfl,HA2.out.set_row (by omega) _,zae HG2.out (Nat.le_refl _) _⟩,.inl ⟨rfl,HFIN.out⟩⟩
      rw [HT.out]
      exact zd4 _ _ _ _ _ _
 ·have qc:(c0 != 0)=true:=by simpa using hc0
  clear hZ hel hbe hp
  go_enter Tryz.func96,Tryz.ntmps96
  go_wp2_with fail
  refine (yat0 HA.out hs (by omega) _ HZ.out).mono ?_
  rintro e w1 ⟨rfl,hb⟩
  have HA1:=hh9 (HA.out.below hb)
  have HG1:=hh9 (za4 HG.out hb)
  have HR1:=hh9 (HR.out.kept (hb.block _ HR.out.lt))
  have hz1:w.heap.size+1<=w1.heap.size:=by have:=hb.size;simp at this;omega
  obtain ⟨d0,d1,d2,y0,y1,y2⟩:=HA1.out.cells
  clear hb HA HG HR
  go_wp2_with (refine za6 rfl _ _ rfl w.heap.size ⟨0,⟨#[]⟩,.slice none 0 0,0,0,.slice none 0 0⟩ rfl rfl HR1.out rfl rfl ?_)
  exact bodyPost_ret_by (zaj rfl _ _ w.heap.size ⟨0,⟨#[]⟩,.slice none 0 0,0,0,.slice none 0 0⟩ rfl HR1.out) rfl ⟨_,.mk 0 [] [] 0 0 [],p,c0,zd4 _ _ 0 0 0 [],⟨rfl,HA1.out.set_row (by omega) _,zae HG1.out (Nat.le_refl _) _⟩,.inr ⟨hc0,rfl,rfl⟩⟩
theorem zp6:∀ k,znd 96 k:=fun k=>by
 induction k using Nat.strongRecOn with
 | ind k ih=>exact ztw (fun k' hk'=>zp5 (zp4 (zs6 (zfn (ih k' hk'))))) (fun hk=>zkq (zkp (zko (zfn (ih (k-1) (by omega))))))
theorem zx8 (k:Nat):zfq 36 true .alts k:=zp5 (zp4 (zs6 (zfn (zp6 k))))
theorem zp7:ze3 36:=zkq (zkp (zko (zfn (zp6 0))))
end Go.Proofs.YtekjnfldgjcgeaaGreatDoor
