/- Part 31 of what the laws of the grammar rest on. -/
import Derived.Test.YtekjnfldgjcgeaaGreatDoorA30
set_option linter.all false
set_option maxRecDepth 100000
set_option maxHeartbeats 8000000
namespace Go.Proofs.YtekjnfldgjcgeaaGreatDoor
open Go.RowKit
def FinY (c0:Int) (s:ByteArray) (d p:Nat) (t:Tree) (q:Nat) (c:Int):Prop:=(c0=0/\OutY false s d .rep p t q c)\/(c0≠0/\c=c0/\q<=p+1)
theorem qa6 {s:ByteArray} {d p q1 q2 q3:Nat} {c0 c1 c2 c3 n1 n2:Int} {t:Tree} (h42:rd s q1=42)
  (h1:(c0=0/\c1=0/\p<=q1/\q1<=s.size/\zis (rd s) p=.ok n1 q1)\/(c0=0/\c1=2/\q1<=s.size/\zis (rd s) p=.err 2/\n1=-1)\/(c0≠0/\c1=c0/\q1=p/\n1=-1))
  (h2:(c1=0/\c2=0/\q1+1<=q2/\q2<=s.size/\zis (rd s) (q1+1)=.ok n2 q2)\/(c1=0/\c2=2/\q2<=s.size/\zis (rd s) (q1+1)=.err 2/\n2=-1)\/(c1≠0/\c2=c1/\q2=q1+1/\n2=-1))
  (h3:(c2=0/\OutY false s d .elem q2 t q3 c3)\/(c2≠0/\c3=c2/\q3=q2)) :
  (¬ (0<=n2/\n2<max n1 0)->FinY c0 s d p (repT (max n1 0) n2 t) q3 c3)/\(0<=n2/\n2<max n1 0->FinY c0 s d p (repT (max n1 0) n2 t) q3 (if c3=0 then 20 else c3)):=by
 rcases h1 with ⟨rfl,rfl,a1,a2,a3⟩ | ⟨rfl,rfl,a2,a3,rfl⟩ | ⟨a0,rfl,rfl,rfl⟩
 ·rcases h2 with ⟨_,rfl,b1,b2,b3⟩ | ⟨_,rfl,b2,b3,rfl⟩ | ⟨b0,_⟩
  ·rcases h3 with ⟨_,ho⟩ | ⟨g,_⟩
   ·have hf:=zs5 (p:=p) (by omega) (zf6 a3 h42 b3) ho
    exact ⟨fun h=>.inl ⟨rfl,hf.1 h⟩,fun h=>.inl ⟨rfl,hf.2 h⟩⟩
   ·exact absurd rfl g
  ·rcases h3 with ⟨g,_⟩ | ⟨_,rfl,rfl⟩
   ·cases g
   ·have hco:=zjz a3 h42 b3
    refine ⟨fun _=>.inl ⟨rfl,.inr ⟨by omega,by omega,.repCount hco⟩⟩,fun h=>by omega⟩
  ·exact absurd rfl b0
 ·rcases h2 with ⟨g,_⟩ | ⟨g,_⟩ | ⟨_,rfl,rfl,rfl⟩
  ·cases g
  ·cases g
  ·rcases h3 with ⟨g,_⟩ | ⟨_,rfl,rfl⟩
   ·cases g
   ·refine ⟨fun _=>.inl ⟨rfl,.inr ⟨by omega,by omega,.repCount (zk0 a3)⟩⟩,fun h=>by omega⟩
 ·rcases h2 with ⟨g,_⟩ | ⟨g,_⟩ | ⟨_,rfl,rfl,rfl⟩
  ·exact absurd g a0
  ·exact absurd g a0
  ·rcases h3 with ⟨g,_⟩ | ⟨_,rfl,rfl⟩
   ·exact absurd g a0
   ·exact ⟨fun _=>.inr ⟨a0,rfl,by omega⟩,fun h=>by omega⟩
theorem zx0 {s:ByteArray} {d p q1 q3:Nat} {c0 c1 c3 n1:Int} {t:Tree} (h42:rd s q1≠42)
  (h1:(c0=0/\c1=0/\p<=q1/\q1<=s.size/\zis (rd s) p=.ok n1 q1)\/(c0=0/\c1=2/\q1<=s.size/\zis (rd s) p=.err 2/\n1=-1)\/(c0≠0/\c1=c0/\q1=p/\n1=-1))
  (h3:(c1=0/\OutY false s d .elem q1 t q3 c3)\/(c1≠0/\c3=c1/\q3=q1)) :
  (n1<0->FinY c0 s d p t q3 c3)/\(0<=n1->FinY c0 s d p (repT n1 n1 t) q3 c3):=by
 rcases h1 with ⟨rfl,rfl,a1,a2,a3⟩ | ⟨rfl,rfl,a2,a3,rfl⟩ | ⟨a0,rfl,rfl,rfl⟩
 ·rcases h3 with ⟨_,ho⟩ | ⟨g,_⟩
  ·refine ⟨fun h=>.inl ⟨rfl,qa5 a1 a3 h42 h ho⟩,fun h=>?_⟩
   have hc:=zj3 a3 h42
   rw [show decide (0<=n1)=true from decide_eq_true h,show max n1 0=n1 by omega] at hc
   exact .inl ⟨rfl,(zs5 a1 hc ho).1 (by omega)⟩
  ·exact absurd rfl g
 ·rcases h3 with ⟨g,_⟩ | ⟨_,rfl,rfl⟩
  ·cases g
  ·exact ⟨fun _=>.inl ⟨rfl,.inr ⟨by omega,by omega,.repCount (zk0 a3)⟩⟩,fun h=>by omega⟩
 ·rcases h3 with ⟨g,_⟩ | ⟨_,rfl,rfl⟩
  ·exact absurd g a0
  ·exact ⟨fun _=>.inr ⟨a0,rfl,by omega⟩,fun h=>by omega⟩
theorem zfn {k:Nat} (hel:znd 96 k):zwz 78 k:=by
 intro R p d c0 s w h hs hp hp2 hd
 have hR:=h.lt
 have HR:=hh9 (zav w)
 have HA:=hh9 (h.alloc (.cells #[.int .i64 0,.string ⟨#[]⟩,.slice none 0 0,.int .i64 0,.int .i64 0,.slice none 0 0] 35))
 have HG:=hh9 (World.grownBy_alloc w (.cells #[.int .i64 0,.string ⟨#[]⟩,.slice none 0 0,.int .i64 0,.int .i64 0,.slice none 0 0] 35) (some R))
 have HEL:Hid (znd 96 k):=@hel
 have HP:=hh9 hp
 clear h hel hp
 go_enter Tryz.func78,Tryz.ntmps78
 go_wp2_with fail
 refine (zs4 HA.out hs (fun g=>(HP.out g).1)).mono ?_
 rintro e w1 ⟨n1,q1,c1,⟨rfl,ha,hg⟩,hn1,hn2,hout1⟩
 have HA1:=hh9 ha
 have HG1:=hh9 (HG.out.trans hg)
 have HR1:=hh9 (za8 HR.out hg (by omega))
 have hz1:w.heap.size+1<=w1.heap.size:=by have:=hg.size;simp at this;omega
 have hq1:q1<=54000:=by rcases hout1 with g | g | g<;>omega
 have HO1:=hh9 hout1
 clear ha hg HA HG HR hout1
 by_cases h42:rd s q1=42
 ·have H42:=hh9 h42
  have hlt:q1<s.size:=zbu (by omega) h42
  clear h42
  go_wp2_with fail
  refine (yat0 HA1.out hs (by omega) _ H42.out).mono ?_
  rintro e w1b ⟨rfl,hb⟩
  have HA1b:=hh9 (HA1.out.below hb)
  have HG1b:=hh9 (za4 HG1.out hb)
  have HR1b:=hh9 (HR1.out.kept (hb.block _ HR1.out.lt))
  have hz1b:w.heap.size+1<=w1b.heap.size:=by have:=hb.size;omega
  obtain ⟨d0,d1,d2,y0,y1,y2⟩:=HA1b.out.cells
  clear hb
  go_wp2_with fail
  refine (zs4 HA1b.out.step hs (fun g=>by omega)).mono ?_
  rintro e w2 ⟨n2,q2,c2,⟨rfl,ha,hg⟩,hm1,hm2,hout2⟩
  have hg':=(zah (zak w1b (some R)) 1 (.int .i64 ((q1:Int)+1))).trans hg
  have HA2:=hh9 ha
  have HG2:=hh9 (HG1b.out.trans hg')
  have HR2:=hh9 (za8 HR1b.out hg' (by omega))
  have hz2:w.heap.size+1<=w2.heap.size:=by have:=hg'.size;omega
  have hq2:q2<=55000:=by rcases hout2 with g | g | g<;>omega
  have HC2:Hid (c2=0->q2<=s.size/\d<=50/\s.size-q2<=k):=by
   intro g
   rcases hout2 with g2 | g2 | g2
   ·rcases HO1.out with g1 | g1 | g1
    ·have:=HP.out g1.1
     omega
    ·omega
    ·omega
   ·omega
   ·omega
  have HO2:=hh9 hout2
  clear ha hg hg' hout2 HA1 HG1 HR1 HA1b HG1b HR1b d0 d1 d2 y0 y1 y2
  go_wp2_with fail
  refine (HEL.out HA2.out hs HC2.out hq2 hd).mono ?_
  rintro e w3 ⟨x,t,q3,c3,ht,⟨rfl,ha,hg⟩,hout3⟩
  have HALL:=hh9 (qa6 H42.out HO1.out HO2.out hout3)
  obtain ⟨M,hM⟩:∃ M,max n1 0=M:=⟨_,rfl⟩
  rw [hM] at HALL
  have hMr:0<=M:=by omega
  have H2:=hh9 (zaa ht)
  have H5:=hh9 (zab ht)
  have hz3:w.heap.size+1<=w3.heap.size:=by have:=hg.size;omega
  have HX:Hid (((w3.alloc (.cells #[.int .i64 0,.string ⟨#[]⟩,.slice none 0 0,.int .i64 0,.int .i64 0,.slice none 0 0] 35)).setRow w3.heap.size x.arr).heap[w3.heap.size]?=some (.cells x.arr 35 (0,0))):=zdn (zav w3) _
  have HT3:Hid (TreeAt ((w3.alloc (.cells #[.int .i64 0,.string ⟨#[]⟩,.slice none 0 0,.int .i64 0,.int .i64 0,.slice none 0 0] 35)).setRow w3.heap.size x.arr) (fun b=>w.heap.size+1<=b) x t):=by
   have h1:=ht.weak (P':=fun b=>w.heap.size+1<=b/\b≠w3.heap.size) (fun b hP hl=>⟨by omega,by omega⟩)
   have h3:=h1.under (W':=w3.alloc (.cells #[.int .i64 0,.string ⟨#[]⟩,.slice none 0 0,.int .i64 0,.int .i64 0,.slice none 0 0] 35)) ((Below.refl _ _).alloc (Nat.le_refl _) _)
   exact (h3.set_row (fun b hP=>hP.2) _).weak (fun b hP _=>hP.1)
  have HG3:Hid (w.grownBy ((w3.alloc (.cells #[.int .i64 0,.string ⟨#[]⟩,.slice none 0 0,.int .i64 0,.int .i64 0,.slice none 0 0] 35)).setRow w3.heap.size x.arr) (some R)):=zae (zao (HG2.out.trans hg) _) (by omega) _
  have HA3:Hid (AtY ((w3.alloc (.cells #[.int .i64 0,.string ⟨#[]⟩,.slice none 0 0,.int .i64 0,.int .i64 0,.slice none 0 0] 35)).setRow w3.heap.size x.arr) R s q3 c3):=(ha.alloc _).set_row (by omega) _
  have HR3:Hid (Res0 ((w3.alloc (.cells #[.int .i64 0,.string ⟨#[]⟩,.slice none 0 0,.int .i64 0,.int .i64 0,.slice none 0 0] 35)).setRow w3.heap.size x.arr) w.heap.size):=zew (zaz (za8 HR2.out hg (by omega)) _) _ (by omega)
  have hz4:w.heap.size+1<=((w3.alloc (.cells #[.int .i64 0,.string ⟨#[]⟩,.slice none 0 0,.int .i64 0,.int .i64 0,.slice none 0 0] 35)).setRow w3.heap.size x.arr).heap.size:=by simp [World.setRow];omega
  clear ht ha hg
  clear hout3
  by_cases hbad:0<=n2/\n2<M
  ·obtain ⟨b1,b2⟩:=hbad
   have HFIN0:=hh9 (HALL.out.2 ⟨b1,b2⟩)
   clear HALL
   by_cases hc3:c3=0
   ·subst hc3
    rw [if_pos rfl] at HFIN0
    have HFIN:=HFIN0
    have b3:¬ n1<0:=by omega
    go_wp2_with (refine za6 rfl _ _ rfl w3.heap.size x rfl rfl (zav w3) H2.out H5.out ?_)
    refine (zba HA3.out 20).mono ?_
    rintro e w5 ⟨rfl,ha,hg⟩
    have hlt3:w3.heap.size<((w3.alloc (.cells #[.int .i64 0,.string ⟨#[]⟩,.slice none 0 0,.int .i64 0,.int .i64 0,.slice none 0 0] 35)).setRow w3.heap.size x.arr).heap.size:=by simp [World.setRow]
    have HX5:Hid (w5.heap[w3.heap.size]?=some (.cells x.arr 35 (0,0))):=(hg.block w3.heap.size hlt3 (fun e=>by have:=Option.some.inj e;omega)).trans HX.out
    have HT5:=hh9 (HT3.out.kept (P':=fun b=>w.heap.size+1<=b) (fun b hP hl=>⟨hg.block b hl (fun e=>by have:=Option.some.inj e;omega),hP⟩) hg.size)
    have HG5:=hh9 (HG3.out.trans hg)
    have HR5:=hh9 (za8 HR3.out hg (by omega))
    have HA5:=hh9 ha
    have hz5:w.heap.size+1<=w5.heap.size:=by have:=hg.size;omega
    have HF:=hh9 (zfm M n2 hR hz5 HT5.out HA5.out HG5.out HR5.out)
    clear ha hg hlt3 HT3 HA3 HG3 HR3 hz4 HT5 HG5 HR5 HA5 HX
    go_wp2_with (first
     | (refine zb8 rfl _ rfl w3.heap.size x rfl HX5.out ?_)
     | (refine zbc rfl _ rfl x rfl H2.out H5.out ?_)
     | (refine za6 rfl _ _ rfl w.heap.size ⟨3,⟨#[]⟩,.slice none 0 0,M,n2,.slice (some ⟨w5.heap.size,0,none⟩) 1 1⟩ rfl rfl HF.out.1 rfl rfl ?_))
    exact bodyPost_ret_by (zaj rfl _ _ w.heap.size ⟨3,⟨#[]⟩,.slice none 0 0,M,n2,.slice (some ⟨w5.heap.size,0,none⟩) 1 1⟩ rfl HF.out.1) rfl ⟨_,_,q3,_,HF.out.2.1,HF.out.2.2,HFIN.out⟩
   ·rw [if_neg hc3] at HFIN0
    have HFIN:=HFIN0
    have b3:¬ n1<0:=by omega
    go_wp2_with (refine za6 rfl _ _ rfl w3.heap.size x rfl rfl (zav w3) H2.out H5.out ?_)
    refine (zd8 HA3.out hc3 20).mono ?_
    rintro e w5 ⟨rfl,ha,hg⟩
    have hlt3:w3.heap.size<((w3.alloc (.cells #[.int .i64 0,.string ⟨#[]⟩,.slice none 0 0,.int .i64 0,.int .i64 0,.slice none 0 0] 35)).setRow w3.heap.size x.arr).heap.size:=by simp [World.setRow]
    have HX5:Hid (w5.heap[w3.heap.size]?=some (.cells x.arr 35 (0,0))):=(hg.block w3.heap.size hlt3 (fun e=>by have:=Option.some.inj e;omega)).trans HX.out
    have HT5:=hh9 (HT3.out.kept (P':=fun b=>w.heap.size+1<=b) (fun b hP hl=>⟨hg.block b hl (fun e=>by have:=Option.some.inj e;omega),hP⟩) hg.size)
    have HG5:=hh9 (HG3.out.trans hg)
    have HR5:=hh9 (za8 HR3.out hg (by omega))
    have HA5:=hh9 ha
    have hz5:w.heap.size+1<=w5.heap.size:=by have:=hg.size;omega
    have HF:=hh9 (zfm M n2 hR hz5 HT5.out HA5.out HG5.out HR5.out)
    clear ha hg hlt3 HT3 HA3 HG3 HR3 hz4 HT5 HG5 HR5 HA5 HX
    go_wp2_with (first
     | (refine zb8 rfl _ rfl w3.heap.size x rfl HX5.out ?_)
     | (refine zbc rfl _ rfl x rfl H2.out H5.out ?_)
     | (refine za6 rfl _ _ rfl w.heap.size ⟨3,⟨#[]⟩,.slice none 0 0,M,n2,.slice (some ⟨w5.heap.size,0,none⟩) 1 1⟩ rfl rfl HF.out.1 rfl rfl ?_))
    exact bodyPost_ret_by (zaj rfl _ _ w.heap.size ⟨3,⟨#[]⟩,.slice none 0 0,M,n2,.slice (some ⟨w5.heap.size,0,none⟩) 1 1⟩ rfl HF.out.1) rfl ⟨_,_,q3,_,HF.out.2.1,HF.out.2.2,HFIN.out⟩
  ·have HFIN:=hh9 (HALL.out.1 hbad)
   clear HALL
   by_cases b1:0<=n2
   ·have b2:¬ n2<M:=fun b2=>hbad ⟨b1,b2⟩
    clear hbad
    by_cases b3:n1<0
    ·have hsz:w3.heap.size+1=((w3.alloc (.cells #[.int .i64 0,.string ⟨#[]⟩,.slice none 0 0,.int .i64 0,.int .i64 0,.slice none 0 0] 35)).setRow w3.heap.size x.arr).heap.size:=by simp [World.setRow]
     have HF:=hh9 (zfm M n2 hR hz4 HT3.out HA3.out HG3.out HR3.out)
     rw [<- hsz] at HF
     clear hsz HT3 HA3 HG3 HR3 hz4
     go_wp2_with (first
      | (refine za6 rfl _ _ rfl w3.heap.size x rfl rfl (zav w3) H2.out H5.out ?_)
      | (refine zb8 rfl _ rfl w3.heap.size x rfl HX.out ?_)
      | (refine zbc rfl _ rfl x rfl H2.out H5.out ?_)
      | (refine za6 rfl _ _ rfl w.heap.size ⟨3,⟨#[]⟩,.slice none 0 0,M,n2,.slice (some ⟨w3.heap.size+1,0,none⟩) 1 1⟩ rfl rfl HF.out.1 rfl rfl ?_))
     exact bodyPost_ret_by (zaj rfl _ _ w.heap.size ⟨3,⟨#[]⟩,.slice none 0 0,M,n2,.slice (some ⟨w3.heap.size+1,0,none⟩) 1 1⟩ rfl HF.out.1) rfl ⟨_,_,q3,c3,HF.out.2.1,HF.out.2.2,HFIN.out⟩
    ·have hsz:w3.heap.size+1=((w3.alloc (.cells #[.int .i64 0,.string ⟨#[]⟩,.slice none 0 0,.int .i64 0,.int .i64 0,.slice none 0 0] 35)).setRow w3.heap.size x.arr).heap.size:=by simp [World.setRow]
     have HF:=hh9 (zfm M n2 hR hz4 HT3.out HA3.out HG3.out HR3.out)
     rw [<- hsz] at HF
     clear hsz HT3 HA3 HG3 HR3 hz4
     go_wp2_with (first
      | (refine za6 rfl _ _ rfl w3.heap.size x rfl rfl (zav w3) H2.out H5.out ?_)
      | (refine zb8 rfl _ rfl w3.heap.size x rfl HX.out ?_)
      | (refine zbc rfl _ rfl x rfl H2.out H5.out ?_)
      | (refine za6 rfl _ _ rfl w.heap.size ⟨3,⟨#[]⟩,.slice none 0 0,M,n2,.slice (some ⟨w3.heap.size+1,0,none⟩) 1 1⟩ rfl rfl HF.out.1 rfl rfl ?_))
     exact bodyPost_ret_by (zaj rfl _ _ w.heap.size ⟨3,⟨#[]⟩,.slice none 0 0,M,n2,.slice (some ⟨w3.heap.size+1,0,none⟩) 1 1⟩ rfl HF.out.1) rfl ⟨_,_,q3,c3,HF.out.2.1,HF.out.2.2,HFIN.out⟩
   ·clear hbad
    by_cases b3:n1<0
    ·have hsz:w3.heap.size+1=((w3.alloc (.cells #[.int .i64 0,.string ⟨#[]⟩,.slice none 0 0,.int .i64 0,.int .i64 0,.slice none 0 0] 35)).setRow w3.heap.size x.arr).heap.size:=by simp [World.setRow]
     have HF:=hh9 (zfm M n2 hR hz4 HT3.out HA3.out HG3.out HR3.out)
     rw [<- hsz] at HF
     clear hsz HT3 HA3 HG3 HR3 hz4
     go_wp2_with (first
      | (refine za6 rfl _ _ rfl w3.heap.size x rfl rfl (zav w3) H2.out H5.out ?_)
      | (refine zb8 rfl _ rfl w3.heap.size x rfl HX.out ?_)
      | (refine zbc rfl _ rfl x rfl H2.out H5.out ?_)
      | (refine za6 rfl _ _ rfl w.heap.size ⟨3,⟨#[]⟩,.slice none 0 0,M,n2,.slice (some ⟨w3.heap.size+1,0,none⟩) 1 1⟩ rfl rfl HF.out.1 rfl rfl ?_))
     exact bodyPost_ret_by (zaj rfl _ _ w.heap.size ⟨3,⟨#[]⟩,.slice none 0 0,M,n2,.slice (some ⟨w3.heap.size+1,0,none⟩) 1 1⟩ rfl HF.out.1) rfl ⟨_,_,q3,c3,HF.out.2.1,HF.out.2.2,HFIN.out⟩
    ·have hsz:w3.heap.size+1=((w3.alloc (.cells #[.int .i64 0,.string ⟨#[]⟩,.slice none 0 0,.int .i64 0,.int .i64 0,.slice none 0 0] 35)).setRow w3.heap.size x.arr).heap.size:=by simp [World.setRow]
     have HF:=hh9 (zfm M n2 hR hz4 HT3.out HA3.out HG3.out HR3.out)
     rw [<- hsz] at HF
     clear hsz HT3 HA3 HG3 HR3 hz4
     go_wp2_with (first
      | (refine za6 rfl _ _ rfl w3.heap.size x rfl rfl (zav w3) H2.out H5.out ?_)
      | (refine zb8 rfl _ rfl w3.heap.size x rfl HX.out ?_)
      | (refine zbc rfl _ rfl x rfl H2.out H5.out ?_)
      | (refine za6 rfl _ _ rfl w.heap.size ⟨3,⟨#[]⟩,.slice none 0 0,M,n2,.slice (some ⟨w3.heap.size+1,0,none⟩) 1 1⟩ rfl rfl HF.out.1 rfl rfl ?_))
     exact bodyPost_ret_by (zaj rfl _ _ w.heap.size ⟨3,⟨#[]⟩,.slice none 0 0,M,n2,.slice (some ⟨w3.heap.size+1,0,none⟩) 1 1⟩ rfl HF.out.1) rfl ⟨_,_,q3,c3,HF.out.2.1,HF.out.2.2,HFIN.out⟩
 ·obtain ⟨Z,hZ⟩:∃ z,rd s q1=z:=⟨_,rfl⟩
  have qz:(Z==42)=false:=by rw [<- hZ];simpa using h42
  have HZ:=hh9 hZ
  have H42:=hh9 h42
  clear hZ h42
  go_wp2_with fail
  refine (yat0 HA1.out hs (by omega) _ HZ.out).mono ?_
  rintro e w2 ⟨rfl,hb⟩
  have HA2:=hh9 (HA1.out.below hb)
  have HG2:=hh9 (za4 HG1.out hb)
  have HR2:=hh9 (HR1.out.kept (hb.block _ HR1.out.lt))
  have hz2:w.heap.size+1<=w2.heap.size:=by have:=hb.size;omega
  have HC2:Hid (c1=0->q1<=s.size/\d<=50/\s.size-q1<=k):=by
   intro g
   rcases HO1.out with g1 | g1 | g1
   ·have:=HP.out g1.1
    omega
   ·omega
   ·omega
  clear hb HA1 HG1 HR1
  go_wp2_with fail
  refine (HEL.out HA2.out hs HC2.out (by omega) hd).mono ?_
  rintro e w3 ⟨x,t,q3,c3,ht,⟨rfl,ha,hg⟩,hout3⟩
  have HALL:=hh9 (zx0 H42.out HO1.out hout3)
  have H2:=hh9 (zaa ht)
  have H5:=hh9 (zab ht)
  have hz3:w.heap.size+1<=w3.heap.size:=by have:=hg.size;omega
  have HX:Hid (((w3.alloc (.cells #[.int .i64 0,.string ⟨#[]⟩,.slice none 0 0,.int .i64 0,.int .i64 0,.slice none 0 0] 35)).setRow w3.heap.size x.arr).heap[w3.heap.size]?=some (.cells x.arr 35 (0,0))):=zdn (zav w3) _
  have HT3:Hid (TreeAt ((w3.alloc (.cells #[.int .i64 0,.string ⟨#[]⟩,.slice none 0 0,.int .i64 0,.int .i64 0,.slice none 0 0] 35)).setRow w3.heap.size x.arr) (fun b=>w.heap.size+1<=b) x t):=by
   have h1:=ht.weak (P':=fun b=>w.heap.size+1<=b/\b≠w3.heap.size) (fun b hP hl=>⟨by omega,by omega⟩)
   have h3:=h1.under (W':=w3.alloc (.cells #[.int .i64 0,.string ⟨#[]⟩,.slice none 0 0,.int .i64 0,.int .i64 0,.slice none 0 0] 35)) ((Below.refl _ _).alloc (Nat.le_refl _) _)
   exact (h3.set_row (fun b hP=>hP.2) _).weak (fun b hP _=>hP.1)
  have HG3:Hid (w.grownBy ((w3.alloc (.cells #[.int .i64 0,.string ⟨#[]⟩,.slice none 0 0,.int .i64 0,.int .i64 0,.slice none 0 0] 35)).setRow w3.heap.size x.arr) (some R)):=zae (zao (HG2.out.trans hg) _) (by omega) _
  have HA3:Hid (AtY ((w3.alloc (.cells #[.int .i64 0,.string ⟨#[]⟩,.slice none 0 0,.int .i64 0,.int .i64 0,.slice none 0 0] 35)).setRow w3.heap.size x.arr) R s q3 c3):=(ha.alloc _).set_row (by omega) _
  have HR3:Hid (Res0 ((w3.alloc (.cells #[.int .i64 0,.string ⟨#[]⟩,.slice none 0 0,.int .i64 0,.int .i64 0,.slice none 0 0] 35)).setRow w3.heap.size x.arr) w.heap.size):=zew (zaz (za8 HR2.out hg (by omega)) _) _ (by omega)
  have hz4:w.heap.size+1<=((w3.alloc (.cells #[.int .i64 0,.string ⟨#[]⟩,.slice none 0 0,.int .i64 0,.int .i64 0,.slice none 0 0] 35)).setRow w3.heap.size x.arr).heap.size:=by simp [World.setRow];omega
  clear ht ha hg
  clear hout3
  by_cases b3:n1<0
  ·have HFIN:=hh9 (HALL.out.1 b3)
   clear HALL
   go_wp2_with (first
    | (refine za6 rfl _ _ rfl w3.heap.size x rfl rfl (zav w3) H2.out H5.out ?_)
    | (refine zb8 rfl _ rfl w3.heap.size x rfl HX.out ?_)
    | (refine za6 rfl _ _ rfl w.heap.size x rfl rfl HR3.out H2.out H5.out ?_))
   refine bodyPost_ret_by (zaj rfl _ _ w.heap.size x rfl HR3.out) rfl ⟨x,t,q3,c3,?_,⟨rfl,HA3.out.set_row (by omega) _,zae HG3.out (Nat.le_refl _) _⟩,HFIN.out⟩
   exact (HT3.out.set_row (fun b hP=>by omega) _).weak (fun b hP _=>by omega)
  ·have HFIN:=hh9 (HALL.out.2 (by omega))
   have hM:max n1 0=n1:=by omega
   clear HALL
   have hsz:w3.heap.size+1=((w3.alloc (.cells #[.int .i64 0,.string ⟨#[]⟩,.slice none 0 0,.int .i64 0,.int .i64 0,.slice none 0 0] 35)).setRow w3.heap.size x.arr).heap.size:=by simp [World.setRow]
   have HF:=hh9 (zfm n1 n1 hR hz4 HT3.out HA3.out HG3.out HR3.out)
   rw [<- hsz] at HF
   clear hsz HT3 HA3 HG3 HR3 hz4
   go_wp2_with (first
    | (refine za6 rfl _ _ rfl w3.heap.size x rfl rfl (zav w3) H2.out H5.out ?_)
    | (refine zb8 rfl _ rfl w3.heap.size x rfl HX.out ?_)
    | (refine zbc rfl _ rfl x rfl H2.out H5.out ?_)
    | (refine za6 rfl _ _ rfl w.heap.size ⟨3,⟨#[]⟩,.slice none 0 0,n1,n1,.slice (some ⟨w3.heap.size+1,0,none⟩) 1 1⟩ rfl rfl HF.out.1 rfl rfl ?_))
   exact bodyPost_ret_by (zaj rfl _ _ w.heap.size ⟨3,⟨#[]⟩,.slice none 0 0,n1,n1,.slice (some ⟨w3.heap.size+1,0,none⟩) 1 1⟩ rfl HF.out.1) rfl ⟨_,_,q3,c3,HF.out.2.1,HF.out.2.2,HFIN.out⟩
end Go.Proofs.YtekjnfldgjcgeaaGreatDoor
