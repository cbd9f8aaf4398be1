/- Part 32 of what the laws of the grammar rest on. -/
import Derived.Test.YtekjnfldgjcgeaaGreatDoorA31
set_option linter.all false
set_option maxRecDepth 100000
set_option maxHeartbeats 8000000
namespace Go.Proofs.YtekjnfldgjcgeaaGreatDoor
open Go.RowKit
def ze3 (f:Nat):Prop:=∀ {R p d:Nat} {c:Int} {s:ByteArray} {w:World},AtY w R s p c->c≠0->s.size<=50000->p<=54000->d<=60 ->
 Calls Tryz.prog f #[.pointer (some ⟨R,0,none⟩),.int .i64 d] w (qdo R s p c w)
theorem zs6 {f k:Nat} (h:zwz f k):zfq f false .rep k:=by
 intro R p d s w ha hs hp hd hk
 refine (h ha hs (fun _=>⟨hp,hd,hk⟩) (by omega) (by omega)).mono ?_
 rintro e w' ⟨x,t,q,c,ht,hg,⟨_,ho⟩ | ⟨g,_⟩⟩
 ·exact ⟨x,t,q,c,ht,hg,ho⟩
 ·exact absurd rfl g
theorem zko {f k:Nat} (h:zwz f k):ze3 f:=by
 intro R p d c s w ha hc hs hp hd
 refine (h ha hs (fun g=>absurd g hc) hp hd).mono ?_
 rintro e w' ⟨x,t,q,c',ht,hg,⟨g,_⟩ | ⟨_,rfl,hq⟩⟩
 ·exact absurd g hc
 ·exact ⟨x,t,q,ht,hq,hg⟩
theorem zkp (hel:ze3 78):ze3 59:=by
 intro R p d c s w h hc hs hp hd
 have hR:=h.lt
 have qc:(c==0)=false:=by simpa using hc
 have HR:=hh9 (zav w)
 have HA:=hh9 (h.alloc (.cells #[.int .i64 0,.string ⟨#[]⟩,.slice none 0 0,.int .i64 0,.int .i64 0,.slice none 0 0] 35))
 have HG:=hh9 (World.grownBy_alloc w (.cells #[.int .i64 0,.string ⟨#[]⟩,.slice none 0 0,.int .i64 0,.int .i64 0,.slice none 0 0] 35) (some R))
 have HEL:Hid (ze3 78):=@hel
 clear h hel
 go_enter Tryz.func59,Tryz.ntmps59
 go_wp2_with fail
 refine (HEL.out HA.out hc hs hp hd).mono ?_
 rintro e w1 ⟨x,t,q,ht,hq,⟨rfl,ha,hg⟩⟩
 have H2:=hh9 (zaa ht)
 have H5:=hh9 (zab ht)
 have hz1:w.heap.size+1<=w1.heap.size:=by have:=hg.size;simp at this;omega
 have HT:Hid (TreeAt (w1.alloc (.cells x.arr 35)) (fun b=>w.heap.size+1<=b) x t) :=
  (ht.weak (fun b hb _=>by simp at hb;omega)).under ((Below.refl _ _).alloc (Nat.le_refl _) _)
 have HA1:=hh9 (ha.alloc (.cells x.arr 35))
 have HG1:=hh9 (zao (HG.out.trans hg) (.cells x.arr 35))
 have HR1:=hh9 (zaz (za8 HR.out hg (by omega)) (.cells x.arr 35))
 have hblk:=heap_alloc_new w1 (.cells x.arr 35)
 obtain ⟨g,hgg⟩:∃ g,g=w1.heap.size:=⟨_,rfl⟩
 clear ht ha hg HR HA HG
 go_wp2_with (refine zbc rfl _ rfl x rfl H2.out H5.out ?_)
 rw [<- hgg] at hblk ⊢
 obtain ⟨W,hW⟩:∃ W,W=w1.alloc (.cells x.arr 35):=⟨_,rfl⟩
 rw [<- hW] at HT HA1 HG1 HR1 hblk ⊢
 clear hW hgg
 obtain ⟨x0,x1,x2,x3,x4,x5⟩:=x
 have e0:W.cell? ⟨g,0,none⟩=some (.int .i64 x0):=by simp [World.cell?,hblk,XV.arr]
 have e1:W.cell? ⟨g,1,none⟩=some (.string x1):=by simp [World.cell?,hblk,XV.arr]
 have e2:W.cell? ⟨g,2,none⟩=some x2:=by simp [World.cell?,hblk,XV.arr]
 have e3:W.cell? ⟨g,3,none⟩=some (.int .i64 x3):=by simp [World.cell?,hblk,XV.arr]
 have e4:W.cell? ⟨g,4,none⟩=some (.int .i64 x4):=by simp [World.cell?,hblk,XV.arr]
 have e5:W.cell? ⟨g,5,none⟩=some x5:=by simp [World.cell?,hblk,XV.arr]
 have hb3:g<W.heap.size:=(Array.getElem?_eq_some_iff.1 hblk).1
 obtain ⟨c0,c1,c2,z0,z1,z2⟩:=HA1.out.cells
 clear hblk
 go_loopw [5] (fun v wr=>v=.slice (some ⟨g,0,none⟩) 1 1/\wr=W) (fun _ _=>0)
 case atStart=>exact ⟨rfl,rfl⟩
 case round =>
  obtain ⟨rfl,rfl⟩:=hrel
  go_wp2_with (refine za6 rfl _ _ rfl w.heap.size ⟨x0,x1,x2,x3,x4,x5⟩ rfl rfl HR1.out H2.out H5.out ?_)
  exact bodyPost_ret_by (zaj rfl _ _ w.heap.size ⟨x0,x1,x2,x3,x4,x5⟩ rfl HR1.out) rfl ⟨_,t,q,(HT.out.set_row (fun b hb=>by omega) _).weak (fun b hb _=>by omega),hq,rfl,HA1.out.set_row (by omega) _,zae HG1.out (Nat.le_refl _) _⟩
theorem zkq (hel:ze3 59):ze3 36:=by
 intro R p d c s w h hc hs hp hd
 have hR:=h.lt
 have qc:(c==0)=false:=by simpa using hc
 have HR:=hh9 (zav w)
 have HA:=hh9 (h.alloc (.cells #[.int .i64 0,.string ⟨#[]⟩,.slice none 0 0,.int .i64 0,.int .i64 0,.slice none 0 0] 35))
 have HG:=hh9 (World.grownBy_alloc w (.cells #[.int .i64 0,.string ⟨#[]⟩,.slice none 0 0,.int .i64 0,.int .i64 0,.slice none 0 0] 35) (some R))
 have HEL:Hid (ze3 59):=@hel
 clear h hel
 go_enter Tryz.func36,Tryz.ntmps36
 go_wp2_with fail
 refine (HEL.out HA.out hc hs hp hd).mono ?_
 rintro e w1 ⟨x,t,q,ht,hq,⟨rfl,ha,hg⟩⟩
 have H2:=hh9 (zaa ht)
 have H5:=hh9 (zab ht)
 have hz1:w.heap.size+1<=w1.heap.size:=by have:=hg.size;simp at this;omega
 have HT:Hid (TreeAt (w1.alloc (.cells x.arr 35)) (fun b=>w.heap.size+1<=b) x t) :=
  (ht.weak (fun b hb _=>by simp at hb;omega)).under ((Below.refl _ _).alloc (Nat.le_refl _) _)
 have HA1:=hh9 (ha.alloc (.cells x.arr 35))
 have HG1:=hh9 (zao (HG.out.trans hg) (.cells x.arr 35))
 have HR1:=hh9 (zaz (za8 HR.out hg (by omega)) (.cells x.arr 35))
 have hblk:=heap_alloc_new w1 (.cells x.arr 35)
 obtain ⟨g,hgg⟩:∃ g,g=w1.heap.size:=⟨_,rfl⟩
 clear ht ha hg HR HA HG
 go_wp2_with (refine zbc rfl _ rfl x rfl H2.out H5.out ?_)
 rw [<- hgg] at hblk ⊢
 obtain ⟨W,hW⟩:∃ W,W=w1.alloc (.cells x.arr 35):=⟨_,rfl⟩
 rw [<- hW] at HT HA1 HG1 HR1 hblk ⊢
 clear hW hgg
 obtain ⟨x0,x1,x2,x3,x4,x5⟩:=x
 have e0:W.cell? ⟨g,0,none⟩=some (.int .i64 x0):=by simp [World.cell?,hblk,XV.arr]
 have e1:W.cell? ⟨g,1,none⟩=some (.string x1):=by simp [World.cell?,hblk,XV.arr]
 have e2:W.cell? ⟨g,2,none⟩=some x2:=by simp [World.cell?,hblk,XV.arr]
 have e3:W.cell? ⟨g,3,none⟩=some (.int .i64 x3):=by simp [World.cell?,hblk,XV.arr]
 have e4:W.cell? ⟨g,4,none⟩=some (.int .i64 x4):=by simp [World.cell?,hblk,XV.arr]
 have e5:W.cell? ⟨g,5,none⟩=some x5:=by simp [World.cell?,hblk,XV.arr]
 have hb3:g<W.heap.size:=(Array.getElem?_eq_some_iff.1 hblk).1
 obtain ⟨c0,c1,c2,z0,z1,z2⟩:=HA1.out.cells
 clear hblk
 go_loopw [5] (fun v wr=>v=.slice (some ⟨g,0,none⟩) 1 1/\wr=W) (fun _ _=>0)
 case atStart=>exact ⟨rfl,rfl⟩
 case round =>
  obtain ⟨rfl,rfl⟩:=hrel
  go_wp2_with (refine za6 rfl _ _ rfl w.heap.size ⟨x0,x1,x2,x3,x4,x5⟩ rfl rfl HR1.out H2.out H5.out ?_)
  exact bodyPost_ret_by (zaj rfl _ _ w.heap.size ⟨x0,x1,x2,x3,x4,x5⟩ rfl HR1.out) rfl ⟨_,t,q,(HT.out.set_row (fun b hb=>by omega) _).weak (fun b hb _=>by omega),hq,rfl,HA1.out.set_row (by omega) _,zae HG1.out (Nat.le_refl _) _⟩
def zqf (s:ByteArray) (d p:Nat) (cl:Int) (t:Tree) (q:Nat) (c:Int):Prop:=(c=0/\p<=q/\q<=s.size/\InBr (rd s) d p cl (.ok t q))\/(c≠0/\q<=s.size+2+(52-d)/\InBr (rd s) d p cl (.err c))
def qdp (R:Nat) (s:ByteArray) (d p:Nat) (cl:Int) (w:World) (e:Ending) (w':World):Prop :=
 ∃ (x:XV) (t:Tree) (q:Nat) (c:Int),TreeAt w' (fun b=>w.heap.size<=b) x t/\GivesY R s x.val q c w e w'/\zqf s d p cl t q c
theorem zm6 {R p d:Nat} {s:ByteArray} {w:World} (o cl:Int) (ho0:0<o) (hcl0:0<cl) (hel:∀ k',k'<s.size-p->zfq 36 true .alts k') (hbe:ze3 36)
  (h:AtY w R s p 0) (hs:s.size<=50000) (hd:d<=50) (ho:rd s p=o) :
  Calls Tryz.prog 115 #[.pointer (some ⟨R,0,none⟩),.int .i64 cl,.int .i64 d] w (qdp R s d p cl w):=by
 have hR:=h.lt
 have hlt:=zbu (by omega) ho
 have HEL:Hid (∀ k',k'<s.size-p->zfq 36 true .alts k'):=hel
 have HBE:Hid (ze3 36):=@hbe
 obtain ⟨c0,c1,c2,z0,z1,z2⟩:=h.cells
 have HA1:=hh9 (h.step.alloc (.cells #[.int .i64 0,.string ⟨#[]⟩,.slice none 0 0,.int .i64 0,.int .i64 0,.slice none 0 0] 35))
 have HG1:=hh9 (zao (zah (zak w (some R)) 1 (.int .i64 ((p:Int)+1))) (.cells #[.int .i64 0,.string ⟨#[]⟩,.slice none 0 0,.int .i64 0,.int .i64 0,.slice none 0 0] 35))
 have HR1:Hid (Res0 ((w.setCell ⟨R,1,none⟩ (.int .i64 ((p:Int)+1))).alloc (.cells #[.int .i64 0,.string ⟨#[]⟩,.slice none 0 0,.int .i64 0,.int .i64 0,.slice none 0 0] 35)) w.heap.size):=by
  have g:=zav (w.setCell ⟨R,1,none⟩ (.int .i64 ((p:Int)+1)))
  rwa [show (w.setCell ⟨R,1,none⟩ (.int .i64 ((p:Int)+1))).heap.size=w.heap.size by simp] at g
 have hz1:w.heap.size+1<=((w.setCell ⟨R,1,none⟩ (.int .i64 ((p:Int)+1))).alloc (.cells #[.int .i64 0,.string ⟨#[]⟩,.slice none 0 0,.int .i64 0,.int .i64 0,.slice none 0 0] 35)).heap.size:=by simp
 clear h hel hbe ho
 by_cases h50:50<=d
 ·have hd50:d=50:=by omega
  have HD:=hh9 hd50
  have hq:decide ((50:Int)<=(d:Int))=true:=decide_eq_true (by omega)
  clear hd50
  go_enter Tryz.func115,Tryz.ntmps115
  go_wp2_with fail
  refine (zba HA1.out 2).mono ?_
  rintro e w1b ⟨rfl,ha,hg⟩
  have HA1b:=hh9 ha
  have HG1b:=hh9 (HG1.out.trans hg)
  have HR1b:=hh9 (za8 HR1.out hg (by omega))
  have hz1b:w.heap.size+1<=w1b.heap.size:=by have:=hg.size;omega
  clear ha hg
  go_wp2_with fail
  refine (zfl HA1b.out (by omega) hs).mono ?_
  rintro e w2 ⟨rfl,ha,hg⟩
  have HA2:=hh9 ha
  have HG2:=hh9 (HG1b.out.trans hg)
  have HR2:=hh9 (za8 HR1b.out hg (by omega))
  have hz2:w.heap.size+1<=w2.heap.size:=by have:=hg.size;omega
  clear ha hg HA1 HG1 HR1 HA1b HG1b HR1b hz1 hz1b c0 c1 c2 z0 z1 z2
  have hd1:((d:Int)+1)=((d+1:Nat):Int):=by omega
  obtain ⟨d',hd'⟩:∃ d',d+1=d':=⟨_,rfl⟩
  have hd2:(d:Int)+1=(d':Int):=by omega
  clear hd1
  go_wp2_with fail
  refine (HBE.out (d:=d') HA2.out (by omega) hs (by omega) (by omega)).mono ?_
  rintro e w3 ⟨x,t,q,ht,hq3,⟨rfl,ha,hg⟩⟩
  obtain ⟨c,hcc⟩:∃ c:Int,c=2:=⟨_,rfl⟩
  rw [<- hcc] at ha
  have hc:c≠0:=by omega
  have HFIN:Hid (zqf s d p cl t (q+1) c):=.inr ⟨hc,by omega,by rw [hcc];exact .deep HD.out⟩
  have hqb:q<=60000:=by omega
  clear hq
  have H2:=hh9 (zaa ht)
  have H5:=hh9 (zab ht)
  have hz3:w.heap.size+1<=w3.heap.size:=by have:=hg.size;omega
  have HX:Hid (((w3.alloc (.cells #[.int .i64 0,.string ⟨#[]⟩,.slice none 0 0,.int .i64 0,.int .i64 0,.slice none 0 0] 35)).setRow w3.heap.size x.arr).heap[w3.heap.size]?=some (.cells x.arr 35 (0,0))):=zdn (zav w3) _
  have HT3:Hid (TreeAt ((w3.alloc (.cells #[.int .i64 0,.string ⟨#[]⟩,.slice none 0 0,.int .i64 0,.int .i64 0,.slice none 0 0] 35)).setRow w3.heap.size x.arr) (fun b=>w.heap.size+1<=b) x t):=by
   have h1:=ht.weak (P':=fun b=>w.heap.size+1<=b/\b≠w3.heap.size) (fun b hP hl=>⟨by omega,by omega⟩)
   have h3:=h1.under (W':=w3.alloc (.cells #[.int .i64 0,.string ⟨#[]⟩,.slice none 0 0,.int .i64 0,.int .i64 0,.slice none 0 0] 35)) ((Below.refl _ _).alloc (Nat.le_refl _) _)
   exact (h3.set_row (fun b hP=>hP.2) _).weak (fun b hP _=>hP.1)
  have HG3:Hid (w.grownBy ((w3.alloc (.cells #[.int .i64 0,.string ⟨#[]⟩,.slice none 0 0,.int .i64 0,.int .i64 0,.slice none 0 0] 35)).setRow w3.heap.size x.arr) (some R)):=zae (zao (HG2.out.trans hg) _) (by omega) _
  have HA3:Hid (AtY ((w3.alloc (.cells #[.int .i64 0,.string ⟨#[]⟩,.slice none 0 0,.int .i64 0,.int .i64 0,.slice none 0 0] 35)).setRow w3.heap.size x.arr) R s q c):=(ha.alloc _).set_row (by omega) _
  have HR3:Hid (Res0 ((w3.alloc (.cells #[.int .i64 0,.string ⟨#[]⟩,.slice none 0 0,.int .i64 0,.int .i64 0,.slice none 0 0] 35)).setRow w3.heap.size x.arr) w.heap.size):=zew (zaz (za8 HR2.out hg (by omega)) _) _ (by omega)
  have hz4:w.heap.size+1<=((w3.alloc (.cells #[.int .i64 0,.string ⟨#[]⟩,.slice none 0 0,.int .i64 0,.int .i64 0,.slice none 0 0] 35)).setRow w3.heap.size x.arr).heap.size:=by simp [World.setRow];omega
  clear ht ha hg
  clear hcc
  go_wp2_with (refine za6 rfl _ _ rfl w3.heap.size x rfl rfl (zav w3) H2.out H5.out ?_)
  refine (zfl HA3.out hc hs).mono ?_
  rintro e w5 ⟨rfl,ha,hg⟩
  have hltE:w3.heap.size<((w3.alloc (.cells #[.int .i64 0,.string ⟨#[]⟩,.slice none 0 0,.int .i64 0,.int .i64 0,.slice none 0 0] 35)).setRow w3.heap.size x.arr).heap.size:=by simp [World.setRow]
  have HX5:Hid (w5.heap[w3.heap.size]?=some (.cells x.arr 35 (0,0))):=(hg.block w3.heap.size hltE (fun e=>by have:=Option.some.inj e;omega)).trans HX.out
  have HT5:=hh9 (HT3.out.kept (P':=fun b=>w.heap.size+1<=b) (fun b hP hl=>⟨hg.block b hl (fun e=>by have:=Option.some.inj e;omega),hP⟩) hg.size)
  have HG5:=hh9 (HG3.out.trans hg)
  have HR5:=hh9 (za8 HR3.out hg (by omega))
  have HA5:=hh9 ha
  have hz5:w.heap.size+1<=w5.heap.size:=by have:=hg.size;omega
  have hE5:w3.heap.size<w5.heap.size:=by have:=hg.size;omega
  clear ha hg hltE HX HT3 HG3 HR3 HA3 hz4
  by_cases hcl:rd s q=cl
  ·have HCL:=hh9 hcl
   clear hcl
   go_wp2_with fail
   refine (yat0 HA5.out hs hqb _ HCL.out).mono ?_
   rintro e w6 ⟨rfl,hb⟩
   have HX6:Hid (w6.heap[w3.heap.size]?=some (.cells x.arr 35 (0,0))):=(hb.block w3.heap.size hE5).trans HX5.out
   have HT6:=hh9 (HT5.out.under hb)
   have HG6:=hh9 (za4 HG5.out hb)
   have HR6:=hh9 (HR5.out.kept (hb.block _ HR5.out.lt))
   have HA6:=hh9 (HA5.out.below hb)
   have hE6:w3.heap.size<w6.heap.size:=by have:=hb.size;omega
   clear hb HX5 HT5 HG5 HR5 HA5
   obtain ⟨d0,d1,d2,y0,y1,y2⟩:=HA6.out.cells
   have HXS:Hid ((w6.setCell ⟨R,1,none⟩ (.int .i64 ((q:Int)+1))).heap[w3.heap.size]?=some (.cells x.arr 35 (0,0))):=(Below.heap_setCell _ _ _ _ (show w3.heap.size≠R by omega)).trans HX6.out
   have HRS:Hid (Res0 (w6.setCell ⟨R,1,none⟩ (.int .i64 ((q:Int)+1))) w.heap.size):=zdh HR6.out (by omega)
   have HTS:=hh9 (HT6.out.cell (R:=R) (k:=1) (v:=.int .i64 ((q:Int)+1)) (fun b hb=>by omega))
   have HAS:=hh9 HA6.out.step
   have HGS:=hh9 (zah HG6.out 1 (.int .i64 ((q:Int)+1)))
   go_wp2_with (first
    | (refine zb8 rfl _ rfl w3.heap.size x rfl HXS.out ?_)
    | (refine za6 rfl _ _ rfl w.heap.size x rfl rfl HRS.out H2.out H5.out ?_))
   exact bodyPost_ret_by (zaj rfl _ _ w.heap.size x rfl HRS.out) rfl ⟨x,t,q+1,_,(HTS.out.set_row (fun b hb=>by omega) _).weak (fun b hb _=>by omega),⟨rfl,HAS.out.set_row (by omega) _,zae HGS.out (Nat.le_refl _) _⟩,HFIN.out⟩
  ·obtain ⟨Z,hZ⟩:∃ z,rd s q=z:=⟨_,rfl⟩
   have qz:(Z != cl)=true:=by rw [<- hZ];simpa using hcl
   have HZ:=hh9 hZ
   clear hZ hcl
   go_wp2_with fail
   refine (yat0 HA5.out hs hqb _ HZ.out).mono ?_
   rintro e w6 ⟨rfl,hb⟩
   have HX6:Hid (w6.heap[w3.heap.size]?=some (.cells x.arr 35 (0,0))):=(hb.block w3.heap.size hE5).trans HX5.out
   have HT6:=hh9 (HT5.out.under hb)
   have HG6:=hh9 (za4 HG5.out hb)
   have HR6:=hh9 (HR5.out.kept (hb.block _ HR5.out.lt))
   have HA6:=hh9 (HA5.out.below hb)
   have hE6:w3.heap.size<w6.heap.size:=by have:=hb.size;omega
   clear hb HX5 HT5 HG5 HR5 HA5
   go_wp2_with fail
   refine (zd8 HA6.out hc 20).mono ?_
   rintro e w7 ⟨rfl,ha,hg⟩
   have HX7:Hid (w7.heap[w3.heap.size]?=some (.cells x.arr 35 (0,0))):=(hg.block w3.heap.size hE6 (fun e=>by have:=Option.some.inj e;omega)).trans HX6.out
   have HT7:=hh9 (HT6.out.kept (P':=fun b=>w.heap.size+1<=b) (fun b hP hl=>⟨hg.block b hl (fun e=>by have:=Option.some.inj e;omega),hP⟩) hg.size)
   have HG7:=hh9 (HG6.out.trans hg)
   have HR7:=hh9 (za8 HR6.out hg (by omega))
   have HA7:=hh9 ha
   clear ha hg HX6 HT6 HG6 HR6 HA6
   obtain ⟨d0,d1,d2,y0,y1,y2⟩:=HA7.out.cells
   have HXS:Hid ((w7.setCell ⟨R,1,none⟩ (.int .i64 ((q:Int)+1))).heap[w3.heap.size]?=some (.cells x.arr 35 (0,0))):=(Below.heap_setCell _ _ _ _ (show w3.heap.size≠R by omega)).trans HX7.out
   have HRS:Hid (Res0 (w7.setCell ⟨R,1,none⟩ (.int .i64 ((q:Int)+1))) w.heap.size):=zdh HR7.out (by omega)
   have HTS:=hh9 (HT7.out.cell (R:=R) (k:=1) (v:=.int .i64 ((q:Int)+1)) (fun b hb=>by omega))
   have HAS:=hh9 HA7.out.step
   have HGS:=hh9 (zah HG7.out 1 (.int .i64 ((q:Int)+1)))
   go_wp2_with (first
    | (refine zb8 rfl _ rfl w3.heap.size x rfl HXS.out ?_)
    | (refine za6 rfl _ _ rfl w.heap.size x rfl rfl HRS.out H2.out H5.out ?_))
   exact bodyPost_ret_by (zaj rfl _ _ w.heap.size x rfl HRS.out) rfl ⟨x,t,q+1,_,(HTS.out.set_row (fun b hb=>by omega) _).weak (fun b hb _=>by omega),⟨rfl,HAS.out.set_row (by omega) _,zae HGS.out (Nat.le_refl _) _⟩,HFIN.out⟩
 ·have hq:decide ((50:Int)<=(d:Int))=false:=decide_eq_false (by omega)
  have hd49:d<50:=by omega
  obtain ⟨q1,hq1⟩:∃ q1,q1=zad (rd s) (p+1):=⟨_,rfl⟩
  obtain ⟨hsk0,hle1,hls1⟩:=zdo (s:=s) (p:=p+1) (by omega)
  rw [<- hq1] at hsk0 hle1 hls1
  have HSK:=hh9 hsk0
  have HQ1:=hh9 hq1
  clear hsk0 hq1
  go_enter Tryz.func115,Tryz.ntmps115
  go_wp2_with fail
  refine (zfd HA1.out hs (by omega)).mono ?_
  rintro e w2 ⟨q2,hsk,hle,hls,rfl,ha,hg⟩
  obtain rfl:q2=q1:=hsk.one HSK.out
  have HA2:=hh9 ha
  have HG2:=hh9 (HG1.out.trans hg)
  have HR2:=hh9 (za8 HR1.out hg (by omega))
  have hz2:w.heap.size+1<=w2.heap.size:=by have:=hg.size;omega
  clear hsk ha hg HA1 HG1 HR1 hz1 c0 c1 c2 z0 z1 z2
  obtain ⟨d',hd'⟩:∃ d',d+1=d':=⟨_,rfl⟩
  have hd2:(d:Int)+1=(d':Int):=by omega
  go_wp2_with fail
  refine (HEL.out (s.size-q2) (by omega) (d:=d') HA2.out hs hls (by omega) (Nat.le_refl _)).mono ?_
  rintro e w3 ⟨x,t,q,c,ht,⟨rfl,ha,hg⟩,hout⟩
  rcases hout with ⟨rfl,hpq,hqs,hans⟩ | ⟨hc,hqb0,hans⟩
  ·have hans1:Ans (rd s) .alts (d+1) (zad (rd s) (p+1)) (.ok t (zad (rd s) q)):=by rw [<- HQ1.out,hd'];exact hans
   have HANS:=hh9 hans1
   obtain ⟨q5,hq5⟩:∃ q5,q5=zad (rd s) q:=⟨_,rfl⟩
   obtain ⟨hsk0,hle5,hls5⟩:=zdo (s:=s) (p:=q) hqs
   rw [<- hq5] at hsk0 hle5 hls5
   have HSK5:=hh9 hsk0
   have HQ5:=hh9 hq5
   clear hsk0 hq5 hans hans1
   have H2:=hh9 (zaa ht)
   have H5:=hh9 (zab ht)
   have hz3:w.heap.size+1<=w3.heap.size:=by have:=hg.size;omega
   have HX:Hid (((w3.alloc (.cells #[.int .i64 0,.string ⟨#[]⟩,.slice none 0 0,.int .i64 0,.int .i64 0,.slice none 0 0] 35)).setRow w3.heap.size x.arr).heap[w3.heap.size]?=some (.cells x.arr 35 (0,0))):=zdn (zav w3) _
   have HT3:Hid (TreeAt ((w3.alloc (.cells #[.int .i64 0,.string ⟨#[]⟩,.slice none 0 0,.int .i64 0,.int .i64 0,.slice none 0 0] 35)).setRow w3.heap.size x.arr) (fun b=>w.heap.size+1<=b) x t):=by
    have h1:=ht.weak (P':=fun b=>w.heap.size+1<=b/\b≠w3.heap.size) (fun b hP hl=>⟨by omega,by omega⟩)
    have h3:=h1.under (W':=w3.alloc (.cells #[.int .i64 0,.string ⟨#[]⟩,.slice none 0 0,.int .i64 0,.int .i64 0,.slice none 0 0] 35)) ((Below.refl _ _).alloc (Nat.le_refl _) _)
    exact (h3.set_row (fun b hP=>hP.2) _).weak (fun b hP _=>hP.1)
   have HG3:Hid (w.grownBy ((w3.alloc (.cells #[.int .i64 0,.string ⟨#[]⟩,.slice none 0 0,.int .i64 0,.int .i64 0,.slice none 0 0] 35)).setRow w3.heap.size x.arr) (some R)):=zae (zao (HG2.out.trans hg) _) (by omega) _
   have HA3:Hid (AtY ((w3.alloc (.cells #[.int .i64 0,.string ⟨#[]⟩,.slice none 0 0,.int .i64 0,.int .i64 0,.slice none 0 0] 35)).setRow w3.heap.size x.arr) R s q 0):=(ha.alloc _).set_row (by omega) _
   have HR3:Hid (Res0 ((w3.alloc (.cells #[.int .i64 0,.string ⟨#[]⟩,.slice none 0 0,.int .i64 0,.int .i64 0,.slice none 0 0] 35)).setRow w3.heap.size x.arr) w.heap.size):=zew (zaz (za8 HR2.out hg (by omega)) _) _ (by omega)
   have hz4:w.heap.size+1<=((w3.alloc (.cells #[.int .i64 0,.string ⟨#[]⟩,.slice none 0 0,.int .i64 0,.int .i64 0,.slice none 0 0] 35)).setRow w3.heap.size x.arr).heap.size:=by simp [World.setRow];omega
   clear ht ha hg
   go_wp2_with (refine za6 rfl _ _ rfl w3.heap.size x rfl rfl (zav w3) H2.out H5.out ?_)
   refine (zfd HA3.out hs hqs).mono ?_
   rintro e w5 ⟨q6,hsk,hle6,hls6,rfl,ha,hg⟩
   obtain rfl:q6=q5:=hsk.one HSK5.out
   clear hsk
   have hltE:w3.heap.size<((w3.alloc (.cells #[.int .i64 0,.string ⟨#[]⟩,.slice none 0 0,.int .i64 0,.int .i64 0,.slice none 0 0] 35)).setRow w3.heap.size x.arr).heap.size:=by simp [World.setRow]
   have HX5:Hid (w5.heap[w3.heap.size]?=some (.cells x.arr 35 (0,0))):=(hg.block w3.heap.size hltE (fun e=>by have:=Option.some.inj e;omega)).trans HX.out
   have HT5:=hh9 (HT3.out.kept (P':=fun b=>w.heap.size+1<=b) (fun b hP hl=>⟨hg.block b hl (fun e=>by have:=Option.some.inj e;omega),hP⟩) hg.size)
   have HG5:=hh9 (HG3.out.trans hg)
   have HR5:=hh9 (za8 HR3.out hg (by omega))
   have HA5:=hh9 ha
   have hz5:w.heap.size+1<=w5.heap.size:=by have:=hg.size;omega
   have hE5:w3.heap.size<w5.heap.size:=by have:=hg.size;omega
   clear ha hg hltE HX HT3 HG3 HR3 HA3 hz4
   by_cases hcl:rd s q6=cl
   ·have HCL:=hh9 hcl
    have hq6:q6<s.size:=zbu (by omega) hcl
    have HFIN:Hid (zqf s d p cl t (q6+1) 0):=.inl ⟨rfl,by omega,by omega,.ok hd49 (by rw [HQ5.out];exact HANS.out) hcl⟩
    clear hcl
    go_wp2_with fail
    refine (yat0 HA5.out hs (by omega) _ HCL.out).mono ?_
    rintro e w6 ⟨rfl,hb⟩
    have HX6:Hid (w6.heap[w3.heap.size]?=some (.cells x.arr 35 (0,0))):=(hb.block w3.heap.size hE5).trans HX5.out
    have HT6:=hh9 (HT5.out.under hb)
    have HG6:=hh9 (za4 HG5.out hb)
    have HR6:=hh9 (HR5.out.kept (hb.block _ HR5.out.lt))
    have HA6:=hh9 (HA5.out.below hb)
    have hE6:w3.heap.size<w6.heap.size:=by have:=hb.size;omega
    clear hb HX5 HT5 HG5 HR5 HA5
    obtain ⟨d0,d1,d2,y0,y1,y2⟩:=HA6.out.cells
    have HXS:Hid ((w6.setCell ⟨R,1,none⟩ (.int .i64 ((q6:Int)+1))).heap[w3.heap.size]?=some (.cells x.arr 35 (0,0))):=(Below.heap_setCell _ _ _ _ (show w3.heap.size≠R by omega)).trans HX6.out
    have HRS:Hid (Res0 (w6.setCell ⟨R,1,none⟩ (.int .i64 ((q6:Int)+1))) w.heap.size):=zdh HR6.out (by omega)
    have HTS:=hh9 (HT6.out.cell (R:=R) (k:=1) (v:=.int .i64 ((q6:Int)+1)) (fun b hb=>by omega))
    have HAS:=hh9 HA6.out.step
    have HGS:=hh9 (zah HG6.out 1 (.int .i64 ((q6:Int)+1)))
    go_wp2_with (first
     | (refine zb8 rfl _ rfl w3.heap.size x rfl HXS.out ?_)
     | (refine za6 rfl _ _ rfl w.heap.size x rfl rfl HRS.out H2.out H5.out ?_))
    exact bodyPost_ret_by (zaj rfl _ _ w.heap.size x rfl HRS.out) rfl ⟨x,t,q6+1,_,(HTS.out.set_row (fun b hb=>by omega) _).weak (fun b hb _=>by omega),⟨rfl,HAS.out.set_row (by omega) _,zae HGS.out (Nat.le_refl _) _⟩,HFIN.out⟩
   ·obtain ⟨Z,hZ⟩:∃ z,rd s q6=z:=⟨_,rfl⟩
    have qz:(Z != cl)=true:=by rw [<- hZ];simpa using hcl
    have HZ:=hh9 hZ
    have HFIN:Hid (zqf s d p cl t (q6+1) 20):=.inr ⟨by omega,by omega,.opened hd49 (by rw [HQ5.out];exact HANS.out) hcl⟩
    clear hZ hcl
    go_wp2_with fail
    refine (yat0 HA5.out hs (by omega) _ HZ.out).mono ?_
    rintro e w6 ⟨rfl,hb⟩
    have HX6:Hid (w6.heap[w3.heap.size]?=some (.cells x.arr 35 (0,0))):=(hb.block w3.heap.size hE5).trans HX5.out
    have HT6:=hh9 (HT5.out.under hb)
    have HG6:=hh9 (za4 HG5.out hb)
    have HR6:=hh9 (HR5.out.kept (hb.block _ HR5.out.lt))
    have HA6:=hh9 (HA5.out.below hb)
    have hE6:w3.heap.size<w6.heap.size:=by have:=hb.size;omega
    clear hb HX5 HT5 HG5 HR5 HA5
    go_wp2_with fail
    refine (zba HA6.out 20).mono ?_
    rintro e w7 ⟨rfl,ha,hg⟩
    have HX7:Hid (w7.heap[w3.heap.size]?=some (.cells x.arr 35 (0,0))):=(hg.block w3.heap.size hE6 (fun e=>by have:=Option.some.inj e;omega)).trans HX6.out
    have HT7:=hh9 (HT6.out.kept (P':=fun b=>w.heap.size+1<=b) (fun b hP hl=>⟨hg.block b hl (fun e=>by have:=Option.some.inj e;omega),hP⟩) hg.size)
    have HG7:=hh9 (HG6.out.trans hg)
    have HR7:=hh9 (za8 HR6.out hg (by omega))
    have HA7:=hh9 ha
    clear ha hg HX6 HT6 HG6 HR6 HA6
    obtain ⟨d0,d1,d2,y0,y1,y2⟩:=HA7.out.cells
    have HXS:Hid ((w7.setCell ⟨R,1,none⟩ (.int .i64 ((q6:Int)+1))).heap[w3.heap.size]?=some (.cells x.arr 35 (0,0))):=(Below.heap_setCell _ _ _ _ (show w3.heap.size≠R by omega)).trans HX7.out
    have HRS:Hid (Res0 (w7.setCell ⟨R,1,none⟩ (.int .i64 ((q6:Int)+1))) w.heap.size):=zdh HR7.out (by omega)
    have HTS:=hh9 (HT7.out.cell (R:=R) (k:=1) (v:=.int .i64 ((q6:Int)+1)) (fun b hb=>by omega))
    have HAS:=hh9 HA7.out.step
    have HGS:=hh9 (zah HG7.out 1 (.int .i64 ((q6:Int)+1)))
    go_wp2_with (first
     | (refine zb8 rfl _ rfl w3.heap.size x rfl HXS.out ?_)
     | (refine za6 rfl _ _ rfl w.heap.size x rfl rfl HRS.out H2.out H5.out ?_))
    exact bodyPost_ret_by (zaj rfl _ _ w.heap.size x rfl HRS.out) rfl ⟨x,t,q6+1,_,(HTS.out.set_row (fun b hb=>by omega) _).weak (fun b hb _=>by omega),⟨rfl,HAS.out.set_row (by omega) _,zae HGS.out (Nat.le_refl _) _⟩,HFIN.out⟩
  ·have HFIN:Hid (zqf s d p cl t (q+1) c):=.inr ⟨hc,by omega,.err hd49 (by rw [<- HQ1.out,hd'];exact hans)⟩
   have hqb:q<=60000:=by omega
   clear hans
   have H2:=hh9 (zaa ht)
   have H5:=hh9 (zab ht)
   have hz3:w.heap.size+1<=w3.heap.size:=by have:=hg.size;omega
   have HX:Hid (((w3.alloc (.cells #[.int .i64 0,.string ⟨#[]⟩,.slice none 0 0,.int .i64 0,.int .i64 0,.slice none 0 0] 35)).setRow w3.heap.size x.arr).heap[w3.heap.size]?=some (.cells x.arr 35 (0,0))):=zdn (zav w3) _
   have HT3:Hid (TreeAt ((w3.alloc (.cells #[.int .i64 0,.string ⟨#[]⟩,.slice none 0 0,.int .i64 0,.int .i64 0,.slice none 0 0] 35)).setRow w3.heap.size x.arr) (fun b=>w.heap.size+1<=b) x t):=by
    have h1:=ht.weak (P':=fun b=>w.heap.size+1<=b/\b≠w3.heap.size) (fun b hP hl=>⟨by omega,by omega⟩)
    have h3:=h1.under (W':=w3.alloc (.cells #[.int .i64 0,.string ⟨#[]⟩,.slice none 0 0,.int .i64 0,.int .i64 0,.slice none 0 0] 35)) ((Below.refl _ _).alloc (Nat.le_refl _) _)
    exact (h3.set_row (fun b hP=>hP.2) _).weak (fun b hP _=>hP.1)
   have HG3:Hid (w.grownBy ((w3.alloc (.cells #[.int .i64 0,.string ⟨#[]⟩,.slice none 0 0,.int .i64 0,.int .i64 0,.slice none 0 0] 35)).setRow w3.heap.size x.arr) (some R)):=zae (zao (HG2.out.trans hg) _) (by omega) _
   have HA3:Hid (AtY ((w3.alloc (.cells #[.int .i64 0,.string ⟨#[]⟩,.slice none 0 0,.int .i64 0,.int .i64 0,.slice none 0 0] 35)).setRow w3.heap.size x.arr) R s q c):=(ha.alloc _).set_row (by omega) _
   have HR3:Hid (Res0 ((w3.alloc (.cells #[.int .i64 0,.string ⟨#[]⟩,.slice none 0 0,.int .i64 0,.int .i64 0,.slice none 0 0] 35)).setRow w3.heap.size x.arr) w.heap.size):=zew (zaz (za8 HR2.out hg (by omega)) _) _ (by omega)
   have hz4:w.heap.size+1<=((w3.alloc (.cells #[.int .i64 0,.string ⟨#[]⟩,.slice none 0 0,.int .i64 0,.int .i64 0,.slice none 0 0] 35)).setRow w3.heap.size x.arr).heap.size:=by simp [World.setRow];omega
   clear ht ha hg
   go_wp2_with (refine za6 rfl _ _ rfl w3.heap.size x rfl rfl (zav w3) H2.out H5.out ?_)
   refine (zfl HA3.out hc hs).mono ?_
   rintro e w5 ⟨rfl,ha,hg⟩
   have hltE:w3.heap.size<((w3.alloc (.cells #[.int .i64 0,.string ⟨#[]⟩,.slice none 0 0,.int .i64 0,.int .i64 0,.slice none 0 0] 35)).setRow w3.heap.size x.arr).heap.size:=by simp [World.setRow]
   have HX5:Hid (w5.heap[w3.heap.size]?=some (.cells x.arr 35 (0,0))):=(hg.block w3.heap.size hltE (fun e=>by have:=Option.some.inj e;omega)).trans HX.out
   have HT5:=hh9 (HT3.out.kept (P':=fun b=>w.heap.size+1<=b) (fun b hP hl=>⟨hg.block b hl (fun e=>by have:=Option.some.inj e;omega),hP⟩) hg.size)
   have HG5:=hh9 (HG3.out.trans hg)
   have HR5:=hh9 (za8 HR3.out hg (by omega))
   have HA5:=hh9 ha
   have hz5:w.heap.size+1<=w5.heap.size:=by have:=hg.size;omega
   have hE5:w3.heap.size<w5.heap.size:=by have:=hg.size;omega
   clear ha hg hltE HX HT3 HG3 HR3 HA3 hz4
   by_cases hcl:rd s q=cl
   ·have HCL:=hh9 hcl
    clear hcl
    go_wp2_with fail
    refine (yat0 HA5.out hs hqb _ HCL.out).mono ?_
    rintro e w6 ⟨rfl,hb⟩
    have HX6:Hid (w6.heap[w3.heap.size]?=some (.cells x.arr 35 (0,0))):=(hb.block w3.heap.size hE5).trans HX5.out
    have HT6:=hh9 (HT5.out.under hb)
    have HG6:=hh9 (za4 HG5.out hb)
    have HR6:=hh9 (HR5.out.kept (hb.block _ HR5.out.lt))
    have HA6:=hh9 (HA5.out.below hb)
    have hE6:w3.heap.size<w6.heap.size:=by have:=hb.size;omega
    clear hb HX5 HT5 HG5 HR5 HA5
    obtain ⟨d0,d1,d2,y0,y1,y2⟩:=HA6.out.cells
    have HXS:Hid ((w6.setCell ⟨R,1,none⟩ (.int .i64 ((q:Int)+1))).heap[w3.heap.size]?=some (.cells x.arr 35 (0,0))):=(Below.heap_setCell _ _ _ _ (show w3.heap.size≠R by omega)).trans HX6.out
    have HRS:Hid (Res0 (w6.setCell ⟨R,1,none⟩ (.int .i64 ((q:Int)+1))) w.heap.size):=zdh HR6.out (by omega)
    have HTS:=hh9 (HT6.out.cell (R:=R) (k:=1) (v:=.int .i64 ((q:Int)+1)) (fun b hb=>by omega))
    have HAS:=hh9 HA6.out.step
    have HGS:=hh9 (zah HG6.out 1 (.int .i64 ((q:Int)+1)))
    go_wp2_with (first
     | (refine zb8 rfl _ rfl w3.heap.size x rfl HXS.out ?_)
     | (refine za6 rfl _ _ rfl w.heap.size x rfl rfl HRS.out H2.out H5.out ?_))
    exact bodyPost_ret_by (zaj rfl _ _ w.heap.size x rfl HRS.out) rfl ⟨x,t,q+1,_,(HTS.out.set_row (fun b hb=>by omega) _).weak (fun b hb _=>by omega),⟨rfl,HAS.out.set_row (by omega) _,zae HGS.out (Nat.le_refl _) _⟩,HFIN.out⟩
   ·obtain ⟨Z,hZ⟩:∃ z,rd s q=z:=⟨_,rfl⟩
    have qz:(Z != cl)=true:=by rw [<- hZ];simpa using hcl
    have HZ:=hh9 hZ
    clear hZ hcl
    go_wp2_with fail
    refine (yat0 HA5.out hs hqb _ HZ.out).mono ?_
    rintro e w6 ⟨rfl,hb⟩
    have HX6:Hid (w6.heap[w3.heap.size]?=some (.cells x.arr 35 (0,0))):=(hb.block w3.heap.size hE5).trans HX5.out
    have HT6:=hh9 (HT5.out.under hb)
    have HG6:=hh9 (za4 HG5.out hb)
    have HR6:=hh9 (HR5.out.kept (hb.block _ HR5.out.lt))
    have HA6:=hh9 (HA5.out.below hb)
    have hE6:w3.heap.size<w6.heap.size:=by have:=hb.size;omega
    clear hb HX5 HT5 HG5 HR5 HA5
    go_wp2_with fail
    refine (zd8 HA6.out hc 20).mono ?_
    rintro e w7 ⟨rfl,ha,hg⟩
    have HX7:Hid (w7.heap[w3.heap.size]?=some (.cells x.arr 35 (0,0))):=(hg.block w3.heap.size hE6 (fun e=>by have:=Option.some.inj e;omega)).trans HX6.out
    have HT7:=hh9 (HT6.out.kept (P':=fun b=>w.heap.size+1<=b) (fun b hP hl=>⟨hg.block b hl (fun e=>by have:=Option.some.inj e;omega),hP⟩) hg.size)
    have HG7:=hh9 (HG6.out.trans hg)
    have HR7:=hh9 (za8 HR6.out hg (by omega))
    have HA7:=hh9 ha
    clear ha hg HX6 HT6 HG6 HR6 HA6
    obtain ⟨d0,d1,d2,y0,y1,y2⟩:=HA7.out.cells
    have HXS:Hid ((w7.setCell ⟨R,1,none⟩ (.int .i64 ((q:Int)+1))).heap[w3.heap.size]?=some (.cells x.arr 35 (0,0))):=(Below.heap_setCell _ _ _ _ (show w3.heap.size≠R by omega)).trans HX7.out
    have HRS:Hid (Res0 (w7.setCell ⟨R,1,none⟩ (.int .i64 ((q:Int)+1))) w.heap.size):=zdh HR7.out (by omega)
    have HTS:=hh9 (HT7.out.cell (R:=R) (k:=1) (v:=.int .i64 ((q:Int)+1)) (fun b hb=>by omega))
    have HAS:=hh9 HA7.out.step
    have HGS:=hh9 (zah HG7.out 1 (.int .i64 ((q:Int)+1)))
    go_wp2_with (first
     | (refine zb8 rfl _ rfl w3.heap.size x rfl HXS.out ?_)
     | (refine za6 rfl _ _ rfl w.heap.size x rfl rfl HRS.out H2.out H5.out ?_))
    exact bodyPost_ret_by (zaj rfl _ _ w.heap.size x rfl HRS.out) rfl ⟨x,t,q+1,_,(HTS.out.set_row (fun b hb=>by omega) _).weak (fun b hb _=>by omega),⟨rfl,HAS.out.set_row (by omega) _,zae HGS.out (Nat.le_refl _) _⟩,HFIN.out⟩
end Go.Proofs.YtekjnfldgjcgeaaGreatDoor
