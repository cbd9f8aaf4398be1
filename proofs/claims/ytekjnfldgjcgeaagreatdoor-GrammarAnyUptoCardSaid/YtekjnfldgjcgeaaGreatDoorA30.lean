/- Part 30 of what the laws of the grammar rest on. -/
import Derived.Test.YtekjnfldgjcgeaaGreatDoorA29
set_option linter.all false
set_option maxRecDepth 100000
set_option maxHeartbeats 8000000
namespace Go.Proofs.YtekjnfldgjcgeaaGreatDoor
open Go.RowKit
def qb4 (R:Nat) (s:ByteArray) (p d:Nat) (w wr:World) (v:Value) (q:Nat) (c:Int) (l:List Tree):Prop :=
 zbq wr (w.heap.size+1) v l/\0<l.length/\AtY wr R s q c/\w.grownBy wr (some R)/\Res0 wr w.heap.size /\
  ((c=0/\p<=q/\q<=s.size/\l.length<=q+1/\∀ r,Ans (rd s) (.altMore l) d (zad (rd s) q) r->Ans (rd s) .alts d p r)\/(c≠0/\q<=s.size+2+(52-d)/\l.length<=s.size+2/\Ans (rd s) .alts d p (.err c)))
theorem zp5 {k:Nat} (hel:zfq 59 true .conc k):zfq 36 true .alts k:=by
 intro R p d s w h hs hp hd hk
 have hR:=h.lt
 have HR:=hh9 (zav w)
 have HA:=hh9 (h.alloc (.cells #[.int .i64 0,.string ⟨#[]⟩,.slice none 0 0,.int .i64 0,.int .i64 0,.slice none 0 0] 35))
 have HG:=hh9 (World.grownBy_alloc w (.cells #[.int .i64 0,.string ⟨#[]⟩,.slice none 0 0,.int .i64 0,.int .i64 0,.slice none 0 0] 35) (some R))
 have HEL:Hid (zfq 59 true .conc k):=@hel
 clear h hel
 go_enter Tryz.func36,Tryz.ntmps36
 go_wp2_with fail
 refine (HEL.out HA.out hs hp hd (by omega)).mono ?_
 rintro e w1 ⟨x,t,q,c,ht,⟨rfl,ha,hg⟩,hout⟩
 obtain ⟨h2,h5⟩:x.ns.oneCell'=true/\x.ks.oneCell'=true:=⟨zaa ht,zab ht⟩
 have H2:=hh9 h2
 have H5:=hh9 h5
 have hz1:w.heap.size+1<=w1.heap.size:=by have:=hg.size;simp at this;omega
 have ht1:TreeAt w1 (fun b=>w.heap.size+1<=b) x t:=ht.weak (fun b hb _=>by simp at hb;omega)
 have H0:Hid (qb4 R s p d w (w1.alloc (.cells x.arr 35)) (.slice (some ⟨w1.heap.size,0,none⟩) 1 1) q c [t]):=by
  refine ⟨zbq.one ht1 (Nat.le_refl _) hz1 (heap_alloc_new w1 _) (fun b _ hl=>heap_alloc_old _ _ hl) (by simp),by simp,ha.alloc _,zao (HG.out.trans hg) _,zaz (za8 HR.out hg (by omega)) _,?_⟩
  rcases hout with ⟨rfl,hpq,hqs,hans⟩ | ⟨hc,hqb,hans⟩
  ·exact .inl ⟨rfl,hpq,hqs,by simp,fun r hr=>.altsOk hans hr⟩
  ·exact .inr ⟨hc,hqb,by simp,.altsErr hans⟩
 clear ha hg h2 h5 ht ht1 HR HA HG hout
 go_wp2_with (refine zbc rfl _ rfl x rfl H2.out H5.out ?_)
 clear H2 H5
 go_loopw [5] (fun v wr=>∃ (q:Nat) (c:Int) (l:List Tree),Hid (qb4 R s p d w wr v q c l)) (fun _ wr=>zts R s.size wr)
 case atStart=>exact ⟨q,c,[t],H0⟩
 case round =>
  clear H0 hz1
  obtain ⟨q,c,l,HI⟩:=hrel
  obtain ⟨hk0,hl0,ha,hg,hres,hst⟩:=HI.out
  have HA:=hh9 ha
  have HG:=hh9 hg
  have HRES:=hh9 hres
  have HK:=hh9 hk0
  have HM:=hh9 (ha.meas s.size)
  have hz:w.heap.size+1<=wr.heap.size:=by have:=hres.lt;omega
  obtain ⟨c0,c1,c2,z0,z1,z2⟩:=ha.cells
  clear ha hg hres hk0
  rcases hst with ⟨rfl,hpq,hqs,hlq,hall⟩ | ⟨hc,hqb,hlb,hans⟩
  ·have HALL:=hh9 hall
   clear hall
   obtain ⟨q1,hq1⟩:∃ q1,q1=zad (rd s) q:=⟨_,rfl⟩
   obtain ⟨hsk0,hle1,hls1⟩:=zdo hqs
   rw [<- hq1] at hsk0 hle1 hls1
   have HSK:=hh9 hsk0
   have HQ1:=hh9 hq1
   clear hsk0 hq1
   go_wp2_with fail
   refine (zfd HA.out hs hqs).mono ?_
   rintro e w2 ⟨q2,hsk,hle,hls,rfl,ha,hg⟩
   obtain rfl:q2=q1:=hsk.one HSK.out
   have HA2:=hh9 ha
   have HG2:=hh9 (HG.out.trans hg)
   have HK2:=hh9 (HK.out.grown hg (by omega))
   have HRES2:=hh9 (za8 HRES.out hg (by omega))
   have hz2:w.heap.size+1<=w2.heap.size:=by have:=hg.size;omega
   clear hsk ha hg HA HG HK HRES c0 c1 c2 z0 z1 z2
   by_cases h47:rd s q2=47
   ·have H47:=hh9 h47
    have hlt:q2<s.size:=zbu (by omega) h47
    have H47b:Hid (rd s (zad (rd s) q)=47):=by rw [<- HQ1.out];exact h47
    clear h47
    go_wp2_with fail
    refine (yat0 HA2.out hs (by omega) _ H47.out).mono ?_
    rintro e w3 ⟨rfl,hb⟩
    have HA3:=hh9 (HA2.out.below hb)
    have HG3:=hh9 (za4 HG2.out hb)
    have HK3:=hh9 (HK2.out.below hb)
    have HRES3:=hh9 (HRES2.out.kept (hb.block _ HRES2.out.lt))
    have hz3:w.heap.size+1<=w3.heap.size:=by have:=hb.size;omega
    obtain ⟨d0,d1,d2,y0,y1,y2⟩:=HA3.out.cells
    clear hb HA2 HG2 HK2 HRES2
    obtain ⟨q4,hq4⟩:∃ q4,q4=zad (rd s) (q2+1):=⟨_,rfl⟩
    obtain ⟨hsk4,hle4,hls4⟩:=zdo (s:=s) (p:=q2+1) (by omega)
    rw [<- hq4] at hsk4 hle4 hls4
    have HSK4:=hh9 hsk4
    have HQ4:=hh9 hq4
    clear hsk4 hq4
    go_wp2_with fail
    refine (zfd HA3.out.step hs (by omega)).mono ?_
    rintro e w4 ⟨q5,hsk,hle5,hls5,rfl,ha,hg⟩
    obtain rfl:q5=q4:=hsk.one HSK4.out
    have hg':=(zah (zak w3 (some R)) 1 (.int .i64 ((q2:Int)+1))).trans hg
    have HA4:=hh9 ha
    have HG4:=hh9 (HG3.out.trans hg')
    have HK4:=hh9 (HK3.out.grown hg' (by omega))
    have HRES4:=hh9 (za8 HRES3.out hg' (by omega))
    have hz4:w.heap.size+1<=w4.heap.size:=by have:=hg'.size;omega
    clear hsk ha hg hg' HA3 HG3 HK3 HRES3 d0 d1 d2 y0 y1 y2
    go_wp2_with fail
    refine (HEL.out HA4.out hs hls4 hd (by omega)).mono ?_
    rintro e w5 ⟨x,t,q3,c3,ht,⟨rfl,ha,hg⟩,hout⟩
    have h2:=zaa ht
    have h5:=zab ht
    have H2:=hh9 h2
    have H5:=hh9 h5
    have hz5:w.heap.size+1<=w5.heap.size:=by have:=hg.size;exact Nat.le_trans hz4 this
    have HK5:=hh9 ((HK4.out.grown hg (by omega)).below ((Below.refl w5.heap.size w5).alloc (Nat.le_refl _) (.cells x.arr 35)))
    have HT5:=hh9 ((ziz HK4.out ht hz4).under ((Below.refl w5.heap.size w5).alloc (Nat.le_refl _) (.cells x.arr 35)))
    have HA5:=hh9 (ha.alloc (.cells x.arr 35))
    have HG5:=hh9 (zao (HG4.out.trans hg) (.cells x.arr 35))
    have HR5:=hh9 (zaz (za8 HRES4.out hg (by omega)) (.cells x.arr 35))
    have HST:Hid ((c3=0->q<q3)/\((c3=0/\p<=q3/\q3<=s.size/\(l++[t]).length<=q3+1/\∀ r,Ans (rd s) (.altMore (l++[t])) d (zad (rd s) q3) r->Ans (rd s) .alts d p r)\/(c3≠0/\q3<=s.size+2+(52-d)/\(l++[t]).length<=s.size+2/\Ans (rd s) .alts d p (.err c3)))):=by
     rcases hout with ⟨rfl,hb3,hqs3,hans⟩ | ⟨hc,hqb,hans⟩
     ·refine ⟨fun _=>by omega,.inl ⟨rfl,by omega,hqs3,by simp;omega,fun r hr=>HALL.out r (.moreOk H47b.out (by rw [<- HQ1.out,<- HQ4.out];exact hans) hr)⟩⟩
     ·exact ⟨fun g=>absurd g hc,.inr ⟨hc,hqb,by simp;omega,HALL.out _ (.moreErr H47b.out (by rw [<- HQ1.out,<- HQ4.out];exact hans))⟩⟩
    clear ha hg ht HK4 HA4 HG4 HRES4 h2 h5 hout
    go_wp2_with (first
     | (refine zbc rfl _ rfl x rfl H2.out H5.out ?_)
     | (at_builtin;go_loud (refine zh3 rfl _ _ rfl (w.heap.size+1) _ l t x w5.heap.size rfl rfl HK5.out HT5.out (heap_alloc_new w5 _) ?c1 ?c2 ?_)))
    case c1=>omega
    case c2=>simp;omega
    intro v' w6 hk6 hgrow
    have HK6:=hh9 hk6
    have HA6:=hh9 (zs3 HK5.out HA5.out hgrow (by omega))
    have HG6:=hh9 (zgc HK5.out HG5.out hgrow (by omega))
    have HR6:=hh9 (ziy HK5.out HR5.out hgrow (by omega))
    clear hk6 hgrow HK5 HA5 HG5 HR5 HT5 H2 H5
    go_wp2_with fail
    go_roundw
    case rel=>exact ⟨q3,c3,l++[t],HK6.out,by simp,HA6.out,HG6.out,HR6.out,HST.out.2⟩
    case measure =>
     rw [HM.out,HA6.out.meas]
     simp only [if_true]
     have:=HST.out.1
     split
     ·rename_i g
      have:=this g
      omega
     ·omega
   ·obtain ⟨Z,hZ⟩:∃ z,rd s q2=z:=⟨_,rfl⟩
    have qz:(Z != 47)=true:=by rw [<- hZ];simpa using h47
    have qz2:(Z==47)=false:=by rw [<- hZ];simpa using h47
    have HZ:=hh9 hZ
    have HO:Hid (OutY true s d .alts p (zgq 1 l) q 0):=.inl ⟨rfl,hpq,hqs,HALL.out _ (by rw [<- HQ1.out];exact .moreEnd h47)⟩
    clear hZ h47
    go_wp2_with fail
    refine (yat0 HA2.out hs (by omega) _ HZ.out).mono ?_
    rintro e w3 ⟨rfl,hb⟩
    have HA3:=hh9 (HA2.out.below hb)
    obtain ⟨d0,d1,d2,y0,y1,y2⟩:=HA3.out.cells
    have HA:=hh9 (HA3.out.put (x:=(q:Int)) (q:=q) rfl)
    have HG:=hh9 (zah (za4 HG2.out hb) 1 (.int .i64 (q:Int)))
    have HK:=hh9 ((HK2.out.below hb).grown (zah (zak w3 (some R)) 1 (.int .i64 (q:Int))) (by omega))
    have HRES:=hh9 (za8 (HRES2.out.kept (hb.block _ HRES2.out.lt)) (zah (zak w3 (some R)) 1 (.int .i64 (q:Int))) (by omega))
    clear hb HA2 HG2 HK2 HRES2
    by_cases hone:∃ t1,l=[t1]
    ·obtain ⟨t1,rfl⟩:=hone
     obtain ⟨vs,hl,hr,ht⟩:=HK.out
     obtain ⟨x,rfl⟩:∃ x,vs=[x]:=by
      match vs,hl with
      | [x],_=>exact ⟨x,rfl⟩
     have hx:=(ht 0 x t1 rfl rfl).weak (P':=fun b=>w.heap.size+1<=b) (fun b hP _=>hP.1)
     obtain ⟨g,cap,rfl⟩:=(zan hr).resolve_left (fun h=>by cases h.2)
     have e0:=zaq hr (j:=0) rfl
     have e1:=zaq hr (j:=1) rfl
     have e2:=zaq hr (j:=2) rfl
     have e3:=zaq hr (j:=3) rfl
     have e4:=zaq hr (j:=4) rfl
     have e5:=zaq hr (j:=5) rfl
     obtain ⟨hbg,hcap,hmax,hg⟩:=zb0 hr
     have HT:=hh9 hx
     obtain ⟨x0,x1,x2,x3,x4,x5⟩:=x
     have HS2:Hid (Value.oneCell' x2=true):=zaa HT.out
     have HS5:Hid (Value.oneCell' x5=true):=zab HT.out
     have HO1:=hh9 (HO.out)
     clear hr ht hx hl HK
     go_wp2_with (refine za6 rfl _ _ rfl w.heap.size ⟨x0,x1,x2,x3,x4,x5⟩ rfl rfl HRES.out HS2.out HS5.out ?_)
     exact bodyPost_ret_by (zaj rfl _ _ w.heap.size ⟨x0,x1,x2,x3,x4,x5⟩ rfl HRES.out) rfl (zcs HT.out HA.out HG.out hR HO1.out)
    ·have hn:l.length≠1:=fun h=>hone (by
      match l,h with
      | [t1],_=>exact ⟨t1,rfl⟩)
     have HT:=hh9 (HK.out.tree 1 0 0)
     have HO1:=hh9 (HO.out)
     rw [zee _ hn] at HO1
     obtain ⟨vs,hl,hr,ht⟩:=HK.out
     obtain ⟨n,hln⟩:∃ n,n=l.length:=⟨_,rfl⟩
     have hq:decide ((n:Int)=1)=false:=zlk (by omega)
     have hq2:((n:Int)==1)=false:=by simp;omega
     have hn2:n<=60000:=by omega
     obtain ⟨g,cap,rfl⟩:=(zan hr).resolve_left (fun h=>by omega)
     rw [<- hln] at HT ⊢
     clear hr ht hl hone hn hln HK
     go_wp2_with (refine za6 rfl _ _ rfl w.heap.size ⟨1,⟨#[]⟩,.slice none 0 0,0,0,.slice (some ⟨g,0,none⟩) n cap⟩ rfl rfl HRES.out rfl rfl ?_)
     exact bodyPost_ret_by (zaj rfl _ _ w.heap.size ⟨1,⟨#[]⟩,.slice none 0 0,0,0,.slice (some ⟨g,0,none⟩) n cap⟩ rfl HRES.out) rfl (zcs HT.out HA.out HG.out hR HO1.out)
  ·have HO:Hid (OutY true s d .alts p (zgq 1 l) q c):=.inr ⟨hc,hqb,hans⟩
   have qc:(c==0)=false:=by simpa using hc
   clear hans HI
   by_cases hone:∃ t1,l=[t1]
   ·obtain ⟨t1,rfl⟩:=hone
    obtain ⟨vs,hl,hr,ht⟩:=HK.out
    obtain ⟨x,rfl⟩:∃ x,vs=[x]:=by
     match vs,hl with
     | [x],_=>exact ⟨x,rfl⟩
    have hx:=(ht 0 x t1 rfl rfl).weak (P':=fun b=>w.heap.size+1<=b) (fun b hP _=>hP.1)
    obtain ⟨g,cap,rfl⟩:=(zan hr).resolve_left (fun h=>by cases h.2)
    have e0:=zaq hr (j:=0) rfl
    have e1:=zaq hr (j:=1) rfl
    have e2:=zaq hr (j:=2) rfl
    have e3:=zaq hr (j:=3) rfl
    have e4:=zaq hr (j:=4) rfl
    have e5:=zaq hr (j:=5) rfl
    obtain ⟨hbg,hcap,hmax,hg⟩:=zb0 hr
    have HT:=hh9 hx
    obtain ⟨x0,x1,x2,x3,x4,x5⟩:=x
    have HS2:Hid (Value.oneCell' x2=true):=zaa HT.out
    have HS5:Hid (Value.oneCell' x5=true):=zab HT.out
    have HO1:=hh9 (HO.out)
    clear hr ht hx hl HK
    go_wp2_with (refine za6 rfl _ _ rfl w.heap.size ⟨x0,x1,x2,x3,x4,x5⟩ rfl rfl HRES.out HS2.out HS5.out ?_)
    exact bodyPost_ret_by (zaj rfl _ _ w.heap.size ⟨x0,x1,x2,x3,x4,x5⟩ rfl HRES.out) rfl (zcs HT.out HA.out HG.out hR HO1.out)
   ·have hn:l.length≠1:=fun h=>hone (by
     match l,h with
     | [t1],_=>exact ⟨t1,rfl⟩)
    have HT:=hh9 (HK.out.tree 1 0 0)
    have HO1:=hh9 (HO.out)
    rw [zee _ hn] at HO1
    obtain ⟨vs,hl,hr,ht⟩:=HK.out
    obtain ⟨n,hln⟩:∃ n,n=l.length:=⟨_,rfl⟩
    have hq:decide ((n:Int)=1)=false:=zlk (by omega)
    have hq2:((n:Int)==1)=false:=by simp;omega
    have hn2:n<=60000:=by omega
    obtain ⟨g,cap,rfl⟩:=(zan hr).resolve_left (fun h=>by omega)
    rw [<- hln] at HT ⊢
    clear hr ht hl hone hn hln HK
    go_wp2_with (refine za6 rfl _ _ rfl w.heap.size ⟨1,⟨#[]⟩,.slice none 0 0,0,0,.slice (some ⟨g,0,none⟩) n cap⟩ rfl rfl HRES.out rfl rfl ?_)
    exact bodyPost_ret_by (zaj rfl _ _ w.heap.size ⟨1,⟨#[]⟩,.slice none 0 0,0,0,.slice (some ⟨g,0,none⟩) n cap⟩ rfl HRES.out) rfl (zcs HT.out HA.out HG.out hR HO1.out)
noncomputable def zis (f:Nat->Int) (p:Nat):Got Int:=if isDc (f p) then zbl 10 200 f p else .ok (-1) p
def CntY (c0:Int) (R:Nat) (s:ByteArray) (p:Nat) (w:World) (e:Ending) (w':World):Prop :=
 ∃ (n:Int) (q:Nat) (c:Int),GivesY R s (.int .i64 n) q c w e w'/\-1<=n/\n<=200/\((c0=0/\c=0/\p<=q/\q<=s.size/\zis (rd s) p=.ok n q)\/(c0=0/\c=2/\q<=s.size/\zis (rd s) p=.err 2/\n=-1)\/(c0≠0/\c=c0/\q=p/\n=-1))
theorem zs4 {R p:Nat} {c:Int} {s:ByteArray} {w:World} (h:AtY w R s p c) (hs:s.size<=50000) (hp:c=0->p<=s.size) :
  Calls Tryz.prog 95 #[.pointer (some ⟨R,0,none⟩),.int .i64 10,.int .i64 200] w (CntY c R s p w):=by
 by_cases hc:c=0
 ·subst hc
  refine (zkm 10 200 (by omega) (by omega) (by omega) h hs (hp rfl)).mono ?_
  rintro e w' (⟨hd,hgv⟩ | ⟨v,q,hn,hgv⟩ | ⟨hd,hn,q,hq,hgv⟩)
  ·rw [zj1] at hd
   exact ⟨-1,p,0,hgv,by omega,by omega,.inl ⟨rfl,rfl,Nat.le_refl _,hp rfl,by unfold zis;rw [hd];rfl⟩⟩
  ·obtain ⟨h1,h2⟩:=zet (by omega) (hp rfl) hn
   have hv:=zh5 (by omega) hn
   have hd:isDc (rd s p)=true:=by
    cases hd:isDc (rd s p)
    ·rw [<- zj1] at hd
     rw [zhx hd] at hn
     cases hn
    ·rfl
   have hv2:v<=200:=by
    unfold zbl at hn
    split at hn
    ·cases hn
    ·split at hn
     ·cases hn
     ·cases hn;omega
   exact ⟨v,q,0,hgv,by omega,hv2,.inl ⟨rfl,rfl,by omega,h2,by unfold zis;rw [hd];exact hn⟩⟩
  ·rw [zj1] at hd
   exact ⟨-1,q,2,hgv,by omega,by omega,.inr (.inl ⟨rfl,rfl,hq,by unfold zis;rw [hd];exact hn,rfl⟩)⟩
 ·refine (zhj 10 200 h hc).mono ?_
  intro e w' hgv
  exact ⟨-1,p,c,hgv,by omega,by omega,.inr (.inr ⟨hc,rfl,rfl,rfl⟩)⟩
def ElemY (c0:Int) (R:Nat) (s:ByteArray) (d p:Nat) (w:World) (e:Ending) (w':World):Prop :=
 ∃ (x:XV) (t:Tree) (q:Nat) (c:Int),TreeAt w' (fun b=>w.heap.size<=b) x t/\GivesY R s x.val q c w e w'/\((c0=0/\OutY false s d .elem p t q c)\/(c0≠0/\c=c0/\q=p))
def znd (f k:Nat):Prop:=∀ {R p d:Nat} {c:Int} {s:ByteArray} {w:World},AtY w R s p c->s.size<=50000->(c=0->p<=s.size/\d<=50/\s.size-p<=k)->p<=55000->d<=60 ->
 Calls Tryz.prog f #[.pointer (some ⟨R,0,none⟩),.int .i64 d] w (ElemY c R s d p w)
def RepY (c0:Int) (R:Nat) (s:ByteArray) (d p:Nat) (w:World) (e:Ending) (w':World):Prop :=
 ∃ (x:XV) (t:Tree) (q:Nat) (c:Int),TreeAt w' (fun b=>w.heap.size<=b) x t/\GivesY R s x.val q c w e w'/\((c0=0/\OutY false s d .rep p t q c)\/(c0≠0/\c=c0/\q<=p+1))
def zwz (f k:Nat):Prop:=∀ {R p d:Nat} {c:Int} {s:ByteArray} {w:World},AtY w R s p c->s.size<=50000->(c=0->p<=s.size/\d<=50/\s.size-p<=k)->p<=54000->d<=60 ->
 Calls Tryz.prog f #[.pointer (some ⟨R,0,none⟩),.int .i64 d] w (RepY c R s d p w)
theorem zfm {R:Nat} {s:ByteArray} {q:Nat} {c:Int} {w W:World} {x:XV} {t:Tree} (lo hi:Int) (hR:R<w.heap.size) (hz:w.heap.size+1<=W.heap.size) (HT:TreeAt W (fun b=>w.heap.size+1<=b) x t) (HA:AtY W R s q c) (HG:w.grownBy W (some R)) (HR:Res0 W w.heap.size) :
  Res0 (W.alloc (.cells x.arr 35)) w.heap.size /\
   TreeAt ((W.alloc (.cells x.arr 35)).setRow w.heap.size (XV.arr ⟨3,⟨#[]⟩,.slice none 0 0,lo,hi,.slice (some ⟨W.heap.size,0,none⟩) 1 1⟩)) (fun b=>w.heap.size<=b) ⟨3,⟨#[]⟩,.slice none 0 0,lo,hi,.slice (some ⟨W.heap.size,0,none⟩) 1 1⟩ (repT lo hi t) /\
   GivesY R s (XV.val ⟨3,⟨#[]⟩,.slice none 0 0,lo,hi,.slice (some ⟨W.heap.size,0,none⟩) 1 1⟩) q c w (.returned (XV.val ⟨3,⟨#[]⟩,.slice none 0 0,lo,hi,.slice (some ⟨W.heap.size,0,none⟩) 1 1⟩)) ((W.alloc (.cells x.arr 35)).setRow w.heap.size (XV.arr ⟨3,⟨#[]⟩,.slice none 0 0,lo,hi,.slice (some ⟨W.heap.size,0,none⟩) 1 1⟩)):=by
 have hk:=zbq.one (W:=W) (W':=W.alloc (.cells x.arr 35)) (base:=w.heap.size+1) (g:=W.heap.size) HT (Nat.le_refl _) hz (heap_alloc_new W _) (fun b _ hl=>heap_alloc_old _ _ hl) (by simp)
 exact ⟨zaz HR _,((hk.tree 3 lo hi).set_row (fun b hb=>by omega) _).weak (fun b hb _=>by omega),rfl,(HA.alloc _).set_row (by omega) _,zae (zao HG _) (Nat.le_refl _) _⟩
theorem qa5 {s:ByteArray} {d p q1 q2:Nat} {n:Int} {t:Tree} (hp:p<=q1) (hc:zis (rd s) p=.ok n q1) (h42:rd s q1≠42) (hn:n<0) {c:Int} (ho:OutY false s d .elem q1 t q2 c):OutY false s d .rep p t q2 c:=by
 have hcount:=zj3 hc h42
 rw [show decide (0<=n)=false from decide_eq_false (by omega)] at hcount
 rcases ho with ⟨rfl,h1,h2,hans⟩ | ⟨hcc,h1,hans⟩
 ·exact .inl ⟨rfl,by omega,h2,.repBare hcount hans⟩
 ·exact .inr ⟨hcc,h1,.repErr hcount hans⟩
theorem zs5 {s:ByteArray} {d p q1 q2:Nat} {lo hi:Int} {t:Tree} (hp:p<=q1) (hcount:countAt (rd s) p=.ok (lo,hi,true) q1) {c:Int} (ho:OutY false s d .elem q1 t q2 c) :
  (¬ (0<=hi/\hi<lo)->OutY false s d .rep p (repT lo hi t) q2 c)/\(0<=hi/\hi<lo->OutY false s d .rep p (repT lo hi t) q2 (if c=0 then 20 else c)):=by
 rcases ho with ⟨rfl,h1,h2,hans⟩ | ⟨hcc,h1,hans⟩
 ·exact ⟨fun h=>.inl ⟨rfl,by omega,h2,.repOk hcount hans h⟩,fun h=>.inr ⟨by simp,by omega,.repLess hcount hans h⟩⟩
 ·refine ⟨fun h=>.inr ⟨hcc,h1,.repErr hcount hans⟩,fun h=>?_⟩
  rw [if_neg hcc]
  exact .inr ⟨hcc,h1,.repErr hcount hans⟩
end Go.Proofs.YtekjnfldgjcgeaaGreatDoor
