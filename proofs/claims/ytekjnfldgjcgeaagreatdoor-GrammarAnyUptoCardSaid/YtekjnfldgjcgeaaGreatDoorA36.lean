/- Part 36 of what the laws of the grammar rest on. -/
import Derived.Test.YtekjnfldgjcgeaaGreatDoorA13
import Derived.Test.YtekjnfldgjcgeaaGreatDoorA35
set_option linter.all false
set_option maxRecDepth 100000
set_option maxHeartbeats 8000000
namespace Go.Proofs.YtekjnfldgjcgeaaGreatDoor
open Go.RowKit
theorem zdj {R p:Nat} {c:Int} {s:ByteArray} {w:World} (h:AtY w R s p c) (hs:s.size<=50000) (hp:c=0->p<=s.size) :
  Calls Tryz.prog 35 #[.pointer (some ⟨R,0,none⟩)] w fun e w'=>∃ (b:Bool) (q:Nat),GivesY R s (.bool b) q c w e w'/\((c=0/\zad (rd s) p=q/\p<=q/\q<=s.size)\/(c≠0/\q=p)):=by
 by_cases hc:c=0
 ·subst hc
  refine (zfd h hs (hp rfl)).mono ?_
  rintro e w' ⟨q,hsk,h1,h2,hg⟩
  exact ⟨_,q,hg,.inl ⟨rfl,hsk.eq,h1,h2⟩⟩
 ·refine (zfl h hc hs).mono ?_
  intro e w' hg
  exact ⟨_,p,hg,.inr ⟨hc,rfl⟩⟩
theorem zfe {R p:Nat} {c:Int} {s:ByteArray} {w:World} (h:AtY w R s p c) (x:Int) (hx:x≠0) :
  Calls Tryz.prog 20 #[.pointer (some ⟨R,0,none⟩),.int .i64 x] w fun e w'=>∃ c':Int,GivesY R s (.tuple #[]) p c' w e w'/\c'≠0/\((c=0/\c'=x)\/(c≠0/\c'=c)):=by
 by_cases hc:c=0
 ·subst hc
  refine (zba h x).mono ?_
  intro e w' hg
  exact ⟨x,hg,hx,.inl ⟨rfl,rfl⟩⟩
 ·refine (zd8 h hc x).mono ?_
  intro e w' hg
  exact ⟨c,hg,hc,.inr ⟨hc,rfl⟩⟩
theorem zj9 {R p:Nat} {c0:Int} {s:ByteArray} {w:World} (h:AtY w R s p c0) (hs:s.size<=50000) (hp:c0=0->p<=s.size) (hp2:p<=54000) :
  Calls Tryz.prog 36 #[.pointer (some ⟨R,0,none⟩),.int .i64 0] w fun e w'=>∃ (x:XV) (t:Tree) (q:Nat) (c:Int),TreeAt w' (fun b=>w.heap.size<=b) x t/\GivesY R s x.val q c w e w'/\((c0=0/\OutY true s 0 .alts p t q c)\/(c0≠0/\c=c0/\q<=p+1)):=by
 by_cases hc:c0=0
 ·subst hc
  refine (zx8 (s.size-p) (d:=0) h hs (hp rfl) (by omega) (Nat.le_refl _)).mono ?_
  rintro e w' ⟨x,t,q,c,ht,hg,ho⟩
  exact ⟨x,t,q,c,ht,hg,.inl ⟨rfl,ho⟩⟩
 ·refine (zp7 (d:=0) h hc hs hp2 (by omega)).mono ?_
  rintro e w' ⟨x,t,q,ht,hq,hg⟩
  exact ⟨x,t,q,c0,ht,hg,.inr ⟨hc,rfl,hq⟩⟩
def zdk (s:ByteArray) (p:Nat) (c:Int):Prop:=(isAl (rd s p)=false/\c=20)\/(isAl (rd s p)=true/\RuleAt (rd s) p (.err c))
def zex (s:ByteArray) (p:Nat) (r:Rule) (q:Nat) (c:Int):Prop :=
 (c=0/\p<q/\q<=s.size/\isAl (rd s p)=true/\RuleAt (rd s) p (.ok r q))\/(c≠0/\q<=200000/\zdk s p c)
def RuleY (R:Nat) (s:ByteArray) (p:Nat) (w:World) (e:Ending) (w':World):Prop :=
 ∃ (y:LV) (r:Rule) (q:Nat) (c:Int),zej w' (fun b=>w.heap.size<=b) y r/\GivesY R s y.val q c w e w'/\zex s p r q c
theorem qci {s:ByteArray} {p q:Nat} {x:List Int} (hp:p<=s.size) (ha:isAl (rd s p)=true) (h:zcc (rd s) p=.ok x q):p<q:=by
 have h1:=(zem hp h).1
 have hq:q=zbp isNm (rd s) p:=by
  unfold zcc at h
  split at h
  ·cases h
  ·cases h;rfl
 obtain ⟨hr,_⟩:=zg0 (P:=isNm) (by decide) hp
 by_cases g:p=q
 ·have h2:=hr.stop
  rw [<- hq,<- g] at h2
  unfold isNm at h2
  rw [ha] at h2
  simp at h2
 ·omega
theorem zx9 {R p:Nat} {s:ByteArray} {w:World} (h:AtY w R s p 0) (hs:s.size<=50000) (hp:p<=s.size) :
  Calls Tryz.prog 34 #[.pointer (some ⟨R,0,none⟩)] w fun e w'=>∃ (x:List Int) (q:Nat) (c:Int),GivesY R s (.string (za3 x)) q c w e w'/\q<=s.size /\
   ((c=0/\p<q/\isAl (rd s p)=true/\zcc (rd s) p=.ok x q)\/(c≠0/\zdk s p c)):=by
 refine (zp3 h hs hp).mono ?_
 rintro e w' (⟨h1,h2⟩ | ⟨h1,x,q,h2,h3⟩ | ⟨h1,h2,x,q,h3,h4⟩)
 ·exact ⟨[],p,20,h2,hp,.inr ⟨by omega,.inl ⟨h1,rfl⟩⟩⟩
 ·exact ⟨x,q,0,h3,(zem hp h2).2,.inl ⟨rfl,qci hp h1 h2,h1,h2⟩⟩
 ·exact ⟨x,q,2,h4,h3,.inr ⟨by omega,.inr ⟨h1,.name h2⟩⟩⟩
theorem zhm (s:ByteArray) (p:Nat) (hp:p<=60000) (hs:s.size<=50000):-1<=zd1 (rd s) p/\zd1 (rd s) p<=60000:=by
 cases h:zas (rd s) p with
 | none=>rw [zd9 h];omega
 | some e =>
  rw [zcb h]
  by_cases g:p<=s.size
  ·have:=zda g h
   omega
  ·have h0:rd s p=-1:=zbz (by omega)
   unfold zas zbm at h
   rw [h0] at h
   simp [h0] at h
   omega
def zcp (R:Nat) (s:ByteArray) (L:Nat) (w W:World) (cs:Array Value) (q:Nat) (c:Int):Prop:=zcn W w.heap.size zvr/\zcn W L cs/\AtY W R s q c/\w.grownBy W (some R)/\w.heap.size+1<=L
theorem zcp.grown {R:Nat} {s:ByteArray} {L:Nat} {w W W':World} {cs:Array Value} {q q':Nat} {c c':Int} (h:zcp R s L w W cs q c) (hg:W.grownBy W' (some R)) (ha:AtY W' R s q' c') (hR:R<w.heap.size):zcp R s L w W' cs q' c' :=
 ⟨h.1.grown hg (by omega),h.2.1.grown hg (by have:=h.2.2.2.2;omega),ha,h.2.2.2.1.trans hg,h.2.2.2.2⟩
theorem zcp.below {R:Nat} {s:ByteArray} {L:Nat} {w W W':World} {cs:Array Value} {q:Nat} {c:Int} (h:zcp R s L w W cs q c) (hb:Below W.heap.size W W'):zcp R s L w W' cs q c :=
 ⟨h.1.under hb,h.2.1.under hb,h.2.2.1.below hb,za4 h.2.2.2.1 hb,h.2.2.2.2⟩
theorem zcp.put {R:Nat} {s:ByteArray} {L:Nat} {w W:World} {cs:Array Value} {q q':Nat} {c:Int} (h:zcp R s L w W cs q c) (hR:R<w.heap.size) {x:Int} (hx:x=q'):zcp R s L w (W.setCell ⟨R,1,none⟩ (.int .i64 x)) cs q' c :=
 h.grown (zah (zak W (some R)) 1 (.int .i64 x)) (h.2.2.1.put hx) hR
theorem zcp.set {R:Nat} {s:ByteArray} {L:Nat} {w W:World} {cs:Array Value} {q:Nat} {c:Int} (h:zcp R s L w W cs q c) (hR:R<w.heap.size) (j:Nat) (v:Value):zcp R s L w (W.setCell ⟨L,j,none⟩ v) (cs.setIfInBounds j v) q c :=
 ⟨h.1.other _ (by have:=h.2.2.2.2;omega),h.2.1.set _,h.2.2.1.set_new (by have:=h.2.2.2.2;omega) _ _,zcz h.2.2.2.1 (by have:=h.2.2.2.2;omega) _ _,h.2.2.2.2⟩
theorem zcp.row {R:Nat} {s:ByteArray} {L:Nat} {w W:World} {cs:Array Value} {q:Nat} {c:Int} (h:zcp R s L w W cs q c) (hR:R<w.heap.size) (cs':Array Value) (hs:cs'.size=8):zcp R s L w (W.setRow L cs') cs' q c :=
 ⟨h.1.orow _ (by have:=h.2.2.2.2;omega),h.2.1.row _ hs,h.2.2.1.set_row (by have:=h.2.2.2.2;omega) _,zae h.2.2.2.1 (by have:=h.2.2.2.2;omega) _,h.2.2.2.2⟩
theorem zeu {R:Nat} {s:ByteArray} {L:Nat} {w W:World} {x:List Int} {m:Bool} {X:XV} {t:Tree} {p q:Nat} {c:Int} (h:zcp R s L w W (LV.arr ⟨za3 x,m,X⟩) q c) (hR:R<w.heap.size) (ht:TreeAt W (fun b=>w.heap.size+1<=b) X t) (ho:zex s p ⟨x,m,t⟩ q c) :
  RuleY R s p w (.returned (LV.val ⟨za3 x,m,X⟩)) (W.setRow w.heap.size (LV.arr ⟨za3 x,m,X⟩)) :=
 ⟨_,⟨x,m,t⟩,q,c,⟨rfl,rfl,(ht.set_row (fun b hb=>by omega) _).weak (fun b hb _=>by omega)⟩,⟨rfl,h.2.2.1.set_row (by omega) _,zae h.2.2.2.1 (Nat.le_refl _) _⟩,ho⟩
theorem zfo (x:List Int) (m:Bool):((LV.arr ⟨za3 x,false,⟨0,⟨#[]⟩,.slice none 0 0,0,0,.slice none 0 0⟩⟩).setIfInBounds 1 (.bool m)).toList.take 2=[.string (za3 x),.bool m]:=rfl
def qdu (s:ByteArray) (p:Nat) (x:List Int) (m:Bool) (q3:Nat) (c2:Int):Prop :=
 (c2=0->∀ c,Ans (rd s) .alts 0 (zad (rd s) q3) (.err c)->zdk s p c)/\(c2≠0->zdk s p c2) /\
 (c2=0->∀ t q',Ans (rd s) .alts 0 (zad (rd s) q3) (.ok t q')->zas (rd s) q'=none->zdk s p 20) /\
 (c2=0->∀ t q' e,Ans (rd s) .alts 0 (zad (rd s) q3) (.ok t q')->zas (rd s) q'=some e->p<q3/\isAl (rd s p)=true/\RuleAt (rd s) p (.ok ⟨x,m,t⟩ e))
theorem zne {s:ByteArray} {p q1 q2 q3:Nat} {x:List Int} {m:Bool} {c1 c2:Int} (hno:(c1=0/\p<q1/\isAl (rd s p)=true/\zcc (rd s) p=.ok x q1)\/(c1≠0/\zdk s p c1))
  (hsk:(c1=0/\zad (rd s) q1=q2/\q1<=q2/\q2<=s.size)\/(c1≠0/\q2=q1)) (h61:(rd s q2=61/\c2=c1)\/(rd s q2≠61/\c2≠0/\((c1=0/\c2=20)\/(c1≠0/\c2=c1))))
  (hm:(m=true/\rd s (q2+1)=47/\q3=q2+2)\/(m=false/\rd s (q2+1)≠47/\q3=q2+1)):qdu s p x m q3 c2/\(c2=0->q3<=s.size):=by
 have key:c2=0->c1=0/\rd s (zad (rd s) q1)=61/\q3=eqAt (rd s) q1/\m=decide (rd s (zad (rd s) q1+1)=47)/\p<q3/\isAl (rd s p)=true/\zcc (rd s) p=.ok x q1/\q3<=s.size:=by
  intro g
  rcases h61 with ⟨a1,a2⟩ | ⟨_,a2,_⟩
  ·have g1:c1=0:=by rw [<- a2];exact g
   rcases hno with ⟨_,b1,b2,b3⟩ | ⟨b1,_⟩
   ·rcases hsk with ⟨_,d1,d2,d3⟩ | ⟨d1,_⟩
    ·have hlt:=zbu (by omega) a1
     rcases hm with ⟨rfl,e1,rfl⟩ | ⟨rfl,e1,rfl⟩
     ·have hlt2:=zbu (by omega) e1
      refine ⟨g1,by rw [d1];exact a1,?_,?_,by omega,b2,b3,by omega⟩
      ·unfold eqAt;rw [d1,if_pos e1]
      ·rw [d1];exact (decide_eq_true e1).symm
     ·refine ⟨g1,by rw [d1];exact a1,?_,?_,by omega,b2,b3,by omega⟩
      ·unfold eqAt;rw [d1,if_neg e1]
      ·rw [d1];exact (decide_eq_false e1).symm
    ·exact absurd g1 d1
   ·exact absurd g1 b1
  ·exact absurd g a2
 refine ⟨⟨fun g c ha=>?_,fun g=>?_,fun g t q' ha hl=>?_,fun g t q' e ha hl=>?_⟩,fun g=>(key g).2.2.2.2.2.2.2⟩
 ·obtain ⟨_,a1,a2,a3,a4,a5,a6,_⟩:=key g
  rw [a2] at ha
  exact .inr ⟨a5,.err a6 a1 ha⟩
 ·rcases hno with ⟨b0,b1,b2,b3⟩ | ⟨b1,b2⟩
  ·rcases h61 with ⟨a1,a2⟩ | ⟨a1,a2,⟨_,a3⟩ | ⟨a3,_⟩⟩
   ·exact absurd (a2.trans b0) g
   ·rw [a3]
    rcases hsk with ⟨_,d1,_⟩ | ⟨d1,_⟩
    ·exact .inr ⟨b2,.noEq b3 (by rw [d1];exact a1)⟩
    ·exact absurd b0 d1
   ·exact absurd b0 a3
  ·rcases h61 with ⟨a1,a2⟩ | ⟨a1,a2,⟨a3,_⟩ | ⟨_,a3⟩⟩
   ·rw [a2];exact b2
   ·exact absurd a3 b1
   ·rw [a3];exact b2
 ·obtain ⟨_,a1,a2,a3,a4,a5,a6,_⟩:=key g
  rw [a2] at ha
  exact .inr ⟨a5,.noEnd a6 a1 ha hl⟩
 ·obtain ⟨_,a1,a2,a3,a4,a5,a6,_⟩:=key g
  rw [a2] at ha
  rw [a3]
  exact ⟨a4,a5,.ok a6 a1 ha hl⟩
theorem zxa {R p:Nat} {s:ByteArray} {w:World} (h:AtY w R s p 0) (hs:s.size<=50000) (hp:p<=s.size) :
  Calls Tryz.prog 19 #[.pointer (some ⟨R,0,none⟩)] w (RuleY R s p w):=by
 have hR:=h.lt
 have HL0:=hh9 (zh8 w)
 have HA:=hh9 (h.alloc (.cells #[.string ⟨#[]⟩,.bool false,.int .i64 0,.string ⟨#[]⟩,.slice none 0 0,.int .i64 0,.int .i64 0,.slice none 0 0] 37))
 have HG:=hh9 (World.grownBy_alloc w (.cells #[.string ⟨#[]⟩,.bool false,.int .i64 0,.string ⟨#[]⟩,.slice none 0 0,.int .i64 0,.int .i64 0,.slice none 0 0] 37) (some R))
 clear h
 go_enter Tryz.func19,Tryz.ntmps19
 go_wp2_with fail
 refine (zx9 HA.out hs hp).mono ?_
 rintro e w1 ⟨x,q1,c1,⟨rfl,ha,hg⟩,hq1,hno⟩
 have HNO:=hh9 hno
 have hz1:w.heap.size+1<=w1.heap.size:=by have:=hg.size;simp at this;omega
 obtain ⟨L,hL⟩:∃ L,w1.heap.size=L:=⟨_,rfl⟩
 have HLL:=hh9 hL
 obtain ⟨W1,hW1⟩:∃ W1,W1=(w1.alloc (.cells #[.string ⟨#[]⟩,.bool false,.int .i64 0,.string ⟨#[]⟩,.slice none 0 0,.int .i64 0,.int .i64 0,.slice none 0 0] 37)).setRow L (LV.arr ⟨za3 x,false,⟨0,⟨#[]⟩,.slice none 0 0,0,0,.slice none 0 0⟩⟩):=⟨_,rfl⟩
 have HI1:Hid (zcp R s L w W1 (LV.arr ⟨za3 x,false,⟨0,⟨#[]⟩,.slice none 0 0,0,0,.slice none 0 0⟩⟩) q1 c1):=by
  rw [hW1,<- hL]
  exact ⟨(zln (HL0.out.grown hg (by omega)) _).orow _ (by omega),(zh8 w1).row _ rfl,(ha.alloc _).set_row (by omega) _,zae (zao (HG.out.trans hg) _) (by omega) _,by omega⟩
 have HW1:=hh9 hW1
 clear ha hg hno hL hW1 HA HG HL0
 go_wp2_with (refine zck rfl _ _ rfl w1.heap.size ⟨za3 x,false,⟨0,⟨#[]⟩,.slice none 0 0,0,0,.slice none 0 0⟩⟩ _ rfl rfl (zh8 w1) rfl rfl ?_)
 rw [HLL.out,<- HW1.out]
 clear HW1 HLL hz1
 refine (zdj HI1.out.2.2.1 hs (fun _=>hq1)).mono ?_
 rintro e w2 ⟨b2,q2,⟨rfl,ha,hg⟩,hsk⟩
 have HI2:=hh9 (HI1.out.grown hg ha hR)
 have hq2:q2<=s.size:=by rcases hsk with g | g<;>omega
 have HSK:=hh9 hsk
 clear ha hg hsk HI1
 by_cases h61:rd s q2=61
 ·have H61b:=hh9 h61
  obtain ⟨c2,hc2⟩:∃ c2,c2=c1:=⟨_,rfl⟩
  have H61:Hid ((rd s q2=61/\c2=c1)\/(rd s q2≠61/\c2≠0/\((c1=0/\c2=20)\/(c1≠0/\c2=c1)))):=.inl ⟨h61,hc2⟩
  have HC:=hh9 hc2
  clear h61 hc2
  go_wp2_with fail
  refine (yat0 HI2.out.2.2.1 hs (by omega) _ H61b.out).mono ?_
  rintro e w3 ⟨rfl,hb⟩
  have HI3:=hh9 (HI2.out.below hb)
  rw [<- HC.out] at HI3
  clear hb HI2 HC H61b
  obtain ⟨d0,d1,d2,y0,y1,y2⟩:=HI3.out.2.2.1.cells
  have HI5:=hh9 (HI3.out.put hR (x:=(q2:Int)+1) (q':=q2+1) (by omega))
  obtain ⟨W5,hW5⟩:∃ W5,W5=w3.setCell ⟨R,1,none⟩ (.int .i64 ((q2:Int)+1)):=⟨_,rfl⟩
  rw [<- hW5] at HI5
  have HW5:=hh9 hW5
  clear hW5
  obtain ⟨p2,hp2⟩:∃ p2,q2+1=p2:=⟨_,rfl⟩
  rw [hp2] at HI5
  have HP2:=hh9 hp2
  have hp2a:p2<=q2+1/\q2+1<=p2:=by omega
  clear hp2
  by_cases h47:rd s p2=47
  ·have H47:=hh9 h47
   obtain ⟨q3,hq3⟩:∃ q3,p2+1=q3:=⟨_,rfl⟩
   have hq3b:q3<=51000:=by omega
   have hst:=zne (m:=true) (q3:=q3) HNO.out HSK.out H61.out (.inl ⟨rfl,by rw [HP2.out];exact h47,by omega⟩)
   have HRE:=hh9 hst.1
   have HQ3:=hh9 hst.2
   have hq3c:(p2:Int)+1=(q3:Int):=by omega
   clear h47 hst hq3
   go_wp2_with fail
   rw [<- HW5.out]
   refine (yat0 HI5.out.2.2.1 hs (by omega) _ H47.out).mono ?_
   rintro e w6 ⟨rfl,hb⟩
   have HI6:=hh9 (HI5.out.below hb)
   clear hb HW5 d0 d1 d2 y0 y1 y2
   obtain ⟨k1,l1⟩:=HI6.out.2.1.cell 1 _ rfl
   obtain ⟨d0,d1,d2,y0,y1,y2⟩:=(HI6.out.set hR 1 (.bool true)).2.2.1.cells
   obtain ⟨k2,l2⟩:=(HI6.out.set hR 1 (.bool true)).2.1.cell 1 _ rfl
   obtain ⟨W,hW⟩:∃ W,W=(w6.setCell ⟨L,1,none⟩ (.bool true)).setCell ⟨R,1,none⟩ (.int .i64 (q3:Int)):=⟨_,rfl⟩
   have HI:Hid (zcp R s L w W ((LV.arr ⟨za3 x,false,⟨0,⟨#[]⟩,.slice none 0 0,0,0,.slice none 0 0⟩⟩).setIfInBounds 1 (.bool true)) q3 c2):=by rw [hW];exact (HI6.out.set hR 1 (.bool true)).put hR rfl
   have HW:=hh9 hW
   clear hW
   go_wp2_with fail
   rw [<- HW.out]
   clear HW k1 l1 k2 l2 d0 d1 d2 y0 y1 y2 HI6 hq3c
   go_wp2_with fail
   refine (zdj HI.out.2.2.1 hs HQ3.out).mono ?_
   rintro e w7 ⟨b7,q4,⟨rfl,ha,hg⟩,hsk4⟩
   have HI7:=hh9 (HI.out.grown hg ha hR)
   have hq4:q4<=51000:=by rcases hsk4 with g | g<;>omega
   have HQ4:Hid (c2=0->q4<=s.size):=fun g=>by rcases hsk4 with g2 | g2<;>omega
   have HSK4:=hh9 hsk4
   clear ha hg hsk4 HI
   go_wp2_with fail
   refine (zj9 HI7.out.2.2.1 hs HQ4.out (by omega)).mono ?_
   rintro e w8 ⟨X,t,q5,c5,ht,⟨rfl,ha,hg⟩,hout⟩
   have H2:=hh9 (zaa ht)
   have H5:=hh9 (zab ht)
   have hw7:w.heap.size+1<=w7.heap.size:=by have:=HI7.out.2.1.lt;have:=HI7.out.2.2.2.2;omega
   have hL7:=HI7.out.2.1.lt
   have HI8:=hh9 (HI7.out.grown hg ha hR)
   have HQ5:Hid (c5=0->q5<=s.size):=fun g=>by
    rcases hout with ⟨_,⟨_,_,g2,_⟩ | ⟨g2,_⟩⟩ | ⟨g2,g3,_⟩
    ·exact g2
    ·exact absurd g g2
    ·exact absurd (g3.symm.trans g) g2
   have hq5:q5<=52000:=by
    rcases hout with ⟨_,⟨_,_,g2,_⟩ | ⟨_,g2,_⟩⟩ | ⟨_,_,g2⟩<;>omega
   have HERR:Hid (c5≠0->zdk s p c5):=fun g=>by
    rcases hout with ⟨g1,⟨g2,_⟩ | ⟨_,_,g3⟩⟩ | ⟨g2,g3,_⟩
    ·exact absurd g2 g
    ·exact HRE.out.1 g1 _ (HSK4.out.elim (fun h3=>by rw [h3.2.1];exact g3) (fun h3=>absurd g1 h3.1))
    ·rw [g3];exact HRE.out.2.1 g2
   have hok:c5=0->c2=0/\Ans (rd s) .alts 0 (zad (rd s) q3) (.ok t (zad (rd s) q5))/\q3<=q5:=fun g=>by
    rcases hout with ⟨g1,⟨_,g2,_,g3⟩ | ⟨g2,_⟩⟩ | ⟨g2,g3,_⟩
    ·rcases HSK4.out with ⟨_,h3,h4,_⟩ | ⟨h3,_⟩
     ·exact ⟨g1,by rw [h3];exact g3,by omega⟩
     ·exact absurd g1 h3
    ·exact absurd g g2
    ·exact absurd (g3.symm.trans g) g2
   have HNOEND:Hid (c5=0->zas (rd s) (zad (rd s) q5)=none->zdk s p 20):=fun g h=>by
    obtain ⟨a1,a2,_⟩:=hok g
    exact HRE.out.2.2.1 a1 t _ a2 h
   have HOK:Hid (c5=0->∀ e,zas (rd s) (zad (rd s) q5)=some e->p<q5/\isAl (rd s p)=true/\RuleAt (rd s) p (.ok ⟨x,true,t⟩ e)):=fun g e h=>by
    obtain ⟨a1,a2,a3⟩:=hok g
    have a4:=HRE.out.2.2.2 a1 t _ e a2 h
    exact ⟨by have:=a4.1;omega,a4.2⟩
   have HT:Hid (TreeAt (w8.setRow L #[.string (za3 x),.bool true,.int .i64 X.kind,.string X.text,X.ns,.int .i64 X.lo,.int .i64 X.hi,X.ks]) (fun b=>w.heap.size+1<=b/\True) X t):=by
    have h1:=ht.weak (P':=fun b=>w.heap.size+1<=b/\b≠L) (fun b hP _=>⟨by omega,by omega⟩)
    exact (h1.set_row (fun b hP=>hP.2) _).weak (fun b hP _=>⟨hP.1,trivial⟩)
   have HL8:=hh9 HI8.out.2.1
   have HI:Hid (zcp R s L w (w8.setRow L #[.string (za3 x),.bool true,.int .i64 X.kind,.string X.text,X.ns,.int .i64 X.lo,.int .i64 X.hi,X.ks]) (LV.arr ⟨za3 x,true,X⟩) q5 c5):=HI8.out.row hR _ rfl
   clear ht ha hg hout hok HI7 HI8 HRE HSK4 HQ4 HQ3
   go_wp2_with (refine zef rfl _ _ rfl L X _ _ _ rfl rfl HL8.out (zfo x true) H2.out H5.out ?_)
   obtain ⟨w8b,hw8⟩:∃ y,y=w8.setRow L #[.string (za3 x),.bool true,.int .i64 X.kind,.string X.text,X.ns,.int .i64 X.lo,.int .i64 X.hi,X.ks]:=⟨_,rfl⟩
   rw [<- hw8] at HT HI ⊢
   clear hw8 HL8
   go_wp2_with fail
   refine (zdj HI.out.2.2.1 hs HQ5.out).mono ?_
   rintro e w9 ⟨b9,q6,⟨rfl,ha,hg⟩,hsk6⟩
   have HI9:=hh9 (HI.out.grown hg ha hR)
   have HT9:=hh9 (HT.out.kept (P':=fun b=>w.heap.size+1<=b) (fun b hP hl=>⟨hg.block b hl (fun e=>by have:=Option.some.inj e;omega),hP.1⟩) hg.size)
   have hq6:q6<=52000:=by rcases hsk6 with g | g<;>omega
   have HSK6:=hh9 hsk6
   clear ha hg hsk6 HI HT
   go_wp2_with fail
   refine (zd7 HI9.out.2.2.1 hs (by omega)).mono ?_
   rintro e w10 ⟨rfl,hb⟩
   have HI10:=hh9 (HI9.out.below hb)
   have HT10:=hh9 (HT9.out.under hb)
   clear hb HI9 HT9
   obtain ⟨hn1,hn2⟩:=zhm s q6 (by omega) hs
   obtain ⟨N,hN⟩:∃ N,zd1 (rd s) q6=N:=⟨_,rfl⟩
   rw [hN] at hn1 hn2 ⊢
   have HN:=hh9 hN
   clear hN
   by_cases hneg:N<0
   ·have hmx:max N 0=0:=by omega
    go_wp2_with fail
    refine (zfe HI10.out.2.2.1 20 (by omega)).mono ?_
    rintro e w11 ⟨c7,⟨rfl,ha,hg⟩,hc7,hcc⟩
    have HI11:=hh9 (HI10.out.grown hg ha hR)
    have HT11:=hh9 (HT10.out.kept (P':=fun b=>w.heap.size+1<=b) (fun b hP hl=>⟨hg.block b hl (fun e=>by have:=Option.some.inj e;omega),hP⟩) hg.size)
    have HFIN:Hid (zex s p ⟨x,true,t⟩ q6 c7):=by
     refine .inr ⟨hc7,by omega,?_⟩
     rcases hcc with ⟨g1,rfl⟩ | ⟨g1,rfl⟩
     ·exact HNOEND.out g1 (by
       have h1:=HSK6.out
       have h2:=HN.out
       rcases h1 with ⟨_,h3,_⟩ | ⟨h3,_⟩
       ·rw [h3]
        cases h4:zas (rd s) q6 with
        | none=>rfl
        | some e =>
         rw [zcb h4] at h2
         have:=zda (s:=s) (p:=q6) (by rcases HSK6.out with g | g<;>omega) h4
         omega
       ·exact absurd g1 h3)
     ·exact HERR.out g1
    clear ha hg hcc HI10 HT10
    obtain ⟨d0,d1,d2,y0,y1,y2⟩:=HI11.out.2.2.1.cells
    have HI12:=hh9 (HI11.out.put hR (x:=(q6:Int)) (q':=q6) rfl)
    have HT12:=hh9 (HT11.out.cell (R:=R) (k:=1) (v:=.int .i64 (q6:Int)) (fun b hb=>by omega))
    have HL12:=hh9 HI12.out.2.1
    have HR12:=hh9 HI12.out.1
    go_wp2_with (first
     | (refine zd5 rfl _ rfl L ⟨za3 x,true,X⟩ rfl HL12.out ?_)
     | (refine zck rfl _ _ rfl w.heap.size ⟨za3 x,true,X⟩ _ rfl rfl HR12.out H2.out H5.out ?_))
    exact bodyPost_ret_by (zds rfl _ _ w.heap.size ⟨za3 x,true,X⟩ _ rfl HR12.out) rfl (zeu HI12.out hR HT12.out HFIN.out)
   ·have hmx:max N 0=N:=by omega
    obtain ⟨q8,hq8⟩:∃ q8:Nat,(q6:Int)+N=(q8:Int):=⟨(q6+N.toNat),by omega⟩
    have HFIN:Hid (zex s p ⟨x,true,t⟩ q8 c5):=by
     by_cases g1:c5=0
     ·rcases HSK6.out with ⟨_,h3,h4,h5⟩ | ⟨h3,_⟩
      ·cases h6:zas (rd s) q6 with
       | none =>
        have h7:=HN.out
        rw [zd9 h6] at h7
        omega
       | some e =>
        have h7:=HN.out
        rw [zcb h6] at h7
        have h8:=zda (s:=s) (p:=q6) h5 h6
        have h9:e=q8:=by omega
        rw [g1]
        have h10:=HOK.out g1 e (by rw [h3];exact h6)
        rw [h9] at h10
        exact .inl ⟨rfl,by have:=h10.1;omega,by omega,h10.2⟩
      ·exact absurd g1 h3
     ·exact .inr ⟨g1,by omega,HERR.out g1⟩
    obtain ⟨d0,d1,d2,y0,y1,y2⟩:=HI10.out.2.2.1.cells
    have HI12:=hh9 (HI10.out.put hR (x:=(q8:Int)) (q':=q8) rfl)
    have HT12:=hh9 (HT10.out.cell (R:=R) (k:=1) (v:=.int .i64 (q8:Int)) (fun b hb=>by omega))
    have HL12:=hh9 HI12.out.2.1
    have HR12:=hh9 HI12.out.1
    clear HI10 HT10
    go_wp2_with (first
     | (refine zd5 rfl _ rfl L ⟨za3 x,true,X⟩ rfl HL12.out ?_)
     | (refine zck rfl _ _ rfl w.heap.size ⟨za3 x,true,X⟩ _ rfl rfl HR12.out H2.out H5.out ?_))
    exact bodyPost_ret_by (zds rfl _ _ w.heap.size ⟨za3 x,true,X⟩ _ rfl HR12.out) rfl (zeu HI12.out hR HT12.out HFIN.out)
  ·obtain ⟨Y,hY⟩:∃ y,rd s p2=y:=⟨_,rfl⟩
   have qy:(Y==47)=false:=by rw [<- hY];simpa using h47
   have HY:=hh9 hY
   obtain ⟨q3,hq3⟩:∃ q3,p2=q3:=⟨_,rfl⟩
   have hst:=zne (m:=false) (q3:=q3) HNO.out HSK.out H61.out (.inr ⟨rfl,by rw [HP2.out];exact h47,by omega⟩)
   have HRE:=hh9 hst.1
   have HQ3:=hh9 hst.2
   have HQ23:=hh9 hq3
   clear h47 hst hY hq3
   go_wp2_with fail
   rw [<- HW5.out]
   refine (yat0 HI5.out.2.2.1 hs (by omega) _ HY.out).mono ?_
   rintro e w6 ⟨rfl,hb⟩
   have HI6:=hh9 (HI5.out.below hb)
   clear hb HW5 d0 d1 d2 y0 y1 y2
   obtain ⟨k1,l1⟩:=HI6.out.2.1.cell 1 _ rfl
   obtain ⟨k2,l2⟩:=(HI6.out.set hR 1 (.bool false)).2.1.cell 1 _ rfl
   obtain ⟨W,hW⟩:∃ W,W=w6.setCell ⟨L,1,none⟩ (.bool false):=⟨_,rfl⟩
   have HI:Hid (zcp R s L w W ((LV.arr ⟨za3 x,false,⟨0,⟨#[]⟩,.slice none 0 0,0,0,.slice none 0 0⟩⟩).setIfInBounds 1 (.bool false)) q3 c2):=by rw [hW,<- HQ23.out];exact HI6.out.set hR 1 (.bool false)
   have HW:=hh9 hW
   have hq3b:q3<=51000:=by have:=HQ23.out;omega
   clear hW
   go_wp2_with fail
   rw [<- HW.out]
   clear HW k1 l1 k2 l2 HI6
   go_wp2_with fail
   refine (zdj HI.out.2.2.1 hs HQ3.out).mono ?_
   rintro e w7 ⟨b7,q4,⟨rfl,ha,hg⟩,hsk4⟩
   have HI7:=hh9 (HI.out.grown hg ha hR)
   have hq4:q4<=51000:=by rcases hsk4 with g | g<;>omega
   have HQ4:Hid (c2=0->q4<=s.size):=fun g=>by rcases hsk4 with g2 | g2<;>omega
   have HSK4:=hh9 hsk4
   clear ha hg hsk4 HI
   go_wp2_with fail
   refine (zj9 HI7.out.2.2.1 hs HQ4.out (by omega)).mono ?_
   rintro e w8 ⟨X,t,q5,c5,ht,⟨rfl,ha,hg⟩,hout⟩
   have H2:=hh9 (zaa ht)
   have H5:=hh9 (zab ht)
   have hw7:w.heap.size+1<=w7.heap.size:=by have:=HI7.out.2.1.lt;have:=HI7.out.2.2.2.2;omega
   have hL7:=HI7.out.2.1.lt
   have HI8:=hh9 (HI7.out.grown hg ha hR)
   have HQ5:Hid (c5=0->q5<=s.size):=fun g=>by
    rcases hout with ⟨_,⟨_,_,g2,_⟩ | ⟨g2,_⟩⟩ | ⟨g2,g3,_⟩
    ·exact g2
    ·exact absurd g g2
    ·exact absurd (g3.symm.trans g) g2
   have hq5:q5<=52000:=by
    rcases hout with ⟨_,⟨_,_,g2,_⟩ | ⟨_,g2,_⟩⟩ | ⟨_,_,g2⟩<;>omega
   have HERR:Hid (c5≠0->zdk s p c5):=fun g=>by
    rcases hout with ⟨g1,⟨g2,_⟩ | ⟨_,_,g3⟩⟩ | ⟨g2,g3,_⟩
    ·exact absurd g2 g
    ·exact HRE.out.1 g1 _ (HSK4.out.elim (fun h3=>by rw [h3.2.1];exact g3) (fun h3=>absurd g1 h3.1))
    ·rw [g3];exact HRE.out.2.1 g2
   have hok:c5=0->c2=0/\Ans (rd s) .alts 0 (zad (rd s) q3) (.ok t (zad (rd s) q5))/\q3<=q5:=fun g=>by
    rcases hout with ⟨g1,⟨_,g2,_,g3⟩ | ⟨g2,_⟩⟩ | ⟨g2,g3,_⟩
    ·rcases HSK4.out with ⟨_,h3,h4,_⟩ | ⟨h3,_⟩
     ·exact ⟨g1,by rw [h3];exact g3,by omega⟩
     ·exact absurd g1 h3
    ·exact absurd g g2
    ·exact absurd (g3.symm.trans g) g2
   have HNOEND:Hid (c5=0->zas (rd s) (zad (rd s) q5)=none->zdk s p 20):=fun g h=>by
    obtain ⟨a1,a2,_⟩:=hok g
    exact HRE.out.2.2.1 a1 t _ a2 h
   have HOK:Hid (c5=0->∀ e,zas (rd s) (zad (rd s) q5)=some e->p<q5/\isAl (rd s p)=true/\RuleAt (rd s) p (.ok ⟨x,false,t⟩ e)):=fun g e h=>by
    obtain ⟨a1,a2,a3⟩:=hok g
    have a4:=HRE.out.2.2.2 a1 t _ e a2 h
    exact ⟨by have:=a4.1;omega,a4.2⟩
   have HT:Hid (TreeAt (w8.setRow L #[.string (za3 x),.bool false,.int .i64 X.kind,.string X.text,X.ns,.int .i64 X.lo,.int .i64 X.hi,X.ks]) (fun b=>w.heap.size+1<=b/\True) X t):=by
    have h1:=ht.weak (P':=fun b=>w.heap.size+1<=b/\b≠L) (fun b hP _=>⟨by omega,by omega⟩)
    exact (h1.set_row (fun b hP=>hP.2) _).weak (fun b hP _=>⟨hP.1,trivial⟩)
   have HL8:=hh9 HI8.out.2.1
   have HI:Hid (zcp R s L w (w8.setRow L #[.string (za3 x),.bool false,.int .i64 X.kind,.string X.text,X.ns,.int .i64 X.lo,.int .i64 X.hi,X.ks]) (LV.arr ⟨za3 x,false,X⟩) q5 c5):=HI8.out.row hR _ rfl
   clear ht ha hg hout hok HI7 HI8 HRE HSK4 HQ4 HQ3
   go_wp2_with (refine zef rfl _ _ rfl L X _ _ _ rfl rfl HL8.out (zfo x false) H2.out H5.out ?_)
   obtain ⟨w8b,hw8⟩:∃ y,y=w8.setRow L #[.string (za3 x),.bool false,.int .i64 X.kind,.string X.text,X.ns,.int .i64 X.lo,.int .i64 X.hi,X.ks]:=⟨_,rfl⟩
   rw [<- hw8] at HT HI ⊢
   clear hw8 HL8
   go_wp2_with fail
   refine (zdj HI.out.2.2.1 hs HQ5.out).mono ?_
   rintro e w9 ⟨b9,q6,⟨rfl,ha,hg⟩,hsk6⟩
   have HI9:=hh9 (HI.out.grown hg ha hR)
   have HT9:=hh9 (HT.out.kept (P':=fun b=>w.heap.size+1<=b) (fun b hP hl=>⟨hg.block b hl (fun e=>by have:=Option.some.inj e;omega),hP.1⟩) hg.size)
   have hq6:q6<=52000:=by rcases hsk6 with g | g<;>omega
   have HSK6:=hh9 hsk6
   clear ha hg hsk6 HI HT
   go_wp2_with fail
   refine (zd7 HI9.out.2.2.1 hs (by omega)).mono ?_
   rintro e w10 ⟨rfl,hb⟩
   have HI10:=hh9 (HI9.out.below hb)
   have HT10:=hh9 (HT9.out.under hb)
   clear hb HI9 HT9
   obtain ⟨hn1,hn2⟩:=zhm s q6 (by omega) hs
   obtain ⟨N,hN⟩:∃ N,zd1 (rd s) q6=N:=⟨_,rfl⟩
   rw [hN] at hn1 hn2 ⊢
   have HN:=hh9 hN
   clear hN
   by_cases hneg:N<0
   ·have hmx:max N 0=0:=by omega
    go_wp2_with fail
    refine (zfe HI10.out.2.2.1 20 (by omega)).mono ?_
    rintro e w11 ⟨c7,⟨rfl,ha,hg⟩,hc7,hcc⟩
    have HI11:=hh9 (HI10.out.grown hg ha hR)
    have HT11:=hh9 (HT10.out.kept (P':=fun b=>w.heap.size+1<=b) (fun b hP hl=>⟨hg.block b hl (fun e=>by have:=Option.some.inj e;omega),hP⟩) hg.size)
    have HFIN:Hid (zex s p ⟨x,false,t⟩ q6 c7):=by
     refine .inr ⟨hc7,by omega,?_⟩
     rcases hcc with ⟨g1,rfl⟩ | ⟨g1,rfl⟩
     ·exact HNOEND.out g1 (by
       have h1:=HSK6.out
       have h2:=HN.out
       rcases h1 with ⟨_,h3,_⟩ | ⟨h3,_⟩
       ·rw [h3]
        cases h4:zas (rd s) q6 with
        | none=>rfl
        | some e =>
         rw [zcb h4] at h2
         have:=zda (s:=s) (p:=q6) (by rcases HSK6.out with g | g<;>omega) h4
         omega
       ·exact absurd g1 h3)
     ·exact HERR.out g1
    clear ha hg hcc HI10 HT10
    obtain ⟨d0,d1,d2,y0,y1,y2⟩:=HI11.out.2.2.1.cells
    have HI12:=hh9 (HI11.out.put hR (x:=(q6:Int)) (q':=q6) rfl)
    have HT12:=hh9 (HT11.out.cell (R:=R) (k:=1) (v:=.int .i64 (q6:Int)) (fun b hb=>by omega))
    have HL12:=hh9 HI12.out.2.1
    have HR12:=hh9 HI12.out.1
    go_wp2_with (first
     | (refine zd5 rfl _ rfl L ⟨za3 x,false,X⟩ rfl HL12.out ?_)
     | (refine zck rfl _ _ rfl w.heap.size ⟨za3 x,false,X⟩ _ rfl rfl HR12.out H2.out H5.out ?_))
    exact bodyPost_ret_by (zds rfl _ _ w.heap.size ⟨za3 x,false,X⟩ _ rfl HR12.out) rfl (zeu HI12.out hR HT12.out HFIN.out)
   ·have hmx:max N 0=N:=by omega
    obtain ⟨q8,hq8⟩:∃ q8:Nat,(q6:Int)+N=(q8:Int):=⟨(q6+N.toNat),by omega⟩
    have HFIN:Hid (zex s p ⟨x,false,t⟩ q8 c5):=by
     by_cases g1:c5=0
     ·rcases HSK6.out with ⟨_,h3,h4,h5⟩ | ⟨h3,_⟩
      ·cases h6:zas (rd s) q6 with
       | none =>
        have h7:=HN.out
        rw [zd9 h6] at h7
        omega
       | some e =>
        have h7:=HN.out
        rw [zcb h6] at h7
        have h8:=zda (s:=s) (p:=q6) h5 h6
        have h9:e=q8:=by omega
        rw [g1]
        have h10:=HOK.out g1 e (by rw [h3];exact h6)
        rw [h9] at h10
        exact .inl ⟨rfl,by have:=h10.1;omega,by omega,h10.2⟩
      ·exact absurd g1 h3
     ·exact .inr ⟨g1,by omega,HERR.out g1⟩
    obtain ⟨d0,d1,d2,y0,y1,y2⟩:=HI10.out.2.2.1.cells
    have HI12:=hh9 (HI10.out.put hR (x:=(q8:Int)) (q':=q8) rfl)
    have HT12:=hh9 (HT10.out.cell (R:=R) (k:=1) (v:=.int .i64 (q8:Int)) (fun b hb=>by omega))
    have HL12:=hh9 HI12.out.2.1
    have HR12:=hh9 HI12.out.1
    clear HI10 HT10
    go_wp2_with (first
     | (refine zd5 rfl _ rfl L ⟨za3 x,false,X⟩ rfl HL12.out ?_)
     | (refine zck rfl _ _ rfl w.heap.size ⟨za3 x,false,X⟩ _ rfl rfl HR12.out H2.out H5.out ?_))
    exact bodyPost_ret_by (zds rfl _ _ w.heap.size ⟨za3 x,false,X⟩ _ rfl HR12.out) rfl (zeu HI12.out hR HT12.out HFIN.out)
 ·obtain ⟨Z,hZ⟩:∃ z,rd s q2=z:=⟨_,rfl⟩
  have qz:(Z != 61)=true:=by rw [<- hZ];simpa using h61
  have HZ:=hh9 hZ
  have H61n:=hh9 h61
  clear hZ h61
  go_wp2_with fail
  refine (yat0 HI2.out.2.2.1 hs (by omega) _ HZ.out).mono ?_
  rintro e w3 ⟨rfl,hb⟩
  have HI3:=hh9 (HI2.out.below hb)
  clear hb HI2
  go_wp2_with fail
  refine (zfe HI3.out.2.2.1 20 (by omega)).mono ?_
  rintro e w4 ⟨c2,⟨rfl,ha,hg⟩,hc2,hcc⟩
  have HI4:=hh9 (HI3.out.grown hg ha hR)
  have H61:Hid ((rd s q2=61/\c2=c1)\/(rd s q2≠61/\c2≠0/\((c1=0/\c2=20)\/(c1≠0/\c2=c1)))):=.inr ⟨H61n.out,hc2,hcc⟩
  clear ha hg hcc hc2 HI3 qz
  obtain ⟨d0,d1,d2,y0,y1,y2⟩:=HI4.out.2.2.1.cells
  have HI5:=hh9 (HI4.out.put hR (x:=(q2:Int)+1) (q':=q2+1) (by omega))
  obtain ⟨W5,hW5⟩:∃ W5,W5=w4.setCell ⟨R,1,none⟩ (.int .i64 ((q2:Int)+1)):=⟨_,rfl⟩
  rw [<- hW5] at HI5
  have HW5:=hh9 hW5
  clear hW5
  obtain ⟨p2,hp2⟩:∃ p2,q2+1=p2:=⟨_,rfl⟩
  rw [hp2] at HI5
  have HP2:=hh9 hp2
  have hp2a:p2<=q2+1/\q2+1<=p2:=by omega
  clear hp2
  by_cases h47:rd s p2=47
  ·have H47:=hh9 h47
   obtain ⟨q3,hq3⟩:∃ q3,p2+1=q3:=⟨_,rfl⟩
   have hq3b:q3<=51000:=by omega
   have hst:=zne (m:=true) (q3:=q3) HNO.out HSK.out H61.out (.inl ⟨rfl,by rw [HP2.out];exact h47,by omega⟩)
   have HRE:=hh9 hst.1
   have HQ3:=hh9 hst.2
   have hq3c:(p2:Int)+1=(q3:Int):=by omega
   clear h47 hst hq3
   go_wp2_with fail
   rw [<- HW5.out]
   refine (yat0 HI5.out.2.2.1 hs (by omega) _ H47.out).mono ?_
   rintro e w6 ⟨rfl,hb⟩
   have HI6:=hh9 (HI5.out.below hb)
   clear hb HW5 d0 d1 d2 y0 y1 y2
   obtain ⟨k1,l1⟩:=HI6.out.2.1.cell 1 _ rfl
   obtain ⟨d0,d1,d2,y0,y1,y2⟩:=(HI6.out.set hR 1 (.bool true)).2.2.1.cells
   obtain ⟨k2,l2⟩:=(HI6.out.set hR 1 (.bool true)).2.1.cell 1 _ rfl
   obtain ⟨W,hW⟩:∃ W,W=(w6.setCell ⟨L,1,none⟩ (.bool true)).setCell ⟨R,1,none⟩ (.int .i64 (q3:Int)):=⟨_,rfl⟩
   have HI:Hid (zcp R s L w W ((LV.arr ⟨za3 x,false,⟨0,⟨#[]⟩,.slice none 0 0,0,0,.slice none 0 0⟩⟩).setIfInBounds 1 (.bool true)) q3 c2):=by rw [hW];exact (HI6.out.set hR 1 (.bool true)).put hR rfl
   have HW:=hh9 hW
   clear hW
   go_wp2_with fail
   rw [<- HW.out]
   clear HW k1 l1 k2 l2 d0 d1 d2 y0 y1 y2 HI6 hq3c
   go_wp2_with fail
   refine (zdj HI.out.2.2.1 hs HQ3.out).mono ?_
   rintro e w7 ⟨b7,q4,⟨rfl,ha,hg⟩,hsk4⟩
   have HI7:=hh9 (HI.out.grown hg ha hR)
   have hq4:q4<=51000:=by rcases hsk4 with g | g<;>omega
   have HQ4:Hid (c2=0->q4<=s.size):=fun g=>by rcases hsk4 with g2 | g2<;>omega
   have HSK4:=hh9 hsk4
   clear ha hg hsk4 HI
   go_wp2_with fail
   refine (zj9 HI7.out.2.2.1 hs HQ4.out (by omega)).mono ?_
   rintro e w8 ⟨X,t,q5,c5,ht,⟨rfl,ha,hg⟩,hout⟩
   have H2:=hh9 (zaa ht)
   have H5:=hh9 (zab ht)
   have hw7:w.heap.size+1<=w7.heap.size:=by have:=HI7.out.2.1.lt;have:=HI7.out.2.2.2.2;omega
   have hL7:=HI7.out.2.1.lt
   have HI8:=hh9 (HI7.out.grown hg ha hR)
   have HQ5:Hid (c5=0->q5<=s.size):=fun g=>by
    rcases hout with ⟨_,⟨_,_,g2,_⟩ | ⟨g2,_⟩⟩ | ⟨g2,g3,_⟩
    ·exact g2
    ·exact absurd g g2
    ·exact absurd (g3.symm.trans g) g2
   have hq5:q5<=52000:=by
    rcases hout with ⟨_,⟨_,_,g2,_⟩ | ⟨_,g2,_⟩⟩ | ⟨_,_,g2⟩<;>omega
   have HERR:Hid (c5≠0->zdk s p c5):=fun g=>by
    rcases hout with ⟨g1,⟨g2,_⟩ | ⟨_,_,g3⟩⟩ | ⟨g2,g3,_⟩
    ·exact absurd g2 g
    ·exact HRE.out.1 g1 _ (HSK4.out.elim (fun h3=>by rw [h3.2.1];exact g3) (fun h3=>absurd g1 h3.1))
    ·rw [g3];exact HRE.out.2.1 g2
   have hok:c5=0->c2=0/\Ans (rd s) .alts 0 (zad (rd s) q3) (.ok t (zad (rd s) q5))/\q3<=q5:=fun g=>by
    rcases hout with ⟨g1,⟨_,g2,_,g3⟩ | ⟨g2,_⟩⟩ | ⟨g2,g3,_⟩
    ·rcases HSK4.out with ⟨_,h3,h4,_⟩ | ⟨h3,_⟩
     ·exact ⟨g1,by rw [h3];exact g3,by omega⟩
     ·exact absurd g1 h3
    ·exact absurd g g2
    ·exact absurd (g3.symm.trans g) g2
   have HNOEND:Hid (c5=0->zas (rd s) (zad (rd s) q5)=none->zdk s p 20):=fun g h=>by
    obtain ⟨a1,a2,_⟩:=hok g
    exact HRE.out.2.2.1 a1 t _ a2 h
   have HOK:Hid (c5=0->∀ e,zas (rd s) (zad (rd s) q5)=some e->p<q5/\isAl (rd s p)=true/\RuleAt (rd s) p (.ok ⟨x,true,t⟩ e)):=fun g e h=>by
    obtain ⟨a1,a2,a3⟩:=hok g
    have a4:=HRE.out.2.2.2 a1 t _ e a2 h
    exact ⟨by have:=a4.1;omega,a4.2⟩
   have HT:Hid (TreeAt (w8.setRow L #[.string (za3 x),.bool true,.int .i64 X.kind,.string X.text,X.ns,.int .i64 X.lo,.int .i64 X.hi,X.ks]) (fun b=>w.heap.size+1<=b/\True) X t):=by
    have h1:=ht.weak (P':=fun b=>w.heap.size+1<=b/\b≠L) (fun b hP _=>⟨by omega,by omega⟩)
    exact (h1.set_row (fun b hP=>hP.2) _).weak (fun b hP _=>⟨hP.1,trivial⟩)
   have HL8:=hh9 HI8.out.2.1
   have HI:Hid (zcp R s L w (w8.setRow L #[.string (za3 x),.bool true,.int .i64 X.kind,.string X.text,X.ns,.int .i64 X.lo,.int .i64 X.hi,X.ks]) (LV.arr ⟨za3 x,true,X⟩) q5 c5):=HI8.out.row hR _ rfl
   clear ht ha hg hout hok HI7 HI8 HRE HSK4 HQ4 HQ3
   go_wp2_with (refine zef rfl _ _ rfl L X _ _ _ rfl rfl HL8.out (zfo x true) H2.out H5.out ?_)
   obtain ⟨w8b,hw8⟩:∃ y,y=w8.setRow L #[.string (za3 x),.bool true,.int .i64 X.kind,.string X.text,X.ns,.int .i64 X.lo,.int .i64 X.hi,X.ks]:=⟨_,rfl⟩
   rw [<- hw8] at HT HI ⊢
   clear hw8 HL8
   go_wp2_with fail
   refine (zdj HI.out.2.2.1 hs HQ5.out).mono ?_
   rintro e w9 ⟨b9,q6,⟨rfl,ha,hg⟩,hsk6⟩
   have HI9:=hh9 (HI.out.grown hg ha hR)
   have HT9:=hh9 (HT.out.kept (P':=fun b=>w.heap.size+1<=b) (fun b hP hl=>⟨hg.block b hl (fun e=>by have:=Option.some.inj e;omega),hP.1⟩) hg.size)
   have hq6:q6<=52000:=by rcases hsk6 with g | g<;>omega
   have HSK6:=hh9 hsk6
   clear ha hg hsk6 HI HT
   go_wp2_with fail
   refine (zd7 HI9.out.2.2.1 hs (by omega)).mono ?_
   rintro e w10 ⟨rfl,hb⟩
   have HI10:=hh9 (HI9.out.below hb)
   have HT10:=hh9 (HT9.out.under hb)
   clear hb HI9 HT9
   obtain ⟨hn1,hn2⟩:=zhm s q6 (by omega) hs
   obtain ⟨N,hN⟩:∃ N,zd1 (rd s) q6=N:=⟨_,rfl⟩
   rw [hN] at hn1 hn2 ⊢
   have HN:=hh9 hN
   clear hN
   by_cases hneg:N<0
   ·have hmx:max N 0=0:=by omega
    go_wp2_with fail
    refine (zfe HI10.out.2.2.1 20 (by omega)).mono ?_
    rintro e w11 ⟨c7,⟨rfl,ha,hg⟩,hc7,hcc⟩
    have HI11:=hh9 (HI10.out.grown hg ha hR)
    have HT11:=hh9 (HT10.out.kept (P':=fun b=>w.heap.size+1<=b) (fun b hP hl=>⟨hg.block b hl (fun e=>by have:=Option.some.inj e;omega),hP⟩) hg.size)
    have HFIN:Hid (zex s p ⟨x,true,t⟩ q6 c7):=by
     refine .inr ⟨hc7,by omega,?_⟩
     rcases hcc with ⟨g1,rfl⟩ | ⟨g1,rfl⟩
     ·exact HNOEND.out g1 (by
       have h1:=HSK6.out
       have h2:=HN.out
       rcases h1 with ⟨_,h3,_⟩ | ⟨h3,_⟩
       ·rw [h3]
        cases h4:zas (rd s) q6 with
        | none=>rfl
        | some e =>
         rw [zcb h4] at h2
         have:=zda (s:=s) (p:=q6) (by rcases HSK6.out with g | g<;>omega) h4
         omega
       ·exact absurd g1 h3)
     ·exact HERR.out g1
    clear ha hg hcc HI10 HT10
    obtain ⟨d0,d1,d2,y0,y1,y2⟩:=HI11.out.2.2.1.cells
    have HI12:=hh9 (HI11.out.put hR (x:=(q6:Int)) (q':=q6) rfl)
    have HT12:=hh9 (HT11.out.cell (R:=R) (k:=1) (v:=.int .i64 (q6:Int)) (fun b hb=>by omega))
    have HL12:=hh9 HI12.out.2.1
    have HR12:=hh9 HI12.out.1
    go_wp2_with (first
     | (refine zd5 rfl _ rfl L ⟨za3 x,true,X⟩ rfl HL12.out ?_)
     | (refine zck rfl _ _ rfl w.heap.size ⟨za3 x,true,X⟩ _ rfl rfl HR12.out H2.out H5.out ?_))
    exact bodyPost_ret_by (zds rfl _ _ w.heap.size ⟨za3 x,true,X⟩ _ rfl HR12.out) rfl (zeu HI12.out hR HT12.out HFIN.out)
   ·have hmx:max N 0=N:=by omega
    obtain ⟨q8,hq8⟩:∃ q8:Nat,(q6:Int)+N=(q8:Int):=⟨(q6+N.toNat),by omega⟩
    have HFIN:Hid (zex s p ⟨x,true,t⟩ q8 c5):=by
     by_cases g1:c5=0
     ·rcases HSK6.out with ⟨_,h3,h4,h5⟩ | ⟨h3,_⟩
      ·cases h6:zas (rd s) q6 with
       | none =>
        have h7:=HN.out
        rw [zd9 h6] at h7
        omega
       | some e =>
        have h7:=HN.out
        rw [zcb h6] at h7
        have h8:=zda (s:=s) (p:=q6) h5 h6
        have h9:e=q8:=by omega
        rw [g1]
        have h10:=HOK.out g1 e (by rw [h3];exact h6)
        rw [h9] at h10
        exact .inl ⟨rfl,by have:=h10.1;omega,by omega,h10.2⟩
      ·exact absurd g1 h3
     ·exact .inr ⟨g1,by omega,HERR.out g1⟩
    obtain ⟨d0,d1,d2,y0,y1,y2⟩:=HI10.out.2.2.1.cells
    have HI12:=hh9 (HI10.out.put hR (x:=(q8:Int)) (q':=q8) rfl)
    have HT12:=hh9 (HT10.out.cell (R:=R) (k:=1) (v:=.int .i64 (q8:Int)) (fun b hb=>by omega))
    have HL12:=hh9 HI12.out.2.1
    have HR12:=hh9 HI12.out.1
    clear HI10 HT10
    go_wp2_with (first
     | (refine zd5 rfl _ rfl L ⟨za3 x,true,X⟩ rfl HL12.out ?_)
     | (refine zck rfl _ _ rfl w.heap.size ⟨za3 x,true,X⟩ _ rfl rfl HR12.out H2.out H5.out ?_))
    exact bodyPost_ret_by (zds rfl _ _ w.heap.size ⟨za3 x,true,X⟩ _ rfl HR12.out) rfl (zeu HI12.out hR HT12.out HFIN.out)
  ·obtain ⟨Y,hY⟩:∃ y,rd s p2=y:=⟨_,rfl⟩
   have qy:(Y==47)=false:=by rw [<- hY];simpa using h47
   have HY:=hh9 hY
   obtain ⟨q3,hq3⟩:∃ q3,p2=q3:=⟨_,rfl⟩
   have hst:=zne (m:=false) (q3:=q3) HNO.out HSK.out H61.out (.inr ⟨rfl,by rw [HP2.out];exact h47,by omega⟩)
   have HRE:=hh9 hst.1
   have HQ3:=hh9 hst.2
   have HQ23:=hh9 hq3
   clear h47 hst hY hq3
   go_wp2_with fail
   rw [<- HW5.out]
   refine (yat0 HI5.out.2.2.1 hs (by omega) _ HY.out).mono ?_
   rintro e w6 ⟨rfl,hb⟩
   have HI6:=hh9 (HI5.out.below hb)
   clear hb HW5 d0 d1 d2 y0 y1 y2
   obtain ⟨k1,l1⟩:=HI6.out.2.1.cell 1 _ rfl
   obtain ⟨k2,l2⟩:=(HI6.out.set hR 1 (.bool false)).2.1.cell 1 _ rfl
   obtain ⟨W,hW⟩:∃ W,W=w6.setCell ⟨L,1,none⟩ (.bool false):=⟨_,rfl⟩
   have HI:Hid (zcp R s L w W ((LV.arr ⟨za3 x,false,⟨0,⟨#[]⟩,.slice none 0 0,0,0,.slice none 0 0⟩⟩).setIfInBounds 1 (.bool false)) q3 c2):=by rw [hW,<- HQ23.out];exact HI6.out.set hR 1 (.bool false)
   have HW:=hh9 hW
   have hq3b:q3<=51000:=by have:=HQ23.out;omega
   clear hW
   go_wp2_with fail
   rw [<- HW.out]
   clear HW k1 l1 k2 l2 HI6
   go_wp2_with fail
   refine (zdj HI.out.2.2.1 hs HQ3.out).mono ?_
   rintro e w7 ⟨b7,q4,⟨rfl,ha,hg⟩,hsk4⟩
   have HI7:=hh9 (HI.out.grown hg ha hR)
   have hq4:q4<=51000:=by rcases hsk4 with g | g<;>omega
   have HQ4:Hid (c2=0->q4<=s.size):=fun g=>by rcases hsk4 with g2 | g2<;>omega
   have HSK4:=hh9 hsk4
   clear ha hg hsk4 HI
   go_wp2_with fail
   refine (zj9 HI7.out.2.2.1 hs HQ4.out (by omega)).mono ?_
   rintro e w8 ⟨X,t,q5,c5,ht,⟨rfl,ha,hg⟩,hout⟩
   have H2:=hh9 (zaa ht)
   have H5:=hh9 (zab ht)
   have hw7:w.heap.size+1<=w7.heap.size:=by have:=HI7.out.2.1.lt;have:=HI7.out.2.2.2.2;omega
   have hL7:=HI7.out.2.1.lt
   have HI8:=hh9 (HI7.out.grown hg ha hR)
   have HQ5:Hid (c5=0->q5<=s.size):=fun g=>by
    rcases hout with ⟨_,⟨_,_,g2,_⟩ | ⟨g2,_⟩⟩ | ⟨g2,g3,_⟩
    ·exact g2
    ·exact absurd g g2
    ·exact absurd (g3.symm.trans g) g2
   have hq5:q5<=52000:=by
    rcases hout with ⟨_,⟨_,_,g2,_⟩ | ⟨_,g2,_⟩⟩ | ⟨_,_,g2⟩<;>omega
   have HERR:Hid (c5≠0->zdk s p c5):=fun g=>by
    rcases hout with ⟨g1,⟨g2,_⟩ | ⟨_,_,g3⟩⟩ | ⟨g2,g3,_⟩
    ·exact absurd g2 g
    ·exact HRE.out.1 g1 _ (HSK4.out.elim (fun h3=>by rw [h3.2.1];exact g3) (fun h3=>absurd g1 h3.1))
    ·rw [g3];exact HRE.out.2.1 g2
   have hok:c5=0->c2=0/\Ans (rd s) .alts 0 (zad (rd s) q3) (.ok t (zad (rd s) q5))/\q3<=q5:=fun g=>by
    rcases hout with ⟨g1,⟨_,g2,_,g3⟩ | ⟨g2,_⟩⟩ | ⟨g2,g3,_⟩
    ·rcases HSK4.out with ⟨_,h3,h4,_⟩ | ⟨h3,_⟩
     ·exact ⟨g1,by rw [h3];exact g3,by omega⟩
     ·exact absurd g1 h3
    ·exact absurd g g2
    ·exact absurd (g3.symm.trans g) g2
   have HNOEND:Hid (c5=0->zas (rd s) (zad (rd s) q5)=none->zdk s p 20):=fun g h=>by
    obtain ⟨a1,a2,_⟩:=hok g
    exact HRE.out.2.2.1 a1 t _ a2 h
   have HOK:Hid (c5=0->∀ e,zas (rd s) (zad (rd s) q5)=some e->p<q5/\isAl (rd s p)=true/\RuleAt (rd s) p (.ok ⟨x,false,t⟩ e)):=fun g e h=>by
    obtain ⟨a1,a2,a3⟩:=hok g
    have a4:=HRE.out.2.2.2 a1 t _ e a2 h
    exact ⟨by have:=a4.1;omega,a4.2⟩
   have HT:Hid (TreeAt (w8.setRow L #[.string (za3 x),.bool false,.int .i64 X.kind,.string X.text,X.ns,.int .i64 X.lo,.int .i64 X.hi,X.ks]) (fun b=>w.heap.size+1<=b/\True) X t):=by
    have h1:=ht.weak (P':=fun b=>w.heap.size+1<=b/\b≠L) (fun b hP _=>⟨by omega,by omega⟩)
    exact (h1.set_row (fun b hP=>hP.2) _).weak (fun b hP _=>⟨hP.1,trivial⟩)
   have HL8:=hh9 HI8.out.2.1
   have HI:Hid (zcp R s L w (w8.setRow L #[.string (za3 x),.bool false,.int .i64 X.kind,.string X.text,X.ns,.int .i64 X.lo,.int .i64 X.hi,X.ks]) (LV.arr ⟨za3 x,false,X⟩) q5 c5):=HI8.out.row hR _ rfl
   clear ht ha hg hout hok HI7 HI8 HRE HSK4 HQ4 HQ3
   go_wp2_with (refine zef rfl _ _ rfl L X _ _ _ rfl rfl HL8.out (zfo x false) H2.out H5.out ?_)
   obtain ⟨w8b,hw8⟩:∃ y,y=w8.setRow L #[.string (za3 x),.bool false,.int .i64 X.kind,.string X.text,X.ns,.int .i64 X.lo,.int .i64 X.hi,X.ks]:=⟨_,rfl⟩
   rw [<- hw8] at HT HI ⊢
   clear hw8 HL8
   go_wp2_with fail
   refine (zdj HI.out.2.2.1 hs HQ5.out).mono ?_
   rintro e w9 ⟨b9,q6,⟨rfl,ha,hg⟩,hsk6⟩
   have HI9:=hh9 (HI.out.grown hg ha hR)
   have HT9:=hh9 (HT.out.kept (P':=fun b=>w.heap.size+1<=b) (fun b hP hl=>⟨hg.block b hl (fun e=>by have:=Option.some.inj e;omega),hP.1⟩) hg.size)
   have hq6:q6<=52000:=by rcases hsk6 with g | g<;>omega
   have HSK6:=hh9 hsk6
   clear ha hg hsk6 HI HT
   go_wp2_with fail
   refine (zd7 HI9.out.2.2.1 hs (by omega)).mono ?_
   rintro e w10 ⟨rfl,hb⟩
   have HI10:=hh9 (HI9.out.below hb)
   have HT10:=hh9 (HT9.out.under hb)
   clear hb HI9 HT9
   obtain ⟨hn1,hn2⟩:=zhm s q6 (by omega) hs
   obtain ⟨N,hN⟩:∃ N,zd1 (rd s) q6=N:=⟨_,rfl⟩
   rw [hN] at hn1 hn2 ⊢
   have HN:=hh9 hN
   clear hN
   by_cases hneg:N<0
   ·have hmx:max N 0=0:=by omega
    go_wp2_with fail
    refine (zfe HI10.out.2.2.1 20 (by omega)).mono ?_
    rintro e w11 ⟨c7,⟨rfl,ha,hg⟩,hc7,hcc⟩
    have HI11:=hh9 (HI10.out.grown hg ha hR)
    have HT11:=hh9 (HT10.out.kept (P':=fun b=>w.heap.size+1<=b) (fun b hP hl=>⟨hg.block b hl (fun e=>by have:=Option.some.inj e;omega),hP⟩) hg.size)
    have HFIN:Hid (zex s p ⟨x,false,t⟩ q6 c7):=by
     refine .inr ⟨hc7,by omega,?_⟩
     rcases hcc with ⟨g1,rfl⟩ | ⟨g1,rfl⟩
     ·exact HNOEND.out g1 (by
       have h1:=HSK6.out
       have h2:=HN.out
       rcases h1 with ⟨_,h3,_⟩ | ⟨h3,_⟩
       ·rw [h3]
        cases h4:zas (rd s) q6 with
        | none=>rfl
        | some e =>
         rw [zcb h4] at h2
         have:=zda (s:=s) (p:=q6) (by rcases HSK6.out with g | g<;>omega) h4
         omega
       ·exact absurd g1 h3)
     ·exact HERR.out g1
    clear ha hg hcc HI10 HT10
    obtain ⟨d0,d1,d2,y0,y1,y2⟩:=HI11.out.2.2.1.cells
    have HI12:=hh9 (HI11.out.put hR (x:=(q6:Int)) (q':=q6) rfl)
    have HT12:=hh9 (HT11.out.cell (R:=R) (k:=1) (v:=.int .i64 (q6:Int)) (fun b hb=>by omega))
    have HL12:=hh9 HI12.out.2.1
    have HR12:=hh9 HI12.out.1
    go_wp2_with (first
     | (refine zd5 rfl _ rfl L ⟨za3 x,false,X⟩ rfl HL12.out ?_)
     | (refine zck rfl _ _ rfl w.heap.size ⟨za3 x,false,X⟩ _ rfl rfl HR12.out H2.out H5.out ?_))
    exact bodyPost_ret_by (zds rfl _ _ w.heap.size ⟨za3 x,false,X⟩ _ rfl HR12.out) rfl (zeu HI12.out hR HT12.out HFIN.out)
   ·have hmx:max N 0=N:=by omega
    obtain ⟨q8,hq8⟩:∃ q8:Nat,(q6:Int)+N=(q8:Int):=⟨(q6+N.toNat),by omega⟩
    have HFIN:Hid (zex s p ⟨x,false,t⟩ q8 c5):=by
     by_cases g1:c5=0
     ·rcases HSK6.out with ⟨_,h3,h4,h5⟩ | ⟨h3,_⟩
      ·cases h6:zas (rd s) q6 with
       | none =>
        have h7:=HN.out
        rw [zd9 h6] at h7
        omega
       | some e =>
        have h7:=HN.out
        rw [zcb h6] at h7
        have h8:=zda (s:=s) (p:=q6) h5 h6
        have h9:e=q8:=by omega
        rw [g1]
        have h10:=HOK.out g1 e (by rw [h3];exact h6)
        rw [h9] at h10
        exact .inl ⟨rfl,by have:=h10.1;omega,by omega,h10.2⟩
      ·exact absurd g1 h3
     ·exact .inr ⟨g1,by omega,HERR.out g1⟩
    obtain ⟨d0,d1,d2,y0,y1,y2⟩:=HI10.out.2.2.1.cells
    have HI12:=hh9 (HI10.out.put hR (x:=(q8:Int)) (q':=q8) rfl)
    have HT12:=hh9 (HT10.out.cell (R:=R) (k:=1) (v:=.int .i64 (q8:Int)) (fun b hb=>by omega))
    have HL12:=hh9 HI12.out.2.1
    have HR12:=hh9 HI12.out.1
    clear HI10 HT10
    go_wp2_with (first
     | (refine zd5 rfl _ rfl L ⟨za3 x,false,X⟩ rfl HL12.out ?_)
     | (refine zck rfl _ _ rfl w.heap.size ⟨za3 x,false,X⟩ _ rfl rfl HR12.out H2.out H5.out ?_))
    exact bodyPost_ret_by (zds rfl _ _ w.heap.size ⟨za3 x,false,X⟩ _ rfl HR12.out) rfl (zeu HI12.out hR HT12.out HFIN.out)
def zxb (R:Nat) (s:ByteArray) (w wr:World) (v:Value) (q:Nat) (c:Int) (l:List Rule):Prop :=
 zb4 wr (w.heap.size+1) v l/\AtY wr R s q c/\Below w.heap.size w wr /\
  ((c=0/\q<=s.size/\l.length<=500/\∀ r,Rules (rd s) l q r->Rules (rd s) [] 0 r)\/(c≠0/\l.length<=501/\Rules (rd s) [] 0 (.err c)))
theorem zxc {w w':World} {base R:Nat} {s:ByteArray} {p:Nat} {c:Int} {v:Value} {l:List Rule} (hk:zb4 w base v l) (h:AtY w R s p c) (hg:w.grownBy w' v.ownBlock) (hR:R<base):AtY w' R s p c:=by
 obtain ⟨vs,_,h2,_⟩:=hk
 exact h.kept hg (zer h2 hR)
theorem zqi {w w1 w':World} {base:Nat} {v:Value} {l:List Rule} (hk:zb4 w1 base v l) (h:Below w.heap.size w w1) (hg:w1.grownBy w' v.ownBlock) (hb:w.heap.size<=base):Below w.heap.size w w':=by
 obtain ⟨vs,_,h2,_⟩:=hk
 refine ⟨hg.os.trans h.os,hg.tape.trans h.tape,hg.output.trans h.output,Nat.le_trans h.size hg.size,fun k hk=>(hg.block k (Nat.lt_of_lt_of_le hk h.size) (zer h2 (by omega))).trans (h.block k hk)⟩
theorem zg5 {w w1 w':World} {R:Nat} (h:Below w.heap.size w w1) (hg:w1.grownBy w' (some R)) (hR:w.heap.size<=R):Below w.heap.size w w' :=
 ⟨hg.os.trans h.os,hg.tape.trans h.tape,hg.output.trans h.output,Nat.le_trans h.size hg.size,fun k hk=>(hg.block k (Nat.lt_of_lt_of_le hk h.size) (fun e=>by have:=Option.some.inj e;omega)).trans (h.block k hk)⟩
theorem zxd {f:Nat->Int} {p:Nat} (h:isAl (f p)=true):zas f p=none:=by
 have hc:=zgf.1 h
 have e:zbm f p=p:=by unfold zbm;rw [if_neg (by omega)]
 unfold zas
 rw [e,if_neg (by omega),if_neg (by omega),if_neg (fun g=>by omega)]
theorem qad {f:Nat->Int} {p:Nat} (h:isAl (f p)=true):zbp isBl f p=p:=by
 have hc:=zgf.1 h
 refine IsRun.eq ⟨Nat.le_refl _,fun i h1 h2=>by omega,?_⟩
 unfold isBl
 simp
 omega
theorem zxe (s:ByteArray) (w:World) (hs:s.size<=maxLen):Calls Tryz.prog 7 #[.string s] w (zo9 s w):=by
 unfold maxLen at hs
 by_cases hbig:50000<s.size
 ·have hq:decide (50000<s.size)=true:=decide_eq_true hbig
  go_enter Tryz.func7,Tryz.ntmps7
  go_wp2
  go_ret2
  exact ⟨.err 2,by unfold zeo;rw [if_pos hbig],Below.refl _ _,rfl⟩
 ·have hq:decide (50000<s.size)=false:=decide_eq_false hbig
  have hs5:s.size<=50000:=by omega
  have HBIG:=hh9 hbig
  have H0:Hid (zxb w.heap.size s w (w.alloc (.cells #[.string s,.int .i64 0,.int .i64 0] 49)) (.slice none 0 0) 0 0 []) :=
   ⟨zb4.nil _ _,heap_alloc_new _ _,(Below.refl _ _).alloc (Nat.le_refl _) _,.inl ⟨rfl,by omega,by simp,fun r hr=>hr⟩⟩
  clear hs hbig
  go_enter Tryz.func7,Tryz.ntmps7
  go_wp2_with fail
  go_loopw [5] (fun v wr=>∃ (q:Nat) (c:Int) (l:List Rule),Hid (zxb w.heap.size s w wr v q c l)) (fun _ wr=>zts w.heap.size s.size wr)
  case atStart=>exact ⟨0,0,[],H0⟩
  case round =>
   clear H0
   obtain ⟨q,c,l,HI⟩:=hrel
   obtain ⟨hk0,ha,hb,hst⟩:=HI.out
   have HA:=hh9 ha
   have HB:=hh9 hb
   have HK:=hh9 hk0
   have HM:=hh9 (ha.meas s.size)
   have hz:w.heap.size+1<=wr.heap.size:=ha.lt
   obtain ⟨c0,c1,c2,z0,z1,z2⟩:=ha.cells
   clear ha hb hk0
   rcases hst with ⟨hc0,hqs,hl5,hall⟩ | ⟨hc,hl5,hans⟩
   ·subst hc0
    have HALL:=hh9 hall
    clear hall HI
    by_cases hlt:q<s.size
    ·have q1:decide ((q:Int)<(s.size:Int))=true:=decide_eq_true (by omega)
     have q2:decide (q<s.size)=true:=decide_eq_true hlt
     go_wp2_with fail
     obtain ⟨wo,hwo⟩:∃ x:World,x=wr:=⟨_,rfl⟩
     subst hwo
     go_loopw [] (fun wi=>∃ q':Nat,Hid (AtY wi w.heap.size s q' 0/\wo.grownBy wi (some w.heap.size)/\q<=q'/\q'<=s.size/\∀ i,q<=i->i<q'->isBl (rd s i)=true)) (fun wi=>s.size-zf4 w.heap.size wi)
     case atStart=>exact ⟨q,HA.out,zak _ _,Nat.le_refl _,hqs,fun i h1 h2=>by omega⟩
     case round =>
      obtain ⟨q',HJ⟩:=hrel
      obtain ⟨hja,hjg,hqq,hqs',hrun⟩:=HJ.out
      have HJA:=hh9 hja
      have HJG:=hh9 hjg
      have HJM:=hh9 hja.pos
      have HRUN:=hh9 hrun
      obtain ⟨d0,d1,d2,y0,y1,y2⟩:=hja.cells
      have HKJ:=hh9 (HK.out.grown hjg (by omega))
      have HBJ:=hh9 (zg5 HB.out hjg (Nat.le_refl _))
      have hzj:w.heap.size+1<=wr.heap.size:=Nat.le_trans hz hjg.size
      clear hja hjg hrun HJ c0 c1 c2 z0 z1 z2
      obtain ⟨Z,hZ⟩:∃ z,rd s q'=z:=⟨_,rfl⟩
      have HZ:=hh9 hZ
      cases hbl:isBl Z
      ·have HBL:=hh9 hbl
       have hre:zbp isBl (rd s) q=q':=IsRun.eq ⟨hqq,HRUN.out,by rw [hZ];exact hbl⟩
       have HRE:=hh9 hre
       clear hbl hZ hre
       cases hle:zas (rd s) q' with
       | some e0 =>
        have HLE:=hh9 hle
        have he1:=zda hqs' hle
        have he2:q<e0:=by
         by_cases g:q<q'
         ·omega
         ·have h2:q'=q:=by omega
          rw [h2] at hle
          exact qax hlt hle
        have HNUM:=hh9 (zcb hle)
        have hal:isAl (rd s q)=false:=by
         cases hal:isAl (rd s q)
         ·rfl
         ·have h3:=qad hal
          rw [HRE.out] at h3
          rw [h3,zxd hal] at hle
          cases hle
        have HNEXT:Hid (∀ r,Rules (rd s) l e0 r->Rules (rd s) [] 0 r):=fun r hr=>HALL.out r (.empty (by rw [zes hlt];omega) hal (by rw [HRE.out];exact HLE.out) hr)
        obtain ⟨N,hN⟩:∃ N:Int,(e0:Int)-(q':Int)=N:=⟨_,rfl⟩
        have hN0:¬ N<0:=by omega
        have hN1:0<=N:=by omega
        have hNq:(q':Int)+N=(e0:Int):=by omega
        rw [hN] at HNUM
        clear hle hal hN
        go_wp2_with fail
        refine (yat0 HJA.out hs5 (by omega) _ HZ.out).mono ?_
        rintro e w1 ⟨rfl,hb⟩
        have HA1:=hh9 (HJA.out.below hb)
        have HK1:=hh9 (HKJ.out.below hb)
        have HB1:=hh9 (za0 HBJ.out hb)
        have hz1:w.heap.size+1<=w1.heap.size:=Nat.le_trans hzj hb.size
        clear hb
        go_wp2_with fail
        refine (zc7 _ _).mono ?_
        rw [HBL.out]
        rintro e w' ⟨rfl,rfl⟩
        go_wp2_with fail
        refine (zd7 HA1.out hs5 (by omega)).mono ?_
        rw [HNUM.out]
        rintro e w2 ⟨rfl,hb⟩
        have HA2:=hh9 (HA1.out.below hb)
        have HK2:=hh9 (HK1.out.below hb)
        have HB2:=hh9 (za0 HB1.out hb)
        clear hb d0 d1 d2 y0 y1 y2 HA1 HK1 HB1
        obtain ⟨d0,d1,d2,y0,y1,y2⟩:=HA2.out.cells
        have HA3:=hh9 (HA2.out.put (x:=(e0:Int)) (q:=e0) rfl)
        have HK3:=hh9 (HK2.out.grown (zah (zak w2 (some w.heap.size)) 1 (.int .i64 (e0:Int))) (by omega))
        have HB3:=hh9 (zg5 HB2.out (zah (zak w2 (some w.heap.size)) 1 (.int .i64 (e0:Int))) (Nat.le_refl _))
        go_wp2_with fail
        go_roundw
        case rel=>exact ⟨e0,0,l,HK3.out,HA3.out,HB3.out,.inl ⟨rfl,he1.2,hl5,HNEXT.out⟩⟩
        case measure =>
         rw [HM.out,HA3.out.meas]
         simp only [if_true]
         omega
       | none =>
        have HLE:=hh9 hle
        have HNUM:=hh9 (zd9 hle)
        clear hle
        go_wp2_with fail
        refine (yat0 HJA.out hs5 (by omega) _ HZ.out).mono ?_
        rintro e w1 ⟨rfl,hb⟩
        have HA1:=hh9 (HJA.out.below hb)
        have HK1:=hh9 (HKJ.out.below hb)
        have HB1:=hh9 (za0 HBJ.out hb)
        have hz1:w.heap.size+1<=w1.heap.size:=Nat.le_trans hzj hb.size
        clear hb
        go_wp2_with fail
        refine (zc7 _ _).mono ?_
        rw [HBL.out]
        rintro e w' ⟨rfl,rfl⟩
        go_wp2_with fail
        refine (zd7 HA1.out hs5 (by omega)).mono ?_
        rw [HNUM.out]
        rintro e w2 ⟨rfl,hb⟩
        have HA2:=hh9 (HA1.out.below hb)
        have HK2:=hh9 (HK1.out.below hb)
        have HB2:=hh9 (za0 HB1.out hb)
        have hz2:w.heap.size+1<=w2.heap.size:=Nat.le_trans hz1 hb.size
        clear hb d0 d1 d2 y0 y1 y2 HA1 HK1 HB1
        obtain ⟨d0,d1,d2,y0,y1,y2⟩:=HA2.out.cells
        have HA3:=hh9 (HA2.out.put (x:=(q:Int)) (q:=q) rfl)
        have HK3:=hh9 (HK2.out.grown (zah (zak w2 (some w.heap.size)) 1 (.int .i64 (q:Int))) (by omega))
        have HB3:=hh9 (zg5 HB2.out (zah (zak w2 (some w.heap.size)) 1 (.int .i64 (q:Int))) (Nat.le_refl _))
        have hz3:w.heap.size+1<=(w2.setCell ⟨w.heap.size,1,none⟩ (.int .i64 (q:Int))).heap.size:=by simpa using hz2
        go_wp2_with fail
        refine (zxa HA3.out hs5 hqs).mono ?_
        rintro e w4 ⟨y,x,q3,c3,ht,⟨rfl,ha,hg⟩,hout⟩
        have HOUT:=hh9 hout
        have H2:=hh9 (zaa ht.2.2)
        have H5:=hh9 (zab ht.2.2)
        have hz4:w.heap.size+1<=w4.heap.size:=Nat.le_trans hz3 hg.size
        have HK4:=hh9 ((HK3.out.grown hg (by omega)).below ((Below.refl w4.heap.size w4).alloc (Nat.le_refl _) (.cells y.arr 37)))
        have HT4:=hh9 ((zo8 HK3.out ht hz3).kept (W':=w4.alloc (.cells y.arr 37)) (fun b hP hl=>⟨Below.heap_alloc _ _ _ hl,hP⟩) (by simp))
        have HA4:=hh9 (ha.alloc (.cells y.arr 37))
        have HB4:=hh9 (zjd (zg5 HB3.out hg (Nat.le_refl _)) (.cells y.arr 37))
        clear ha hg ht hout HK3 HA3 HB3 HK2 HA2 HB2 d0 d1 d2 y0 y1 y2
        go_wp2_with (first
         | (refine zlq rfl _ rfl y rfl H2.out H5.out ?_)
         | (at_builtin;go_loud (refine zlr rfl _ _ rfl (w.heap.size+1) _ l x y w4.heap.size rfl rfl HK4.out HT4.out (heap_alloc_new w4 _) ?c1 ?c2 ?_)))
        case c1=>omega
        case c2=>simp;omega
        intro v' w5 hk5 hgrow
        have HK5:=hh9 hk5
        have HA5:=hh9 (zxc HK4.out HA4.out hgrow (by omega))
        have HB5:=hh9 (zqi HK4.out HB4.out hgrow (by omega))
        have hform:=zk5 hk5
        have hlen:(l++[x]).length=l.length+1:=by simp
        rw [hlen] at hform
        obtain ⟨g5,cap5,rfl⟩:=hform.resolve_left (fun h=>by omega)
        have HLEN:=hh9 hlen
        have HBAD:Hid (c3≠0->Rules (rd s) [] 0 (.err c3)):=fun g=>by
         rcases HOUT.out with ⟨g1,_⟩ | ⟨_,_,⟨h1,h2⟩ | ⟨h1,h2⟩⟩
         ·exact absurd g1 g
         ·rw [h2]
          exact HALL.out _ (.bad (by rw [zes hlt];omega) h1 (by rw [HRE.out];exact HLE.out))
         ·exact HALL.out _ (.err h1 h2)
        clear hk5 hgrow HK4 HA4 HB4 HT4 H2 H5 hform hlen
        by_cases hmany:500<=l.length
        ·have p3:decide ((500:Int)<((l.length+1:Nat):Int))=true:=decide_eq_true (by omega)
         have p4:decide (500<l.length+1)=true:=decide_eq_true (by omega)
         go_wp2_with fail
         refine (zfe HA5.out 2 (by omega)).mono ?_
         rintro e w6 ⟨c7,⟨rfl,ha,hg⟩,hc7,hcc⟩
         have HA6:=hh9 ha
         have HK6:=hh9 (HK5.out.grown hg (by omega))
         have HB6:=hh9 (zg5 HB5.out hg (Nat.le_refl _))
         have HERR:Hid (Rules (rd s) [] 0 (.err c7)):=by
          rcases hcc with ⟨g1,g2⟩ | ⟨g1,g2⟩
          ·rcases HOUT.out with ⟨_,_,_,h1,h2⟩ | ⟨h1,_⟩
           ·rw [g2];exact HALL.out _ (.many h1 h2 hmany)
           ·exact absurd g1 h1
          ·rw [g2];exact HBAD.out g1
         have HC7:=hh9 hc7
         clear ha hg hcc hc7
         go_wp2_with fail
         go_roundw
         case rel=>exact ⟨q3,c7,l++[x],HK6.out,HA6.out,HB6.out,.inr ⟨HC7.out,by rw [HLEN.out];omega,HERR.out⟩⟩
         case measure =>
          rw [HM.out,HA6.out.meas,if_neg HC7.out]
          simp only [if_true]
          omega
        ·have p3:decide ((500:Int)<((l.length+1:Nat):Int))=false:=decide_eq_false (by omega)
         have p4:decide (500<l.length+1)=false:=decide_eq_false (by omega)
         have HST:Hid (((c3=0/\q3<=s.size/\(l++[x]).length<=500/\∀ r,Rules (rd s) (l++[x]) q3 r->Rules (rd s) [] 0 r)\/(c3≠0/\(l++[x]).length<=501/\Rules (rd s) [] 0 (.err c3)))/\(c3=0->q<q3)):=by
          rcases HOUT.out with ⟨g1,g2,g3,g4,g5⟩ | ⟨g1,_⟩
          ·exact ⟨.inl ⟨g1,g3,by rw [HLEN.out];omega,fun r hr=>HALL.out r (.rule g4 g5 (by omega) hr)⟩,fun _=>g2⟩
          ·exact ⟨.inr ⟨g1,by rw [HLEN.out];omega,HBAD.out g1⟩,fun g=>absurd g g1⟩
         go_wp2_with fail
         go_roundw
         case rel=>exact ⟨q3,c3,l++[x],HK5.out,HA5.out,HB5.out,HST.out.1⟩
         case measure =>
          rw [HM.out,HA5.out.meas]
          simp only [if_true]
          have:=HST.out.2
          split
          ·rename_i g
           have:=this g
           omega
          ·omega
      ·have HBL:=hh9 hbl
       have hltj:q'<s.size:=zbu (by unfold isBl at hbl;simp at hbl;omega) hZ
       have HRN:Hid (∀ i,q<=i->i<q'+1->isBl (rd s i)=true):=ze9 (P:=isBl) HRUN.out (by rw [hZ];exact hbl)
       clear hbl hZ
       go_wp2_with fail
       refine (yat0 HJA.out hs5 (by omega) _ HZ.out).mono ?_
       rintro e w1 ⟨rfl,hb⟩
       have HA1:=hh9 (HJA.out.below hb)
       have HG1:=hh9 (za4 HJG.out hb)
       clear hb d0 d1 d2 y0 y1 y2
       obtain ⟨d0,d1,d2,y0,y1,y2⟩:=HA1.out.cells
       go_wp2_with fail
       refine (zc7 _ _).mono ?_
       rw [HBL.out]
       rintro e w' ⟨rfl,rfl⟩
       go_wp2_with fail
       go_roundw
       case rel=>exact ⟨q'+1,HA1.out.step,zah HG1.out _ _,by omega,by omega,HRN.out⟩
       case measure =>
        rw [HJM.out,HA1.out.step.pos]
        omega
    ·have q1:decide ((q:Int)<(s.size:Int))=false:=decide_eq_false (by omega)
     have q2:decide (q<s.size)=false:=decide_eq_false hlt
     have HFIN:Hid (zeo s (.ok l q)):=(if_neg HBIG.out).mpr (HALL.out _ (.done (by rw [zbz hlt];omega)))
     have HKb:=hh9 (HK.out.base (show w.heap.size<=w.heap.size+1 by omega))
     go_wp2_with fail
     go_ret2
     exact ⟨.ok l q,HFIN.out,HB.out,_,rfl,HKb.out⟩
   ·have qc:(c==0)=false:=by simpa using hc
    have qc':(c != 0)=true:=by simpa using hc
    have HFIN:Hid (zeo s (.err c)):=(if_neg HBIG.out).mpr hans
    clear hans HI
    by_cases hlt:q<s.size
    ·have q1:decide ((q:Int)<(s.size:Int))=true:=decide_eq_true (by omega)
     have q2:decide (q<s.size)=true:=decide_eq_true hlt
     go_wp2_with fail
     go_quiet (fail)
     go_wp2_with fail
     go_ret2
     exact ⟨.err c,HFIN.out,za7 HB.out _,rfl⟩
    ·have q1:decide ((q:Int)<(s.size:Int))=false:=decide_eq_false (by omega)
     have q2:decide (q<s.size)=false:=decide_eq_false hlt
     go_wp2_with fail
     go_quiet (fail)
     go_wp2_with fail
     go_ret2
     exact ⟨.err c,HFIN.out,za7 HB.out _,rfl⟩
end Go.Proofs.YtekjnfldgjcgeaaGreatDoor
