/- Part 29 of what the laws of the grammar rest on. -/
import Derived.Test.YtekjnfldgjcgeaaGreatDoorA28
import Derived.Laws.BytesString
import Derived.Laws.IdiomStrings
import Derived.MapKept
set_option linter.all false
set_option maxRecDepth 100000
set_option maxHeartbeats 8000000
namespace Go.Proofs.YtekjnfldgjcgeaaGreatDoor
open Go.RowKit
theorem zna (W:World) (c:Int) (h0:0<=c) (h1:c<=255) :
  (convert 100 9 (.slice (some ⟨W.heap.size,0,none⟩) 1 1)).run Tryz.prog (W.alloc (.cells #[.int .u8 c] 5))=.ok (.string (za3 [c])) (W.alloc (.cells #[.int .u8 c] 5)):=by
 have h:=run_convert_bytes_back (P:=Tryz.prog) (W.alloc (.cells #[.int .u8 c] 5)) 100 9 5 ⟨W.heap.size,0,none⟩ 1 [byt c] Tryz.underlying100 Tryz.underlying5 Tryz.underlying9 (fun j hj=>by
  have hj0:j=0:=by simp at hj;exact hj
  subst hj0
  have e:((byt c).toNat:Int)=c:=by unfold byt;simp;omega
  show World.cell? _ ⟨W.heap.size,0,none⟩=some (.int .u8 ((byt c).toNat:Int))
  rw [e]
  unfold World.cell?
  show (match (W.alloc _).heap[W.heap.size]? with | some (.cells c elem frozen)=>c[0]? | x=>none)=_
  rw [heap_alloc_new]
  rfl)
 exact h
theorem znb (x y:List Int):za3 x++za3 y=za3 (x++y):=by
 apply ByteArray.ext
 unfold za3
 simp
theorem qb1 {x:List Int} (h:0<x.length):za3 x≠⟨#[]⟩:=by
 intro g
 have:=congrArg ByteArray.size g
 rw [za9] at this
 have e:(⟨#[]⟩:ByteArray).size=0:=rfl
 omega
theorem znc {s:ByteArray} (h:0<s.size):s.toList.isEmpty=false:=by
 rw [Lib.toList_data]
 cases g:s.data.toList with
 | nil =>
  have:s.size=0:=by
   show s.data.size=0
   rw [<- Array.length_toList,g];rfl
  omega
 | cons a l=>rfl
theorem zhk {c:Int} (h0:0<=c) (h1:c<=255):0<=low c/\low c<=255:=by unfold low;split<;>omega
theorem qa1 (f:Nat->Int) (p n:Nat):cut f p (n+1)=cut f p n++[f (p+n)]:=by unfold cut;rw [List.range_succ];simp
def NameY (R:Nat) (s:ByteArray) (p:Nat) (w:World) (e:Ending) (w':World):Prop :=
 (isAl (rd s p)=false/\GivesY R s (.string (za3 [])) p 20 w e w') \/
 (isAl (rd s p)=true/\∃ x q,zcc (rd s) p=.ok x q/\GivesY R s (.string (za3 x)) q 0 w e w') \/
 (isAl (rd s p)=true/\zcc (rd s) p=.err 2/\∃ x q,q<=s.size/\GivesY R s (.string (za3 x)) q 2 w e w')
def qce (R:Nat) (s:ByteArray) (p:Nat) (w wr:World) (x:List Int) (q:Nat):Prop :=
 AtY wr R s q 0/\w.grownBy wr (some R)/\p<=q/\q<=s.size/\x=(cut (rd s) p (q-p)).map low/\(∀ i,p<=i->i<q->isNm (rd s i)=true)/\(p<q->isAl (rd s p)=true)
theorem zp3 {R p:Nat} {s:ByteArray} {w:World} (h:AtY w R s p 0) (hs:s.size<=50000) (hp:p<=s.size) :
  Calls Tryz.prog 34 #[.pointer (some ⟨R,0,none⟩)] w (NameY R s p w):=by
 have H:=hh9 h
 clear h
 go_enter Tryz.func34,Tryz.ntmps34
 go_wp2_with fail
 refine (yat0 H.out hs (by omega) _ rfl).mono ?_
 rintro e w0 ⟨rfl,hbw⟩
 have HA0:=hh9 (H.out.below hbw)
 have HG0:=hh9 (za4 (zak w (some R)) hbw)
 clear hbw
 go_wp2_with fail
 go_loopw [3,4] (fun v u wr=>∃ x:List Int,∃ q:Nat,v=.string (za3 x)/\u=.int .i64 (rd s q)/\qce R s p w wr x q) (fun _ _ wr=>s.size-zf4 R wr)
 case atStart=>exact ⟨[],p,rfl,rfl,HA0.out,HG0.out,Nat.le_refl _,hp,by rw [Nat.sub_self];rfl,fun i h1 h2=>absurd h1 (by omega),fun g=>absurd g (by omega)⟩
 case round =>
  obtain ⟨x,q,rfl,rfl,ha,hg,hpq,hqs,hx,hall,hal0⟩:=hrel
  have hxl:x.length=q-p:=by rw [hx,List.length_map,zk1]
  have HA:=hh9 ha
  have HG:=hh9 hg
  have HM:=hh9 ha.pos
  have HX:=hh9 hx
  have HL:=hh9 hall
  obtain ⟨c0,c1,c2,z0,z1,z2⟩:=ha.cells
  obtain ⟨Z,hZ⟩:∃ y,rd s q=y:=⟨_,rfl⟩
  rw [hZ]
  have hZr:=zge s q
  rw [hZ] at hZr
  obtain ⟨T,hT⟩:∃ T,T=za3 x:=⟨_,rfl⟩
  have hTs:T.size=q-p:=by rw [hT,za9,hxl]
  rw [<- hT]
  have HT:=hh9 hT
  have HZ:=hh9 hZ
  cases hnm:(isAl Z||(decide (p<q)&&isNm Z))
  ·obtain ⟨g1,g2⟩:isAl Z=false/\(p<q->isNm Z=false):=by
    simp at hnm
    exact hnm
   have G1:=hh9 g1
   by_cases hlt:p<q
   ·have g3:=g2 hlt
    obtain ⟨g4,g5⟩:isDc Z=false/\Z≠45:=by
     unfold isNm at g3
     rw [g1] at g3
     simpa using g3
    have G4:=hh9 g4
    have q45:(Z==45)=false:=by simpa using g5
    have hne:T≠⟨#[]⟩:=by rw [hT];exact qb1 (by omega)
    have hemp:T.toList.isEmpty=false:=znc (by omega)
    have hrun:IsRun isNm (rd s) p q:=⟨hpq,hall,by rw [hZ];exact g3⟩
    have HAL0:=hh9 (hal0 hlt)
    have HN:Hid (zcc (rd s) p=if 40<q-p then .err 2 else .ok x q):=by unfold zcc;rw [hrun.eq,hx];exact rfl
    clear hZ hT hx hall hal0 hnm g1 g2 g3 g4 hrun hne
    by_cases hlong:40<q-p
    ·have hts:40<T.size:=by omega
     have HN2:Hid (zcc (rd s) p=.err 2):=by rw [HN.out,if_pos hlong];exact rfl
     clear hTs
     go_wp2_with fail
     refine (zby _ _).mono ?_
     rw [G1.out]
     rintro e w' ⟨rfl,rfl⟩
     go_wp2_with fail
     refine (zc8 _ _).mono ?_
     rw [G4.out]
     rintro e w' ⟨rfl,rfl⟩
     go_wp2_with fail
     refine (zba HA.out 2).mono ?_
     rintro e w2 ⟨rfl,ha,hg⟩
     have HA2:=hh9 ha
     have HG2:=hh9 (HG.out.trans hg)
     clear ha hg c0 c1 c2 z0 z1 z2
     go_wp2_with fail
     go_ret
     rw [HT.out]
     exact .inr (.inr ⟨HAL0.out,HN2.out,x,q,hqs,rfl,HA2.out,HG2.out⟩)
    ·have hts:T.size<=40:=by omega
     have HN2:Hid (zcc (rd s) p=.ok x q):=by rw [HN.out,if_neg hlong];exact rfl
     clear hTs
     go_wp2_with fail
     refine (zby _ _).mono ?_
     rw [G1.out]
     rintro e w' ⟨rfl,rfl⟩
     go_wp2_with fail
     refine (zc8 _ _).mono ?_
     rw [G4.out]
     rintro e w' ⟨rfl,rfl⟩
     go_wp2_with fail
     go_ret
     rw [HT.out]
     exact .inr (.inl ⟨HAL0.out,x,q,HN2.out,rfl,HA.out,HG.out⟩)
   ·obtain rfl:p=q:=by omega
    obtain rfl:x=[]:=List.length_eq_zero_iff.1 (by omega)
    have hT0:T=⟨#[]⟩:=hT
    clear hT HT hTs
    subst hT0
    have G1':Hid (isAl (rd s p)=false):=by rw [hZ];exact g1
    clear hZ hx hall hal0 hnm g1 g2 HL HX
    go_wp2_with fail
    refine (zby _ _).mono ?_
    rw [G1.out]
    rintro e w' ⟨rfl,rfl⟩
    go_wp2_with fail
    refine (zba HA.out 20).mono ?_
    rintro e w2 ⟨rfl,ha,hg⟩
    have HA2:=hh9 ha
    have HG2:=hh9 (HG.out.trans hg)
    clear ha hg c0 c1 c2 z0 z1 z2
    go_wp2_with fail
    go_ret
    exact .inl ⟨G1'.out,rfl,HA2.out,HG2.out⟩
  ·have hnm2:isNm Z=true:=by
    unfold isNm at hnm ⊢
    cases ha:isAl Z
    ·rw [ha] at hnm
     simp at hnm ⊢
     exact hnm.2
    ·rfl
   have hZ0:0<=Z:=(zmx Z hnm2).1
   have hZ1:Z<=255:=by have:=(zmx Z hnm2).2;omega
   have hlt:q<s.size:=zbu hZ0 hZ
   have HNX:Hid (∀ i,p<=i->i<q+1->isNm (rd s i)=true):=ze9 (P:=isNm) hall (by rw [hZ];exact hnm2)
   have HXN:Hid (x++[low Z]=(cut (rd s) p (q+1-p)).map low):=by
    rw [show q+1-p=(q-p)+1 by omega,qa1,List.map_append,<- hx,show p+(q-p)=q by omega,hZ]
    exact rfl
   have hR:=ha.lt
   have hT2:T.size<=50000:=by omega
   have hT3:(za3 [low Z]).size=1:=rfl
   have kc:=fun (W:World)=>zna W (low Z) (zhk hZ0 hZ1).1 (zhk hZ0 hZ1).2
   have HAL0:Hid (isAl (rd s p)=true):=by
    by_cases g:p<q
    ·exact hal0 g
    ·obtain rfl:p=q:=by omega
     rw [hZ]
     have:isAl Z=true:=by simpa using hnm
     exact this
   cases g1:isAl Z
   ·obtain ⟨g2,g3⟩:p<q/\(isDc Z=true\/Z=45):=by
     rw [g1] at hnm
     simp at hnm
     refine ⟨hnm.1,?_⟩
     have:=hnm.2
     unfold isNm at this
     rw [g1] at this
     simpa using this
    have hne:T≠⟨#[]⟩:=by rw [hT];exact qb1 (by omega)
    have hemp:T.toList.isEmpty=false:=znc (by omega)
    have G1:=hh9 g1
    clear hZ hT hx hall hal0 hnm hnm2 g1 hTs
    cases g4:isDc Z
    ·have q45:Z=45:=by
      rcases g3 with g | g
      ·rw [g4] at g;cases g
      ·exact g
     have q45b:(Z==45)=true:=by simpa using q45
     have G4:=hh9 g4
     clear g3 g4 q45
     go_wp2_with fail
     refine (zby _ _).mono ?_
     rw [G1.out]
     rintro e w' ⟨rfl,rfl⟩
     go_wp2_with fail
     refine (zc8 _ _).mono ?_
     rw [G4.out]
     rintro e w' ⟨rfl,rfl⟩
     go_wp2_with fail
     refine (zgi _ hZ0 hZ1 _).mono ?_
     rintro e w' ⟨rfl,rfl⟩
     go_wp2_with fail
     have HA2:=hh9 (HA.out.step.alloc (.cells #[.int .u8 (low Z)] 5))
     have HG2:=hh9 (zao (zah HG.out 1 (.int .i64 ((q:Int)+1))) (.cells #[.int .u8 (low Z)] 5))
     refine (yat0 HA2.out hs (by omega) _ rfl).mono ?_
     rintro e w3 ⟨rfl,hbw⟩
     have HA3:=hh9 (HA2.out.below hbw)
     have HG3:=hh9 (za4 HG2.out hbw)
     clear hbw
     go_wp2_with fail
     go_roundw
     case rel=>exact ⟨x++[low Z],q+1,by rw [<- znb,<- HT.out],rfl,HA3.out,HG3.out,by omega,by omega,HXN.out,HNX.out,fun _=>HAL0.out⟩
     case measure =>
      rw [HM.out,HA3.out.pos]
      omega
    ·have G4:=hh9 g4
     clear g3 g4
     go_wp2_with fail
     refine (zby _ _).mono ?_
     rw [G1.out]
     rintro e w' ⟨rfl,rfl⟩
     go_wp2_with fail
     refine (zc8 _ _).mono ?_
     rw [G4.out]
     rintro e w' ⟨rfl,rfl⟩
     go_wp2_with fail
     refine (zgi _ hZ0 hZ1 _).mono ?_
     rintro e w' ⟨rfl,rfl⟩
     go_wp2_with fail
     have HA2:=hh9 (HA.out.step.alloc (.cells #[.int .u8 (low Z)] 5))
     have HG2:=hh9 (zao (zah HG.out 1 (.int .i64 ((q:Int)+1))) (.cells #[.int .u8 (low Z)] 5))
     refine (yat0 HA2.out hs (by omega) _ rfl).mono ?_
     rintro e w3 ⟨rfl,hbw⟩
     have HA3:=hh9 (HA2.out.below hbw)
     have HG3:=hh9 (za4 HG2.out hbw)
     clear hbw
     go_wp2_with fail
     go_roundw
     case rel=>exact ⟨x++[low Z],q+1,by rw [<- znb,<- HT.out],rfl,HA3.out,HG3.out,by omega,by omega,HXN.out,HNX.out,fun _=>HAL0.out⟩
     case measure =>
      rw [HM.out,HA3.out.pos]
      omega
   ·have G1:=hh9 g1
    clear hZ hT hx hall hal0 hnm hnm2 g1 hTs
    go_wp2_with fail
    refine (zby _ _).mono ?_
    rw [G1.out]
    rintro e w' ⟨rfl,rfl⟩
    go_wp2_with fail
    refine (zgi _ hZ0 hZ1 _).mono ?_
    rintro e w' ⟨rfl,rfl⟩
    go_wp2_with fail
    have HA2:=hh9 (HA.out.step.alloc (.cells #[.int .u8 (low Z)] 5))
    have HG2:=hh9 (zao (zah HG.out 1 (.int .i64 ((q:Int)+1))) (.cells #[.int .u8 (low Z)] 5))
    refine (yat0 HA2.out hs (by omega) _ rfl).mono ?_
    rintro e w3 ⟨rfl,hbw⟩
    have HA3:=hh9 (HA2.out.below hbw)
    have HG3:=hh9 (za4 HG2.out hbw)
    clear hbw
    go_wp2_with fail
    go_roundw
    case rel=>exact ⟨x++[low Z],q+1,by rw [<- znb,<- HT.out],rfl,HA3.out,HG3.out,by omega,by omega,HXN.out,HNX.out,fun _=>HAL0.out⟩
    case measure =>
     rw [HM.out,HA3.out.pos]
     omega
def NeedY (b:Int) (R:Nat) (s:ByteArray) (p:Nat) (w:World) (e:Ending) (w':World):Prop :=
 (∃ v q,zbl b 1114111 (rd s) p=.ok v q/\GivesY R s (.int .i64 v) q 0 w e w') \/
 (∃ c,c≠0/\zbl b 1114111 (rd s) p=.err c/\∃ q,q<=s.size/\GivesY R s (.int .i64 (-1)) q c w e w')
theorem zwy {R p:Nat} {s:ByteArray} {w:World} (b:Int) (hb:b=2\/b=10\/b=16) (h:AtY w R s p 0) (hs:s.size<=50000) (hp:p<=s.size) :
  Calls Tryz.prog 142 #[.pointer (some ⟨R,0,none⟩),.int .i64 b] w (NeedY b R s p w):=by
 have H:=hh9 h
 have HBB:=hh9 hb
 clear h hb
 go_enter Tryz.func142,Tryz.ntmps142
 go_wp2_with fail
 refine (zkm b 1114111 HBB.out (by omega) (by omega) H.out hs hp).mono ?_
 rintro e w1 (⟨hd,rfl,ha,hg⟩ | ⟨v,q,hn,rfl,ha,hg⟩ | ⟨hd,hn,q,hq,rfl,ha,hg⟩)
 ·have HN:=hh9 (zhx (lim:=1114111) hd)
  have HA:=hh9 ha
  have HG:=hh9 hg
  clear hd ha hg
  go_wp2_with fail
  refine (zba HA.out 20).mono ?_
  rintro e w2 ⟨rfl,ha,hg⟩
  have HA2:=hh9 ha
  have HG2:=hh9 (HG.out.trans hg)
  clear ha hg
  go_wp2_with fail
  go_ret
  exact .inr ⟨20,by omega,HN.out,p,hp,rfl,HA2.out,HG2.out⟩
 ·have hv:=zh5 (by rcases HBB.out with rfl | rfl | rfl<;>omega) hn
  have hv2:v<=1114111:=by
   unfold zbl at hn
   split at hn
   ·cases hn
   ·split at hn
    ·cases hn
    ·cases hn;omega
  have HN:=hh9 hn
  have HA:=hh9 ha
  have HG:=hh9 hg
  clear hn ha hg
  go_wp2_with fail
  go_ret
  exact .inl ⟨v,q,HN.out,rfl,HA.out,HG.out⟩
 ·have HN:=hh9 hn
  have HA:=hh9 ha
  have HG:=hh9 hg
  clear hd hn ha hg
  go_wp2_with fail
  refine (zd8 HA.out (by omega) 20).mono ?_
  rintro e w2 ⟨rfl,ha,hg⟩
  have HA2:=hh9 ha
  have HG2:=hh9 (HG.out.trans hg)
  clear ha hg
  go_wp2_with fail
  go_ret
  exact .inr ⟨2,by omega,HN.out,q,hq,rfl,HA2.out,HG2.out⟩
def qdn (R:Nat) (s:ByteArray) (p:Nat) (w:World) (e:Ending) (w':World):Prop :=
 (∃ x q,zb2 (rd s) p=.ok x q/\(∀ c∈x,0<=c/\c<128)/\x.length<=60000/\GivesY R s (.string (za3 x)) q 0 w e w') \/
 (zb2 (rd s) p=.err 20/\∃ x q,q<=s.size+1/\(∀ c∈x,0<=c/\c<128)/\x.length<=60000/\GivesY R s (.string (za3 x)) q 20 w e w')
def qa2 (R:Nat) (s:ByteArray) (p:Nat) (w wr:World) (T:ByteArray) (q:Nat):Prop :=
 AtY wr R s q 0/\w.grownBy wr (some R)/\p+1<=q/\q<=s.size/\T=s.extract (p+1) q/\∀ i,p+1<=i->i<q->isSt (rd s i)=true
theorem qa3 {s:ByteArray} {p q:Nat} (h:p<=q):s.extract p q++s.extract q (q+1)=s.extract p (q+1):=by
 apply ByteArray.ext
 rw [ByteArray.data_append,ByteArray.data_extract,ByteArray.data_extract,ByteArray.data_extract,Array.extract_append_extract]
 congr 1<;>omega
theorem zqe {R p:Nat} {s:ByteArray} {w:World} (h:AtY w R s p 0) (hs:s.size<=50000) (h34:rd s p=34) :
  Calls Tryz.prog 141 #[.pointer (some ⟨R,0,none⟩)] w (qdn R s p w):=by
 obtain ⟨c0,c1,c2,z0,z1,z2⟩:=h.cells
 have hp:p<s.size:=zbu (by omega) h34
 have H34:=hh9 h34
 have H:=hh9 h
 clear h h34
 go_enter Tryz.func141,Tryz.ntmps141
 go_wp2_with fail
 clear c0 c1 c2 z0 z1 z2
 go_loopw [3] (fun v wr=>∃ T:ByteArray,∃ q:Nat,v=.string T/\qa2 R s p w wr T q) (fun _ wr=>s.size-zf4 R wr)
 case atStart=>exact ⟨⟨#[]⟩,p+1,rfl,H.out.step,zah (zak _ _) _ _,Nat.le_refl _,by omega,by simp [ByteArray.ext_iff],fun i h1 h2=>absurd h1 (by omega)⟩
 case round =>
  obtain ⟨T,q,rfl,ha,hg,hpq,hqs,hT,hall⟩:=hrel
  have HA:=hh9 ha
  have HG:=hh9 hg
  have HM:=hh9 ha.pos
  obtain ⟨Z,hZ⟩:∃ y,rd s q=y:=⟨_,rfl⟩
  have HZ:=hh9 hZ
  have hZr:=zge s q
  rw [hZ] at hZr
  have hTs:T.size=q-(p+1):=by rw [hT,ByteArray.size_extract];omega
  have HTX:Hid (T=za3 (cut (rd s) (p+1) (q-(p+1)))):=by rw [hT];exact zhz hqs
  cases hst:isSt Z
  ·have hrun:IsRun isSt (rd s) (p+1) q:=⟨hpq,hall,by rw [hZ];exact hst⟩
   have HRUN:=hh9 hrun
   have HLOW:=hh9 (zk2 zrf hrun)
   have HLEN:Hid ((cut (rd s) (p+1) (q-(p+1))).length<=60000):=by rw [zk1];exact (by omega:q-(p+1)<=60000)
   have hst2:¬ (32<=Z/\Z<=126/\Z≠34):=by
    unfold isSt at hst
    simp at hst
    intro ⟨g1,g2,g3⟩
    exact g3 (hst g1 g2)
   clear ha hg hZ hT hall hst hrun hTs
   by_cases g1:32<=Z
   ·by_cases g2:Z<127
    ·have g3:Z=34:=by omega
     subst g3
     clear hst2
     go_wp2_with fail
     refine (yat0 HA.out hs (by omega) _ HZ.out).mono ?_
     rintro e w1 ⟨rfl,hbw⟩
     have HA0:=hh9 (HA.out.below hbw)
     have HG0:=hh9 (za4 HG.out hbw)
     clear hbw
     go_wp2_with fail
     refine (yat0 HA0.out hs (by omega) _ HZ.out).mono ?_
     rintro e w2 ⟨rfl,hbw⟩
     have HAb:=hh9 (HA0.out.below hbw)
     have HGb:=hh9 (za4 HG0.out hbw)
     clear hbw
     go_wp2_with fail
     refine (yat0 HAb.out hs (by omega) _ HZ.out).mono ?_
     rintro e w3 ⟨rfl,hbw⟩
     have HA1:=hh9 (HAb.out.below hbw)
     have HG1:=hh9 (za4 HGb.out hbw)
     clear hbw HA HG HA0 HG0 HAb HGb
     have HQ:Hid (zb2 (rd s) p=.ok (cut (rd s) (p+1) (q-(p+1))) (q+1)):=by
      unfold zb2
      rw [if_pos H34.out,HRUN.out.eq,if_pos HZ.out]
      exact rfl
     go_wp2_with fail
     refine (yat0 HA1.out hs (by omega) _ HZ.out).mono ?_
     rintro e w5 ⟨rfl,hbw⟩
     have HA5:=hh9 (HA1.out.below hbw)
     have HG5:=hh9 (za4 HG1.out hbw)
     obtain ⟨d0,d1,d2,y0,y1,y2⟩:=HA5.out.cells
     clear hbw
     go_wp2_with fail
     go_ret
     rw [HTX.out]
     exact .inl ⟨_,q+1,HQ.out,HLOW.out,HLEN.out,rfl,HA5.out.step,zah HG5.out _ _⟩
    ·clear hst2
     have h34:¬ Z=34:=by omega
     go_wp2_with fail
     refine (yat0 HA.out hs (by omega) _ HZ.out).mono ?_
     rintro e w1 ⟨rfl,hbw⟩
     have HA0:=hh9 (HA.out.below hbw)
     have HG0:=hh9 (za4 HG.out hbw)
     clear hbw
     go_wp2_with fail
     refine (yat0 HA0.out hs (by omega) _ HZ.out).mono ?_
     rintro e w2 ⟨rfl,hbw⟩
     have HA1:=hh9 (HA0.out.below hbw)
     have HG1:=hh9 (za4 HG0.out hbw)
     clear hbw HA HG HA0 HG0
     have q34:(Z==34)=false:=by simpa using h34
     have q34':(Z != 34)=true:=by simpa using h34
     have HQ:Hid (zb2 (rd s) p=.err 20):=by
      unfold zb2
      rw [if_pos H34.out,HRUN.out.eq,if_neg (by rw [HZ.out];exact h34)]
      exact rfl
     clear h34
     go_wp2_with fail
     refine (yat0 HA1.out hs (by omega) _ HZ.out).mono ?_
     rintro e w5 ⟨rfl,hbw⟩
     have HA5:=hh9 (HA1.out.below hbw)
     have HG5:=hh9 (za4 HG1.out hbw)
     clear hbw
     go_wp2_with fail
     refine (zba HA5.out 20).mono ?_
     rintro e w6 ⟨rfl,ha,hg⟩
     have HA6:=hh9 ha
     have HG6:=hh9 (HG5.out.trans hg)
     obtain ⟨d0,d1,d2,y0,y1,y2⟩:=ha.cells
     clear ha hg
     go_wp2_with fail
     go_ret
     rw [HTX.out]
     exact .inr ⟨HQ.out,_,q+1,by omega,HLOW.out,HLEN.out,rfl,HA6.out.step,zah HG6.out _ _⟩
   ·clear hst2
    have h34:¬ Z=34:=by omega
    go_wp2_with fail
    refine (yat0 HA.out hs (by omega) _ HZ.out).mono ?_
    rintro e w1 ⟨rfl,hbw⟩
    have HA1:=hh9 (HA.out.below hbw)
    have HG1:=hh9 (za4 HG.out hbw)
    clear hbw HA HG
    have q34:(Z==34)=false:=by simpa using h34
    have q34':(Z != 34)=true:=by simpa using h34
    have HQ:Hid (zb2 (rd s) p=.err 20):=by
     unfold zb2
     rw [if_pos H34.out,HRUN.out.eq,if_neg (by rw [HZ.out];exact h34)]
     exact rfl
    clear h34
    go_wp2_with fail
    refine (yat0 HA1.out hs (by omega) _ HZ.out).mono ?_
    rintro e w5 ⟨rfl,hbw⟩
    have HA5:=hh9 (HA1.out.below hbw)
    have HG5:=hh9 (za4 HG1.out hbw)
    clear hbw
    go_wp2_with fail
    refine (zba HA5.out 20).mono ?_
    rintro e w6 ⟨rfl,ha,hg⟩
    have HA6:=hh9 ha
    have HG6:=hh9 (HG5.out.trans hg)
    obtain ⟨d0,d1,d2,y0,y1,y2⟩:=ha.cells
    clear ha hg
    go_wp2_with fail
    go_ret
    rw [HTX.out]
    exact .inr ⟨HQ.out,_,q+1,by omega,HLOW.out,HLEN.out,rfl,HA6.out.step,zah HG6.out _ _⟩
  ·obtain ⟨g1,g2,g3⟩:32<=Z/\Z<127/\Z≠34:=by
    unfold isSt at hst
    simp at hst
    exact ⟨by omega,by omega,hst.2⟩
   have q34:(Z != 34)=true:=by simpa using g3
   have hlt:q<s.size:=zbu (by omega) hZ
   have HNX:Hid (∀ i,p+1<=i->i<q+1->isSt (rd s i)=true):=ze9 (P:=isSt) hall (by rw [hZ];exact hst)
   have HTN:Hid (T++s.extract q (q+1)=s.extract (p+1) (q+1)):=by rw [hT];exact qa3 hpq
   have hT2:T.size<=50000:=by omega
   obtain ⟨m,hm0⟩:∃ m,q+1=m:=⟨_,rfl⟩
   have hm:(q:Int)+1=(m:Int):=by omega
   have hT3:(s.extract q m).size=1:=by rw [ByteArray.size_extract];omega
   have hle:decide ((q:Int)<=(m:Int))=true:=by simp;omega
   have hle2:decide ((m:Int)<=(s.size:Int))=true:=by simp;omega
   have hle3:q<=m:=by omega
   have hle4:m<=s.size:=by omega
   rw [hm0] at HTN HNX
   clear ha hg hZ hT hall hst hTs g3
   go_wp2_with fail
   refine (yat0 HA.out hs (by omega) _ HZ.out).mono ?_
   rintro e w1 ⟨rfl,hbw⟩
   have HA0:=hh9 (HA.out.below hbw)
   have HG0:=hh9 (za4 HG.out hbw)
   clear hbw
   go_wp2_with fail
   refine (yat0 HA0.out hs (by omega) _ HZ.out).mono ?_
   rintro e w2 ⟨rfl,hbw⟩
   have HAb:=hh9 (HA0.out.below hbw)
   have HGb:=hh9 (za4 HG0.out hbw)
   clear hbw
   go_wp2_with fail
   refine (yat0 HAb.out hs (by omega) _ HZ.out).mono ?_
   rintro e w3 ⟨rfl,hbw⟩
   have HA1:=hh9 (HAb.out.below hbw)
   have HG1:=hh9 (za4 HGb.out hbw)
   obtain ⟨d0,d1,d2,y0,y1,y2⟩:=HA1.out.cells
   clear hbw HA HG HA0 HG0 HAb HGb
   go_wp2_with fail
   go_quiet (fail)
   go_wp2_with fail
   go_roundw
   case rel=>exact ⟨_,m,rfl,(HA1.out.drew _).put (by omega),zah (za5 HG1.out _) _ _,by omega,by omega,HTN.out,HNX.out⟩
   case measure =>
    rw [HM.out,((HA1.out.drew _).put (q:=m) (by omega)).pos]
    omega
def OutY (sk:Bool) (s:ByteArray) (d:Nat) (a:Ask) (p:Nat) (t:Tree) (q:Nat) (c:Int):Prop :=
 (c=0/\p<=q/\q<=s.size/\Ans (rd s) a d p (.ok t (if sk then zad (rd s) q else q)))\/(c≠0/\q<=s.size+2+(52-d)/\Ans (rd s) a d p (.err c))
def qb2 (sk:Bool) (R:Nat) (s:ByteArray) (d:Nat) (a:Ask) (p:Nat) (w:World) (e:Ending) (w':World):Prop :=
 ∃ (x:XV) (t:Tree) (q:Nat) (c:Int),TreeAt w' (fun b=>w.heap.size<=b) x t/\GivesY R s x.val q c w e w'/\OutY sk s d a p t q c
def qdo (R:Nat) (s:ByteArray) (p:Nat) (c:Int) (w:World) (e:Ending) (w':World):Prop :=
 ∃ (x:XV) (t:Tree) (q:Nat),TreeAt w' (fun b=>w.heap.size<=b) x t/\q<=p+1/\GivesY R s x.val q c w e w'
def zfq (f:Nat) (sk:Bool) (a:Ask) (k:Nat):Prop:=∀ {R p d:Nat} {s:ByteArray} {w:World},AtY w R s p 0->s.size<=50000->p<=s.size->d<=50->s.size-p<=k ->
 Calls Tryz.prog f #[.pointer (some ⟨R,0,none⟩),.int .i64 d] w (qb2 sk R s d a p w)
theorem AtY.set_row {w:World} {R:Nat} {s:ByteArray} {p:Nat} {c:Int} (h:AtY w R s p c) {g:Nat} (hg:R≠g) (cs:Array Value):AtY (w.setRow g cs) R s p c:=(setRow_other _ _ _ _ hg).trans h
theorem zs3 {w w':World} {base R:Nat} {s:ByteArray} {p:Nat} {c:Int} {v:Value} {l:List Tree} (hk:zbq w base v l) (h:AtY w R s p c) (hg:w.grownBy w' v.ownBlock) (hR:R<base):AtY w' R s p c:=by
 obtain ⟨vs,_,h2,_⟩:=hk
 refine h.kept hg (fun e=>?_)
 rcases zan h2 with ⟨rfl,_⟩ | ⟨g,cap,rfl⟩
 ·simp [Value.ownBlock] at e
 ·have hb:=(zb0 h2).1
  have:=Option.some.inj e
  simp at this
  omega
theorem qa4 {c:Int} (h:c=34\/c=37\/c=40\/c=42\/c=91):isRp c=true:=by rcases h with rfl | rfl | rfl | rfl | rfl<;>decide
theorem zkn {R p:Nat} {c:Int} {s:ByteArray} {w:World} (h:AtY w R s p c) (hs:s.size<=50000) (hp:p<=60000) :
  Calls Tryz.prog 79 #[.pointer (some ⟨R,0,none⟩)] w (zam (isRp (rd s p)) w):=by
 have H:=hh9 h
 clear h
 obtain ⟨Z,hZ⟩:∃ z,rd s p=z:=⟨_,rfl⟩
 have HZ:=hh9 hZ
 rw [hZ]
 clear hZ
 cases ha:isAl Z
 ·cases hd:isDc Z
  ·by_cases hc:Z=34\/Z=37\/Z=40\/Z=42\/Z=91
   ·rw [qa4 hc]
    have HA:=hh9 ha
    have HD:=hh9 hd
    clear ha hd
    rcases hc with rfl | rfl | rfl | rfl | rfl
    all_goals
     go_enter Tryz.func79,Tryz.ntmps79
     go_wp2_with fail
     refine (yat0 H.out hs hp _ HZ.out).mono ?_
     rintro e w1 ⟨rfl,hb⟩
     have HB:=hh9 hb
     clear hb
     go_wp2_with fail
     refine (zby _ _).mono ?_
     rw [HA.out]
     rintro e w' ⟨rfl,rfl⟩
     go_wp2_with fail
     refine (zc8 _ _).mono ?_
     rw [HD.out]
     rintro e w' ⟨rfl,rfl⟩
     go_wp2
     go_ret
     exact ⟨rfl,HB.out⟩
   ·have e1:(Z==34)=false:=by simp;omega
    have e2:(Z==37)=false:=by simp;omega
    have e3:(Z==40)=false:=by simp;omega
    have e4:(Z==42)=false:=by simp;omega
    have e5:(Z==91)=false:=by simp;omega
    rw [zvk ha hd (by omega) (by omega) (by omega) (by omega) (by omega)]
    have HA:=hh9 ha
    have HD:=hh9 hd
    clear ha hd hc
    go_enter Tryz.func79,Tryz.ntmps79
    go_wp2_with fail
    refine (yat0 H.out hs hp _ HZ.out).mono ?_
    rintro e w1 ⟨rfl,hb⟩
    have HB:=hh9 hb
    clear hb
    go_wp2_with fail
    refine (zby _ _).mono ?_
    rw [HA.out]
    rintro e w' ⟨rfl,rfl⟩
    go_wp2_with fail
    refine (zc8 _ _).mono ?_
    rw [HD.out]
    rintro e w' ⟨rfl,rfl⟩
    go_wp2
    go_ret
    exact ⟨rfl,HB.out⟩
  ·rw [show isRp Z=true by unfold isRp;simp [hd]]
   have HA:=hh9 ha
   have HD:=hh9 hd
   clear ha hd
   go_enter Tryz.func79,Tryz.ntmps79
   go_wp2_with fail
   refine (yat0 H.out hs hp _ HZ.out).mono ?_
   rintro e w1 ⟨rfl,hb⟩
   have HB:=hh9 hb
   clear hb
   go_wp2_with fail
   refine (zby _ _).mono ?_
   rw [HA.out]
   rintro e w' ⟨rfl,rfl⟩
   go_wp2_with fail
   refine (zc8 _ _).mono ?_
   rw [HD.out]
   rintro e w' ⟨rfl,rfl⟩
   go_wp2
   go_ret
   exact ⟨rfl,HB.out⟩
 ·rw [show isRp Z=true by unfold isRp;simp [ha]]
  have HA:=hh9 ha
  clear ha
  go_enter Tryz.func79,Tryz.ntmps79
  go_wp2_with fail
  refine (yat0 H.out hs hp _ HZ.out).mono ?_
  rintro e w1 ⟨rfl,hb⟩
  have HB:=hh9 hb
  clear hb
  go_wp2_with fail
  refine (zby _ _).mono ?_
  rw [HA.out]
  rintro e w' ⟨rfl,rfl⟩
  go_wp2
  go_ret
  exact ⟨rfl,HB.out⟩
def zts (R n:Nat) (w:World):Nat:=match w.cell? ⟨R,2,none⟩ with | some (.int _ c)=>(if c=0 then n+1-zf4 R w else 0) | _=>0
theorem AtY.meas {w:World} {R:Nat} {s:ByteArray} {p:Nat} {c:Int} (h:AtY w R s p c) (n:Nat):zts R n w=if c=0 then n+1-p else 0:=by
 unfold zts
 rw [h.cells.2.2.1,h.pos]
def qb3 (R:Nat) (s:ByteArray) (p d:Nat) (w wr:World) (v:Value) (q:Nat) (c:Int) (l:List Tree):Prop :=
 zbq wr (w.heap.size+1) v l/\0<l.length/\AtY wr R s q c/\w.grownBy wr (some R)/\Res0 wr w.heap.size /\
  ((c=0/\p<=q/\q<=s.size/\l.length<=q+1/\∀ r,Ans (rd s) (.concMore l) d q r->Ans (rd s) .conc d p r)\/(c≠0/\q<=s.size+2+(52-d)/\l.length<=s.size+2/\Ans (rd s) .conc d p (.err c)))
theorem zcs {R:Nat} {s:ByteArray} {sk:Bool} {a:Ask} {p d q:Nat} {c:Int} {w W:World} {t:Tree} {x:XV} (ht:TreeAt W (fun b=>w.heap.size+1<=b) x t) (ha:AtY W R s q c) (hg:w.grownBy W (some R)) (hR:R<w.heap.size)
  (ho:OutY sk s d a p t q c):qb2 sk R s d a p w (.returned x.val) (W.setRow w.heap.size x.arr) :=
 ⟨x,t,q,c,(ht.set_row (fun b hb=>by omega) _).weak (fun b hb _=>by omega),⟨rfl,ha.set_row (by omega) _,zae hg (Nat.le_refl _) _⟩,ho⟩
theorem zp4 {k:Nat} (hel:zfq 78 false .rep k):zfq 59 true .conc k:=by
 intro R p d s w h hs hp hd hk
 have hR:=h.lt
 have HR:=hh9 (zav w)
 have HA:=hh9 (h.alloc (.cells #[.int .i64 0,.string ⟨#[]⟩,.slice none 0 0,.int .i64 0,.int .i64 0,.slice none 0 0] 35))
 have HG:=hh9 (World.grownBy_alloc w (.cells #[.int .i64 0,.string ⟨#[]⟩,.slice none 0 0,.int .i64 0,.int .i64 0,.slice none 0 0] 35) (some R))
 have HEL:Hid (zfq 78 false .rep k):=@hel
 clear h hel
 go_enter Tryz.func59,Tryz.ntmps59
 go_wp2_with fail
 refine (HEL.out HA.out hs hp hd (by omega)).mono ?_
 rintro e w1 ⟨x,t,q,c,ht,⟨rfl,ha,hg⟩,hout⟩
 obtain ⟨h2,h5⟩:x.ns.oneCell'=true/\x.ks.oneCell'=true:=⟨zaa ht,zab ht⟩
 have H2:=hh9 h2
 have H5:=hh9 h5
 have hz1:w.heap.size+1<=w1.heap.size:=by have:=hg.size;simp at this;omega
 have ht1:TreeAt w1 (fun b=>w.heap.size+1<=b) x t:=ht.weak (fun b hb _=>by simp at hb;omega)
 have H0:Hid (qb3 R s p d w (w1.alloc (.cells x.arr 35)) (.slice (some ⟨w1.heap.size,0,none⟩) 1 1) q c [t]):=by
  refine ⟨zbq.one ht1 (Nat.le_refl _) hz1 (heap_alloc_new w1 _) (fun b _ hl=>heap_alloc_old _ _ hl) (by simp),by simp,ha.alloc _,zao (HG.out.trans hg) _,zaz (za8 HR.out hg (by omega)) _,?_⟩
  rcases hout with ⟨rfl,hpq,hqs,hans⟩ | ⟨hc,hqb,hans⟩
  ·exact .inl ⟨rfl,hpq,hqs,by simp,fun r hr=>.concOk hans hr⟩
  ·exact .inr ⟨hc,hqb,by simp,.concErr hans⟩
 clear ha hg h2 h5 ht ht1 HR HA HG hout
 go_wp2_with (refine zbc rfl _ rfl x rfl H2.out H5.out ?_)
 clear H2 H5
 go_loopw [5] (fun v wr=>∃ (q:Nat) (c:Int) (l:List Tree),Hid (qb3 R s p d w wr v q c l)) (fun _ wr=>zts R s.size wr)
 case atStart=>exact ⟨q,c,[t],H0⟩
 case round =>
  clear H0 hz1
  obtain ⟨q,c,l,HI⟩:=hrel
  obtain ⟨hk0,hl0,ha,hg,hres,hst⟩:=HI.out
  have HA:=hh9 ha
  have HG:=hh9 hg
  have HRES:=hh9 hres
  have HK:=hh9 hk0
  have HM:=hh9 (ha.meas s.size)
  have hz:w.heap.size+1<=wr.heap.size:=by have:=hres.lt;omega
  obtain ⟨c0,c1,c2,z0,z1,z2⟩:=ha.cells
  clear ha hg hres hk0
  rcases hst with ⟨rfl,hpq,hqs,hlq,hall⟩ | ⟨hc,hqb,hlb,hans⟩
  ·have HALL:=hh9 hall
   clear hall
   obtain ⟨q1,hq1⟩:∃ q1,q1=zad (rd s) q:=⟨_,rfl⟩
   obtain ⟨hsk0,hle1,hls1⟩:=zdo hqs
   rw [<- hq1] at hsk0 hle1 hls1
   have HSK:=hh9 hsk0
   have HQ1:=hh9 hq1
   clear hsk0 hq1
   go_wp2_with fail
   refine (zfd HA.out hs hqs).mono ?_
   rintro e w2 ⟨q2,hsk,hle,hls,rfl,ha,hg⟩
   obtain rfl:q2=q1:=hsk.one HSK.out
   have HA2:=hh9 ha
   have HG2:=hh9 (HG.out.trans hg)
   have HK2:=hh9 (HK.out.grown hg (by omega))
   have HRES2:=hh9 (za8 HRES.out hg (by omega))
   have hz2:w.heap.size+1<=w2.heap.size:=by have:=hg.size;omega
   clear hsk ha hg HA HG HK HRES c0 c1 c2 z0 z1 z2
   by_cases hlt:q<q2
   ·have hb1:decide (q<q2)=true:=decide_eq_true hlt
    cases hrp:isRp (rd s q2)
    ·have HRP:=hh9 hrp
     have HO:Hid (OutY true s d .conc p (zgq 2 l) q 0):=.inl ⟨rfl,hpq,hqs,HALL.out _ (Ans.cmoreEnd (f:=rd s) (d:=d) (p:=q) (l:=l) (by rw [<- HQ1.out,hrp];simp))⟩
     clear hrp
     rw [hb1]
     go_wp2_with fail
     refine (zkn HA2.out hs (by omega)).mono ?_
     rw [HRP.out]
     rintro e w3 ⟨rfl,hb⟩
     have HA3:=hh9 (HA2.out.below hb)
     obtain ⟨d0,d1,d2,y0,y1,y2⟩:=HA3.out.cells
     have HA:=hh9 (HA3.out.put (x:=(q:Int)) (q:=q) rfl)
     have HG:=hh9 (zah (za4 HG2.out hb) 1 (.int .i64 (q:Int)))
     have HK:=hh9 ((HK2.out.below hb).grown (zah (zak w3 (some R)) 1 (.int .i64 (q:Int))) (by omega))
     have HRES:=hh9 (za8 (HRES2.out.kept (hb.block _ HRES2.out.lt)) (zah (zak w3 (some R)) 1 (.int .i64 (q:Int))) (by omega))
     clear hb HA2 HG2 HK2 HRES2
     by_cases hone:∃ t1,l=[t1]
     ·obtain ⟨t1,rfl⟩:=hone
      obtain ⟨vs,hl,hr,ht⟩:=HK.out
      obtain ⟨x,rfl⟩:∃ x,vs=[x]:=by
       match vs,hl with
       | [x],_=>exact ⟨x,rfl⟩
      have hx:=(ht 0 x t1 rfl rfl).weak (P':=fun b=>w.heap.size+1<=b) (fun b hP _=>hP.1)
      obtain ⟨g,cap,rfl⟩:=(zan hr).resolve_left (fun h=>by cases h.2)
      have e0:=zaq hr (j:=0) rfl
      have e1:=zaq hr (j:=1) rfl
      have e2:=zaq hr (j:=2) rfl
      have e3:=zaq hr (j:=3) rfl
      have e4:=zaq hr (j:=4) rfl
      have e5:=zaq hr (j:=5) rfl
      obtain ⟨hbg,hcap,hmax,hg⟩:=zb0 hr
      have HT:=hh9 hx
      obtain ⟨x0,x1,x2,x3,x4,x5⟩:=x
      have HS2:Hid (Value.oneCell' x2=true):=zaa HT.out
      have HS5:Hid (Value.oneCell' x5=true):=zab HT.out
      have HO1:=hh9 (HO.out)
      clear hr ht hx hl HK
      go_wp2_with (refine za6 rfl _ _ rfl w.heap.size ⟨x0,x1,x2,x3,x4,x5⟩ rfl rfl HRES.out HS2.out HS5.out ?_)
      exact bodyPost_ret_by (zaj rfl _ _ w.heap.size ⟨x0,x1,x2,x3,x4,x5⟩ rfl HRES.out) rfl (zcs HT.out HA.out HG.out hR HO1.out)
     ·have hn:l.length≠1:=fun h=>hone (by
       match l,h with
       | [t1],_=>exact ⟨t1,rfl⟩)
      have HT:=hh9 (HK.out.tree 2 0 0)
      have HO1:=hh9 (HO.out)
      rw [zee _ hn] at HO1
      obtain ⟨vs,hl,hr,ht⟩:=HK.out
      obtain ⟨n,hln⟩:∃ n,n=l.length:=⟨_,rfl⟩
      have hq:decide ((n:Int)=1)=false:=zlk (by omega)
      have hq2:((n:Int)==1)=false:=by simp;omega
      have hn2:n<=60000:=by omega
      obtain ⟨g,cap,rfl⟩:=(zan hr).resolve_left (fun h=>by omega)
      rw [<- hln] at HT ⊢
      clear hr ht hl hone hn hln HK
      go_wp2_with (refine za6 rfl _ _ rfl w.heap.size ⟨2,⟨#[]⟩,.slice none 0 0,0,0,.slice (some ⟨g,0,none⟩) n cap⟩ rfl rfl HRES.out rfl rfl ?_)
      exact bodyPost_ret_by (zaj rfl _ _ w.heap.size ⟨2,⟨#[]⟩,.slice none 0 0,0,0,.slice (some ⟨g,0,none⟩) n cap⟩ rfl HRES.out) rfl (zcs HT.out HA.out HG.out hR HO1.out)
    ·have HRP:=hh9 hrp
     have HC:Hid (q<zad (rd s) q/\isRp (rd s (zad (rd s) q))=true):=by rw [<- HQ1.out];exact ⟨hlt,hrp⟩
     clear hrp
     rw [hb1]
     go_wp2_with fail
     refine (zkn HA2.out hs (by omega)).mono ?_
     rw [HRP.out]
     rintro e w3 ⟨rfl,hb⟩
     have HA3:=hh9 (HA2.out.below hb)
     have HG3:=hh9 (za4 HG2.out hb)
     have HK3:=hh9 (HK2.out.below hb)
     have HRES3:=hh9 (HRES2.out.kept (hb.block _ HRES2.out.lt))
     have hz3:w.heap.size+1<=w3.heap.size:=by have:=hb.size;omega
     clear hb HA2 HG2 HK2 HRES2
     go_wp2_with fail
     refine (HEL.out HA3.out hs hls hd (by omega)).mono ?_
     rintro e w4 ⟨x,t,q3,c3,ht,⟨rfl,ha,hg⟩,hout⟩
     have h2:=zaa ht
     have h5:=zab ht
     have H2:=hh9 h2
     have H5:=hh9 h5
     have hz4:w.heap.size+1<=w4.heap.size:=by have:=hg.size;exact Nat.le_trans hz3 this
     have HK4:=hh9 ((HK3.out.grown hg (by omega)).below ((Below.refl w4.heap.size w4).alloc (Nat.le_refl _) (.cells x.arr 35)))
     have HT4:=hh9 ((ziz HK3.out ht hz3).under ((Below.refl w4.heap.size w4).alloc (Nat.le_refl _) (.cells x.arr 35)))
     have HA4:=hh9 (ha.alloc (.cells x.arr 35))
     have HG4:=hh9 (zao (HG3.out.trans hg) (.cells x.arr 35))
     have HR4:=hh9 (zaz (za8 HRES3.out hg (by omega)) (.cells x.arr 35))
     have HST:Hid ((c3=0->q<q3)/\((c3=0/\p<=q3/\q3<=s.size/\(l++[t]).length<=q3+1/\∀ r,Ans (rd s) (.concMore (l++[t])) d q3 r->Ans (rd s) .conc d p r)\/(c3≠0/\q3<=s.size+2+(52-d)/\(l++[t]).length<=s.size+2/\Ans (rd s) .conc d p (.err c3)))):=by
      rcases hout with ⟨rfl,hb3,hqs3,hans⟩ | ⟨hc,hqb,hans⟩
      ·refine ⟨fun _=>by omega,.inl ⟨rfl,by omega,hqs3,by simp;omega,fun r hr=>HALL.out r (.cmoreOk HC.out (by rw [<- HQ1.out];exact hans) hr)⟩⟩
      ·exact ⟨fun g=>absurd g hc,.inr ⟨hc,hqb,by simp;omega,HALL.out _ (.cmoreErr HC.out (by rw [<- HQ1.out];exact hans))⟩⟩
     clear ha hg ht HK3 HA3 HG3 HRES3 h2 h5 hout
     go_wp2_with (first
      | (refine zbc rfl _ rfl x rfl H2.out H5.out ?_)
      | (at_builtin;go_loud (refine zh3 rfl _ _ rfl (w.heap.size+1) _ l t x w4.heap.size rfl rfl HK4.out HT4.out (heap_alloc_new w4 _) ?c1 ?c2 ?_)))
     case c1=>omega
     case c2=>simp;omega
     intro v' w5 hk5 hgrow
     have HK5:=hh9 hk5
     have HA5:=hh9 (zs3 HK4.out HA4.out hgrow (by omega))
     have HG5:=hh9 (zgc HK4.out HG4.out hgrow (by omega))
     have HR5:=hh9 (ziy HK4.out HR4.out hgrow (by omega))
     clear hk5 hgrow HK4 HA4 HG4 HR4 HT4 H2 H5
     go_wp2_with fail
     go_roundw
     case rel=>exact ⟨q3,c3,l++[t],HK5.out,by simp,HA5.out,HG5.out,HR5.out,HST.out.2⟩
     case measure =>
      rw [HM.out,HA5.out.meas]
      simp only [if_true]
      have:=HST.out.1
      split
      ·rename_i g
       have:=this g
       omega
      ·omega
   ·have hb1:decide (q<q2)=false:=decide_eq_false hlt
    have HO:Hid (OutY true s d .conc p (zgq 2 l) q 0):=.inl ⟨rfl,hpq,hqs,HALL.out _ (Ans.cmoreEnd (f:=rd s) (d:=d) (p:=q) (l:=l) (by rw [<- HQ1.out];exact fun h=>hlt h.1))⟩
    obtain ⟨d0,d1,d2,y0,y1,y2⟩:=HA2.out.cells
    have HA:=hh9 (HA2.out.put (x:=(q:Int)) (q:=q) rfl)
    have HG:=hh9 (zah HG2.out 1 (.int .i64 (q:Int)))
    have HK:=hh9 (HK2.out.grown (zah (zak w2 (some R)) 1 (.int .i64 (q:Int))) (by omega))
    have HRES:=hh9 (za8 HRES2.out (zah (zak w2 (some R)) 1 (.int .i64 (q:Int))) (by omega))
    rw [hb1]
    clear HA2 HG2 HK2 HRES2
    by_cases hone:∃ t1,l=[t1]
    ·obtain ⟨t1,rfl⟩:=hone
     obtain ⟨vs,hl,hr,ht⟩:=HK.out
     obtain ⟨x,rfl⟩:∃ x,vs=[x]:=by
      match vs,hl with
      | [x],_=>exact ⟨x,rfl⟩
     have hx:=(ht 0 x t1 rfl rfl).weak (P':=fun b=>w.heap.size+1<=b) (fun b hP _=>hP.1)
     obtain ⟨g,cap,rfl⟩:=(zan hr).resolve_left (fun h=>by cases h.2)
     have e0:=zaq hr (j:=0) rfl
     have e1:=zaq hr (j:=1) rfl
     have e2:=zaq hr (j:=2) rfl
     have e3:=zaq hr (j:=3) rfl
     have e4:=zaq hr (j:=4) rfl
     have e5:=zaq hr (j:=5) rfl
     obtain ⟨hbg,hcap,hmax,hg⟩:=zb0 hr
     have HT:=hh9 hx
     obtain ⟨x0,x1,x2,x3,x4,x5⟩:=x
     have HS2:Hid (Value.oneCell' x2=true):=zaa HT.out
     have HS5:Hid (Value.oneCell' x5=true):=zab HT.out
     have HO1:=hh9 (HO.out)
     clear hr ht hx hl HK
     go_wp2_with (refine za6 rfl _ _ rfl w.heap.size ⟨x0,x1,x2,x3,x4,x5⟩ rfl rfl HRES.out HS2.out HS5.out ?_)
     exact bodyPost_ret_by (zaj rfl _ _ w.heap.size ⟨x0,x1,x2,x3,x4,x5⟩ rfl HRES.out) rfl (zcs HT.out HA.out HG.out hR HO1.out)
    ·have hn:l.length≠1:=fun h=>hone (by
      match l,h with
      | [t1],_=>exact ⟨t1,rfl⟩)
     have HT:=hh9 (HK.out.tree 2 0 0)
     have HO1:=hh9 (HO.out)
     rw [zee _ hn] at HO1
     obtain ⟨vs,hl,hr,ht⟩:=HK.out
     obtain ⟨n,hln⟩:∃ n,n=l.length:=⟨_,rfl⟩
     have hq:decide ((n:Int)=1)=false:=zlk (by omega)
     have hq2:((n:Int)==1)=false:=by simp;omega
     have hn2:n<=60000:=by omega
     obtain ⟨g,cap,rfl⟩:=(zan hr).resolve_left (fun h=>by omega)
     rw [<- hln] at HT ⊢
     clear hr ht hl hone hn hln HK
     go_wp2_with (refine za6 rfl _ _ rfl w.heap.size ⟨2,⟨#[]⟩,.slice none 0 0,0,0,.slice (some ⟨g,0,none⟩) n cap⟩ rfl rfl HRES.out rfl rfl ?_)
     exact bodyPost_ret_by (zaj rfl _ _ w.heap.size ⟨2,⟨#[]⟩,.slice none 0 0,0,0,.slice (some ⟨g,0,none⟩) n cap⟩ rfl HRES.out) rfl (zcs HT.out HA.out HG.out hR HO1.out)
  ·have HO:Hid (OutY true s d .conc p (zgq 2 l) q c):=.inr ⟨hc,hqb,hans⟩
   have qc:(c==0)=false:=by simpa using hc
   clear hans HI
   by_cases hone:∃ t1,l=[t1]
   ·obtain ⟨t1,rfl⟩:=hone
    obtain ⟨vs,hl,hr,ht⟩:=HK.out
    obtain ⟨x,rfl⟩:∃ x,vs=[x]:=by
     match vs,hl with
     | [x],_=>exact ⟨x,rfl⟩
    have hx:=(ht 0 x t1 rfl rfl).weak (P':=fun b=>w.heap.size+1<=b) (fun b hP _=>hP.1)
    obtain ⟨g,cap,rfl⟩:=(zan hr).resolve_left (fun h=>by cases h.2)
    have e0:=zaq hr (j:=0) rfl
    have e1:=zaq hr (j:=1) rfl
    have e2:=zaq hr (j:=2) rfl
    have e3:=zaq hr (j:=3) rfl
    have e4:=zaq hr (j:=4) rfl
    have e5:=zaq hr (j:=5) rfl
    obtain ⟨hbg,hcap,hmax,hg⟩:=zb0 hr
    have HT:=hh9 hx
    obtain ⟨x0,x1,x2,x3,x4,x5⟩:=x
    have HS2:Hid (Value.oneCell' x2=true):=zaa HT.out
    have HS5:Hid (Value.oneCell' x5=true):=zab HT.out
    have HO1:=hh9 (HO.out)
    clear hr ht hx hl HK
    go_wp2_with (refine za6 rfl _ _ rfl w.heap.size ⟨x0,x1,x2,x3,x4,x5⟩ rfl rfl HRES.out HS2.out HS5.out ?_)
    exact bodyPost_ret_by (zaj rfl _ _ w.heap.size ⟨x0,x1,x2,x3,x4,x5⟩ rfl HRES.out) rfl (zcs HT.out HA.out HG.out hR HO1.out)
   ·have hn:l.length≠1:=fun h=>hone (by
     match l,h with
     | [t1],_=>exact ⟨t1,rfl⟩)
    have HT:=hh9 (HK.out.tree 2 0 0)
    have HO1:=hh9 (HO.out)
    rw [zee _ hn] at HO1
    obtain ⟨vs,hl,hr,ht⟩:=HK.out
    obtain ⟨n,hln⟩:∃ n,n=l.length:=⟨_,rfl⟩
    have hq:decide ((n:Int)=1)=false:=zlk (by omega)
    have hq2:((n:Int)==1)=false:=by simp;omega
    have hn2:n<=60000:=by omega
    obtain ⟨g,cap,rfl⟩:=(zan hr).resolve_left (fun h=>by omega)
    rw [<- hln] at HT ⊢
    clear hr ht hl hone hn hln HK
    go_wp2_with (refine za6 rfl _ _ rfl w.heap.size ⟨2,⟨#[]⟩,.slice none 0 0,0,0,.slice (some ⟨g,0,none⟩) n cap⟩ rfl rfl HRES.out rfl rfl ?_)
    exact bodyPost_ret_by (zaj rfl _ _ w.heap.size ⟨2,⟨#[]⟩,.slice none 0 0,0,0,.slice (some ⟨g,0,none⟩) n cap⟩ rfl HRES.out) rfl (zcs HT.out HA.out HG.out hR HO1.out)
end Go.Proofs.YtekjnfldgjcgeaaGreatDoor
