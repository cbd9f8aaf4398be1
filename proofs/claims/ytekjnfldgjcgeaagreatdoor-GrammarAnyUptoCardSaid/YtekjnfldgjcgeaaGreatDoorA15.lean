/- Part 15 of what the laws of the grammar rest on. -/
import Derived.Test.YtekjnfldgjcgeaaGreatDoorA13
import Derived.Test.YtekjnfldgjcgeaaGreatDoorA14
import Derived.Shelf.Strings.OnBuilder
import Derived.Shelf.LaysM
import Derived.Shelf.Strconv.Itoa3
import Derived.Test.YtekjnfldgjcgeaaGreatDoorProg
import Derived.Laws.Tables
import Derived.Laws.NewBlocks
import Derived.Laws.CopyOwn
import Derived.OwnWalk
import Derived.Laws.OwnMore
set_option linter.all false
set_option maxRecDepth 100000
set_option maxHeartbeats 8000000
namespace Go.Proofs.YtekjnfldgjcgeaaGreatDoor
open Go.RowKit
def GivesGot {α:Type} (mk:α->Value) (R:Nat) (s:ByteArray) (d:Nat) (g:Got α) (w:World) (e:Ending) (w':World):Prop :=
 match g with
 | .ok x q=>q<=s.size/\zob R s d (mk x) q w e w'
 | .err c=>zq4 R c w e w'
def InNum (b lim:Int) (R:Nat) (s:ByteArray) (p d:Nat) (w wr:World) (v:Value) (q:Nat):Prop :=
 At wr R s q d/\w.grownBy wr (some R)/\p<=q/\q<=s.size/\(∀ i,p<=i->i<q->isDg b (rd s i)=true)/\v=.int .i64 (zel lim (val b (rd s) p (q-p)))
theorem zc6 {R p d:Nat} {s:ByteArray} {w:World} (b lim:Int) (hb:b=2\/b=10\/b=16) (hl:0<=lim) (hl2:lim<=2000000) (h:At w R s p d) (hs:s.size<=50000) (hp:p<=s.size) :
  Calls Tryz.prog 185 #[.pointer (some ⟨R,0,none⟩),.int .i64 b,.int .i64 lim] w (GivesGot (fun v=>.int .i64 v) R s d (zbl b lim (rd s) p) w):=by
 have hb16:b<=16:=by omega
 have hb2:2<=b:=by omega
 have H:=hh9 h
 have HBB:=hh9 hb
 have hr:=zcu s p
 clear h hb
 cases hd:isDg b (rd s p)
 ·have HD:=hh9 ((zmv hb16).trans hd)
  rw [zhx hd]
  clear hd
  go_enter Tryz.func185,Tryz.ntmps185
  go_wp2_with fail
  refine (zag H.out hs hp).mono ?_
  rintro e w' ⟨rfl,n,rfl⟩
  go_wp2_with fail
  refine (zdp _ _ hr.1 hr.2 _).mono ?_
  rw [HD.out]
  rintro e w' ⟨rfl,rfl⟩
  go_wp2_with fail
  refine (zea _ _).mono ?_
  rintro e w2 ⟨rfl,rfl⟩
  go_wp2_with fail
  exact ⟨rfl,rfl,za5 (zak _ _) n⟩
 ·have HD:=hh9 ((zmv hb16).trans hd)
  have HD0:=hh9 hd
  clear hd
  go_enter Tryz.func185,Tryz.ntmps185
  go_wp2_with fail
  refine (zag H.out hs hp).mono ?_
  rintro e w' ⟨rfl,n,rfl⟩
  go_wp2_with fail
  refine (zdp _ _ hr.1 hr.2 _).mono ?_
  rw [HD.out]
  rintro e w' ⟨rfl,rfl⟩
  go_wp2_with fail
  go_loopw [7] (fun v wr=>∃ q:Nat,InNum b lim R s p d w wr v q) (fun _ wr=>s.size-zf4 R wr)
  case atStart=>exact ⟨p,H.out.drew n,za5 (zak _ _) n,Nat.le_refl _,hp,fun i h1 h2=>absurd h1 (by omega),by rw [Nat.sub_self];unfold val zel;simp;omega⟩
  case round =>
   obtain ⟨q,ha,hg,hpq,hqs,hall,rfl⟩:=hrel
   have HA:=hh9 ha
   have HG:=hh9 hg
   have HL:=hh9 hall
   have HM:=hh9 ha.pos
   have hv:=zg1 hb2 (rd s) p (q-p)
   have hc:=zo6 hl hv
   have hq:=zcu s q
   obtain ⟨c0,c1,c2,z0,z1,z2⟩:=ha.cells
   clear ha hg hall
   obtain ⟨V,hV⟩:∃ x,x=val b (rd s) p (q-p):=⟨_,rfl⟩
   rw [<- hV] at hv hc ⊢
   obtain ⟨C,hC⟩:∃ x,x=zel lim V:=⟨_,rfl⟩
   rw [<- hC] at hc ⊢
   have HV:=hh9 hV
   have HC:=hh9 hC
   clear hV hC
   cases hd:isDg b (rd s q)
   ·have HD2:=hh9 ((zmv hb16).trans hd)
    have hrun:IsRun (isDg b) (rd s) p q:=⟨hpq,HL.out,hd⟩
    have hlt:p<q:=by
     by_cases g:p<q
     ·exact g
     ·obtain rfl:p=q:=by omega
      rw [HD0.out] at hd
      cases hd
    have HR:=hh9 (zjy (lim:=lim) hrun hlt)
    clear hd hrun
    rw [<- HV.out] at HR
    by_cases hov:lim<V
    ·have HE:Hid (zbl b lim (rd s) p=.err 2):=by rw [HR.out,if_pos hov];exact rfl
     have hCv:lim<C:=by rw [HC.out];unfold zel;omega
     go_wp2_with fail
     refine (zag HA.out hs hqs).mono ?_
     rintro e w' ⟨rfl,n,rfl⟩
     go_wp2_with fail
     refine (zdp _ _ hq.1 hq.2 _).mono ?_
     rw [HD2.out]
     rintro e w' ⟨rfl,rfl⟩
     go_wp2_with fail
     refine (zea _ _).mono ?_
     rintro e w2 ⟨rfl,rfl⟩
     go_wp2_with fail
     rw [HE.out]
     exact ⟨rfl,rfl,za5 HG.out n⟩
    ·have HE:Hid (zbl b lim (rd s) p=.ok V q):=by rw [HR.out,if_neg hov];exact rfl
     have hCv:C<=lim:=by rw [HC.out];unfold zel;omega
     have HCV:Hid (C=V):=by rw [HC.out];unfold zel;exact (by omega:min V (lim+1)=V)
     go_wp2_with fail
     refine (zag HA.out hs hqs).mono ?_
     rintro e w' ⟨rfl,n,rfl⟩
     go_wp2_with fail
     refine (zdp _ _ hq.1 hq.2 _).mono ?_
     rw [HD2.out]
     rintro e w' ⟨rfl,rfl⟩
     go_wp2_with fail
     go_ret
     rw [HE.out]
     exact ⟨hqs,zbw HCV.out,HA.out.drew n,za5 HG.out n⟩
   ·have HD2:=hh9 ((zmv hb16).trans hd)
    have hlt:=zvn hb16 hd
    have hx:=zjv (nx (rd s) q)
    have hm0:0<=C*b:=Int.mul_nonneg hc.1 (by omega)
    have hm1:C*b<=40000000:=by rcases HBB.out with g | g | g<;>rw [g]<;>omega
    have HDall:=hh9 (ze9 (P:=isDg b) HL.out hd)
    have HST:Hid (min (C*b+dig (nx (rd s) q)) (lim+1)=zel lim (val b (rd s) p (q+1-p))):=by
     have e1:q+1-p=(q-p)+1:=by omega
     have e2:p+(q-p)=q:=by omega
     have hs2:=zpz (v:=V) HBB.out hl hv hx.1
     rw [HC.out,hs2,e1]
     show zel lim (V*b+dig (nx (rd s) q))=zel lim (val b (rd s) p (q-p)*b+dig (rd s (p+(q-p))))
     rw [e2,HV.out,qdd]
    clear hd
    go_wp2_with fail
    refine (zag HA.out hs hqs).mono ?_
    rintro e w' ⟨rfl,n,rfl⟩
    go_wp2_with fail
    refine (zdp _ _ hq.1 hq.2 _).mono ?_
    rw [HD2.out]
    rintro e w' ⟨rfl,rfl⟩
    go_wp2_with fail
    refine (zag (HA.out.drew n) hs hqs).mono ?_
    rintro e w' ⟨rfl,n2,rfl⟩
    go_wp2_with fail
    refine (zoc _ hq.1 hq.2 _).mono ?_
    rintro e w' ⟨rfl,rfl⟩
    go_wp2_with fail
    go_roundw
    case rel=>exact ⟨q+1,(HA.out.drew _).step,zah (za5 HG.out _) _ _,by omega,by omega,HDall.out,by rw [<- HST.out]<;>exact zvo (by rw [show min (C*b+dig (nx (rd s) q)) (lim+1)=if C*b+dig (nx (rd s) q)<=lim+1 then C*b+dig (nx (rd s) q) else lim+1 from rfl]<;>split<;>split<;>omega)⟩
    case measure =>
     rw [HM.out,(HA.out.drew _).step.pos]
     omega
theorem ze0 {α:Type} {mk:α->Value} {R q d:Nat} {s:ByteArray} {g:Got α} {x:α} {v:Value} {w w':World} (hg:g=.ok x q) (hq:q<=s.size) (hv:v=mk x) (ha:At w' R s q d) (hgr:w.grownBy w' (some R)) :
  GivesGot mk R s d g w (.returned v) w':=by
 subst hg hv
 exact ⟨hq,rfl,ha,hgr⟩
theorem zf9 {α:Type} {mk:α->Value} {R d:Nat} {s:ByteArray} {g:Got α} {c:Int} {w w':World} (hg:g=.err c) (hgr:w.grownBy w' (some R)) :
  GivesGot mk R s d g w (.panicked [{ v:=.iface 127 (.agg #[.int .i64 c]),recovered:=false }]) w':=by
 subst hg
 exact ⟨rfl,hgr⟩
theorem zlv {R p d:Nat} {s:ByteArray} {w:World} (h:At w R s p d) (hs:s.size<=50000) (hp:p<=s.size) :
  Calls Tryz.prog 182 #[.pointer (some ⟨R,0,none⟩)] w (GivesGot cval R s d (countAt (rd s) p) w):=by
 have H:=hh9 h
 have hr:=zcu s p
 clear h
 cases hd:isDc (rd s p)
 ·have HD:=hh9 (zhy.trans hd)
  have HF:Hid ((if isDc (rd s p) then zbl 10 200 (rd s) p else .ok (-1) p)=.ok (-1) p):=by rw [hd];exact rfl
  clear hd
  go_enter Tryz.func182,Tryz.ntmps182
  go_wp2_with fail
  refine (zag H.out hs hp).mono ?_
  rintro e w1 ⟨rfl,n,rfl⟩
  go_wp2_with fail
  refine (zbh _ hr.1 hr.2 _).mono ?_
  rw [HD.out]
  rintro e w1 ⟨rfl,rfl⟩
  have HA:=hh9 (H.out.drew n)
  have HG:Hid (w.grownBy (w.drewN n) (some R)):=za5 (zak _ _) n
  obtain ⟨q,hq⟩:∃ q,q=p:=⟨_,rfl⟩
  have HF:Hid ((if isDc (rd s p) then zbl 10 200 (rd s) p else .ok (-1) p)=.ok (-1) q):=by rw [hq];exact HF
  rw [<- hq] at HA
  have hqs:q<=s.size:=by omega
  clear hr hq
  by_cases h42:rd s q=42
  ·have H42:=hh9 h42
   have hlt:=zbu (by omega) h42
   clear h42
   go_wp2_with fail
   refine (zca HA.out hs 42 (by omega) H42.out).mono ?_
   rintro e w2 ⟨rfl,ha,hg⟩
   have HA2:=hh9 ha
   have HG2:=hh9 (HG.out.trans hg)
   have hr2:=zcu s (q+1)
   clear ha hg HA HG
   cases hd2:isDc (rd s (q+1))
   ·have HD2:=hh9 (zhy.trans hd2)
    have HE:Hid (countAt (rd s) p=.ok (max (-1) 0,-1,true) (q+1)):=zf6 HF.out H42.out (by rw [hd2];rfl)
    clear hd2
    go_wp2_with fail
    refine (zag HA2.out hs (by omega)).mono ?_
    rintro e w3 ⟨rfl,n3,rfl⟩
    go_wp2_with fail
    refine (zbh _ hr2.1 hr2.2 _).mono ?_
    rw [HD2.out]
    rintro e w3 ⟨rfl,rfl⟩
    go_wp2_with fail
    go_ret3
    exact ze0 HE.out (by omega) (by rfl) (HA2.out.drew _) (za5 HG2.out _)
   ·have HD2:=hh9 (zhy.trans hd2)
    cases hn2:zbl 10 200 (rd s) (q+1) with
    | err c =>
     have HE:Hid (countAt (rd s) p=.err c):=zjz HF.out H42.out (by rw [hd2];exact hn2)
     have HN2:=hh9 hn2
     clear hd2 hn2
     go_wp2_with fail
     refine (zag HA2.out hs (by omega)).mono ?_
     rintro e w3 ⟨rfl,n3,rfl⟩
     go_wp2_with fail
     refine (zbh _ hr2.1 hr2.2 _).mono ?_
     rw [HD2.out]
     rintro e w3 ⟨rfl,rfl⟩
     go_wp2_with fail
     refine (zc6 10 200 (.inr (.inl rfl)) (by omega) (by omega) (HA2.out.drew n3) hs (by omega)).mono ?_
     rw [HN2.out]
     rintro e w4 ⟨rfl,hg⟩
     have HG4:=hh9 ((za5 HG2.out n3).trans hg)
     clear hg
     go_wp2_with fail
     exact ⟨rfl,zf9 HE.out HG4.out⟩
    | ok hi q2 =>
     have HE:Hid (countAt (rd s) p=.ok (max (-1) 0,hi,true) q2):=zf6 HF.out H42.out (by rw [hd2];exact hn2)
     have HN2:=hh9 hn2
     clear hd2 hn2
     go_wp2_with fail
     refine (zag HA2.out hs (by omega)).mono ?_
     rintro e w3 ⟨rfl,n3,rfl⟩
     go_wp2_with fail
     refine (zbh _ hr2.1 hr2.2 _).mono ?_
     rw [HD2.out]
     rintro e w3 ⟨rfl,rfl⟩
     go_wp2_with fail
     refine (zc6 10 200 (.inr (.inl rfl)) (by omega) (by omega) (HA2.out.drew n3) hs (by omega)).mono ?_
     rw [HN2.out]
     rintro e w4 ⟨hq2,rfl,ha,hg⟩
     have HA4:=hh9 ha
     have HG4:=hh9 ((za5 HG2.out n3).trans hg)
     clear ha hg
     go_wp2_with fail
     go_ret3
     exact ze0 HE.out hq2 (by rfl) HA4.out HG4.out
  ·have H42:=hh9 h42
   have HE:Hid (countAt (rd s) p=.ok (max (-1) 0,max (-1) 0,decide (0<=(-1:Int))) q):=zj3 HF.out h42
   clear h42
   go_wp2_with fail
   refine (zci HA.out hs hqs 42 (by omega) H42.out).mono ?_
   rintro e w2 ⟨rfl,ha,hg⟩
   have HA2:=hh9 ha
   have HG2:=hh9 (HG.out.trans hg)
   clear ha hg HA HG
   go_wp2_with fail
   go_ret3
   exact ze0 HE.out hqs (by rfl) HA2.out HG2.out
 ·have HD:=hh9 (zhy.trans hd)
  have HC:=hh9 (zc6 10 200 (.inr (.inl rfl)) (by omega) (by omega) (H.out.drew 0) hs hp)
  cases hn:zbl 10 200 (rd s) p with
  | err c =>
   have HE:Hid (countAt (rd s) p=.err c):=zk0 (by rw [hd];exact hn)
   have HN:=hh9 hn
   clear hd hn HC
   go_enter Tryz.func182,Tryz.ntmps182
   go_wp2_with fail
   refine (zag H.out hs hp).mono ?_
   rintro e w1 ⟨rfl,n,rfl⟩
   go_wp2_with fail
   refine (zbh _ hr.1 hr.2 _).mono ?_
   rw [HD.out]
   rintro e w1 ⟨rfl,rfl⟩
   go_wp2_with fail
   refine (zc6 10 200 (.inr (.inl rfl)) (by omega) (by omega) (H.out.drew n) hs hp).mono ?_
   rw [HN.out]
   rintro e w1 ⟨rfl,hg⟩
   have HG:=hh9 hg
   clear hg
   go_wp2_with fail
   exact ⟨rfl,zf9 HE.out ((za5 (zak _ _) n).trans HG.out)⟩
  | ok lo q =>
   have HF:Hid ((if isDc (rd s p) then zbl 10 200 (rd s) p else .ok (-1) p)=.ok lo q):=by rw [hd];exact hn
   have HN:=hh9 hn
   have hlo:=zh5 (by omega) hn
   clear hd hn HC
   go_enter Tryz.func182,Tryz.ntmps182
   go_wp2_with fail
   refine (zag H.out hs hp).mono ?_
   rintro e w1 ⟨rfl,n,rfl⟩
   go_wp2_with fail
   refine (zbh _ hr.1 hr.2 _).mono ?_
   rw [HD.out]
   rintro e w1 ⟨rfl,rfl⟩
   go_wp2_with fail
   refine (zc6 10 200 (.inr (.inl rfl)) (by omega) (by omega) (H.out.drew n) hs hp).mono ?_
   rw [HN.out]
   rintro e w1 ⟨hqs,rfl,ha,hg⟩
   have HA:=hh9 ha
   have HG:=hh9 ((za5 (zak _ _) n).trans hg)
   clear ha hg hr
   by_cases h42:rd s q=42
   ·have H42:=hh9 h42
    have hlt:=zbu (by omega) h42
    clear h42
    go_wp2_with fail
    refine (zca HA.out hs 42 (by omega) H42.out).mono ?_
    rintro e w2 ⟨rfl,ha,hg⟩
    have HA2:=hh9 ha
    have HG2:=hh9 (HG.out.trans hg)
    have hr2:=zcu s (q+1)
    clear ha hg HA HG
    cases hd2:isDc (rd s (q+1))
    ·have HD2:=hh9 (zhy.trans hd2)
     have HE:Hid (countAt (rd s) p=.ok (max (lo) 0,-1,true) (q+1)):=zf6 HF.out H42.out (by rw [hd2];rfl)
     clear hd2
     go_wp2_with fail
     refine (zag HA2.out hs (by omega)).mono ?_
     rintro e w3 ⟨rfl,n3,rfl⟩
     go_wp2_with fail
     refine (zbh _ hr2.1 hr2.2 _).mono ?_
     rw [HD2.out]
     rintro e w3 ⟨rfl,rfl⟩
     go_wp2_with fail
     go_ret3
     exact ze0 HE.out (by omega) (by unfold cval;simp only [Int.max_eq_left hlo,decide_eq_true hlo];rfl) (HA2.out.drew _) (za5 HG2.out _)
    ·have HD2:=hh9 (zhy.trans hd2)
     cases hn2:zbl 10 200 (rd s) (q+1) with
     | err c =>
      have HE:Hid (countAt (rd s) p=.err c):=zjz HF.out H42.out (by rw [hd2];exact hn2)
      have HN2:=hh9 hn2
      clear hd2 hn2
      go_wp2_with fail
      refine (zag HA2.out hs (by omega)).mono ?_
      rintro e w3 ⟨rfl,n3,rfl⟩
      go_wp2_with fail
      refine (zbh _ hr2.1 hr2.2 _).mono ?_
      rw [HD2.out]
      rintro e w3 ⟨rfl,rfl⟩
      go_wp2_with fail
      refine (zc6 10 200 (.inr (.inl rfl)) (by omega) (by omega) (HA2.out.drew n3) hs (by omega)).mono ?_
      rw [HN2.out]
      rintro e w4 ⟨rfl,hg⟩
      have HG4:=hh9 ((za5 HG2.out n3).trans hg)
      clear hg
      go_wp2_with fail
      exact ⟨rfl,zf9 HE.out HG4.out⟩
     | ok hi q2 =>
      have HE:Hid (countAt (rd s) p=.ok (max (lo) 0,hi,true) q2):=zf6 HF.out H42.out (by rw [hd2];exact hn2)
      have HN2:=hh9 hn2
      clear hd2 hn2
      go_wp2_with fail
      refine (zag HA2.out hs (by omega)).mono ?_
      rintro e w3 ⟨rfl,n3,rfl⟩
      go_wp2_with fail
      refine (zbh _ hr2.1 hr2.2 _).mono ?_
      rw [HD2.out]
      rintro e w3 ⟨rfl,rfl⟩
      go_wp2_with fail
      refine (zc6 10 200 (.inr (.inl rfl)) (by omega) (by omega) (HA2.out.drew n3) hs (by omega)).mono ?_
      rw [HN2.out]
      rintro e w4 ⟨hq2,rfl,ha,hg⟩
      have HA4:=hh9 ha
      have HG4:=hh9 ((za5 HG2.out n3).trans hg)
      clear ha hg
      go_wp2_with fail
      go_ret3
      exact ze0 HE.out hq2 (by unfold cval;simp only [Int.max_eq_left hlo,decide_eq_true hlo];rfl) HA4.out HG4.out
   ·have H42:=hh9 h42
    have HE:Hid (countAt (rd s) p=.ok (max (lo) 0,max (lo) 0,decide (0<=(lo:Int))) q):=zj3 HF.out h42
    clear h42
    go_wp2_with fail
    refine (zci HA.out hs hqs 42 (by omega) H42.out).mono ?_
    rintro e w2 ⟨rfl,ha,hg⟩
    have HA2:=hh9 ha
    have HG2:=hh9 (HG.out.trans hg)
    clear ha hg HA HG
    go_wp2_with fail
    go_ret3
    exact ze0 HE.out hqs (by unfold cval;simp only [Int.max_eq_left hlo,decide_eq_true hlo];rfl) HA2.out HG2.out
end Go.Proofs.YtekjnfldgjcgeaaGreatDoor
namespace Go.Proofs
open Go.Shelf
def Tryz.lays159_ren:Go.Shelf.Ren:=⟨fun | 159=>159 | 165=>85 | 166=>86 | 167=>129 | 169=>87 | 230=>130 | 204=>173 | 240=>103 | 241=>104 | 197=>148 | 118=>149 | 168=>150 | 270=>151 | 262=>152 | 276=>125 | 277=>126 | 260=>163 | 242=>164 | 313=>165 | 278=>176 | 274=>177 | 275=>178 | n=>n,fun | 9=>9 | 4=>4 | 3=>3 | 5=>5 | 72=>117 | 0=>0 | 76=>121 | 75=>120 | 107=>151 | 70=>115 | 20=>20 | 37=>100 | 127=>134 | 21=>21 | 105=>156 | 164=>145 | 162=>172 | 203=>170 | 119=>179 | 46=>177 | 139=>182 | 138=>181 | 51=>175 | 160=>183 | 208=>193 | 206=>191 | 80=>75 | n=>n,fun | 13=>1 | 3=>3 | 4=>4 | n=>n⟩
theorem Tryz.lays159:Go.Proofs.Lays.n159 Tryz.prog Tryz.lays159_ren:={
 mixed:=by kernel_rfl
 f118:=Tryz.func149.trans (congrArg some (by kernel_rfl))
 f159:=Tryz.func159.trans (congrArg some (by kernel_rfl))
 f165:=Tryz.func85.trans (congrArg some (by kernel_rfl))
 f166:=Tryz.func86.trans (congrArg some (by kernel_rfl))
 f167:=Tryz.func129.trans (congrArg some (by kernel_rfl))
 f168:=Tryz.func150.trans (congrArg some (by kernel_rfl))
 f169:=Tryz.func87.trans (congrArg some (by kernel_rfl))
 f197:=Tryz.func148.trans (congrArg some (by kernel_rfl))
 f204:=Tryz.func173.trans (congrArg some (by kernel_rfl))
 f230:=Tryz.func130.trans (congrArg some (by kernel_rfl))
 f240:=Tryz.func103.trans (congrArg some (by kernel_rfl))
 f241:=Tryz.func104.trans (congrArg some (by kernel_rfl))
 f242:=Tryz.func164.trans (congrArg some (by kernel_rfl))
 f260:=Tryz.func163.trans (congrArg some (by kernel_rfl))
 f262:=Tryz.func152.trans (congrArg some (by kernel_rfl))
 f270:=Tryz.func151.trans (congrArg some (by kernel_rfl))
 f274:=Tryz.func177.trans (congrArg some (by kernel_rfl))
 f275:=Tryz.func178.trans (congrArg some (by kernel_rfl))
 f276:=Tryz.func125.trans (congrArg some (by kernel_rfl))
 f277:=Tryz.func126.trans (congrArg some (by kernel_rfl))
 f278:=Tryz.func176.trans (congrArg some (by kernel_rfl))
 f313:=Tryz.func165.trans (congrArg some (by kernel_rfl))
 t0:=Tryz.underlying0
 a0:=Tryz.isAgg0
 z0:=Tryz.sizeOf0
 v0:=Tryz.zeroValue0
 t3:=Tryz.underlying3
 a3:=Tryz.isAgg3
 z3:=Tryz.sizeOf3
 v3:=Tryz.zeroValue3
 t4:=Tryz.underlying4
 a4:=Tryz.isAgg4
 z4:=Tryz.sizeOf4
 v4:=Tryz.zeroValue4
 t5:=Tryz.underlying5
 a5:=Tryz.isAgg5
 z5:=Tryz.sizeOf5
 v5:=Tryz.zeroValue5
 t9:=Tryz.underlying9
 a9:=Tryz.isAgg9
 z9:=Tryz.sizeOf9
 v9:=Tryz.zeroValue9
 t20:=Tryz.underlying20
 a20:=Tryz.isAgg20
 z20:=Tryz.sizeOf20
 v20:=Tryz.zeroValue20
 t21:=Tryz.underlying21
 a21:=Tryz.isAgg21
 z21:=Tryz.sizeOf21
 v21:=Tryz.zeroValue21
 t37:=Tryz.underlying100
 a37:=Tryz.isAgg100
 z37:=Tryz.sizeOf100
 v37:=Tryz.zeroValue100
 t46:=Tryz.underlying177
 a46:=Tryz.isAgg177
 z46:=Tryz.sizeOf177
 v46:=Tryz.zeroValue177
 t51:=Tryz.underlying175
 a51:=Tryz.isAgg175
 z51:=Tryz.sizeOf175
 v51:=Tryz.zeroValue175
 t70:=Tryz.underlying115
 a70:=Tryz.isAgg115
 z70:=Tryz.sizeOf115
 v70:=Tryz.zeroValue115
 t72:=Tryz.underlying117
 a72:=Tryz.isAgg117
 z72:=Tryz.sizeOf117
 v72:=Tryz.zeroValue117
 t75:=Tryz.underlying120
 a75:=Tryz.isAgg120
 z75:=Tryz.sizeOf120
 v75:=Tryz.zeroValue120
 t76:=Tryz.underlying121
 a76:=Tryz.isAgg121
 z76:=Tryz.sizeOf121
 v76:=Tryz.zeroValue121
 t105:=Tryz.underlying156
 a105:=Tryz.isAgg156
 z105:=Tryz.sizeOf156
 v105:=Tryz.zeroValue156
 t107:=Tryz.underlying151
 a107:=Tryz.isAgg151
 z107:=Tryz.sizeOf151
 v107:=Tryz.zeroValue151
 t119:=Tryz.underlying179
 a119:=Tryz.isAgg179
 z119:=Tryz.sizeOf179
 t127:=Tryz.underlying134
 a127:=Tryz.isAgg134
 z127:=Tryz.sizeOf134
 v127:=Tryz.zeroValue134
 t138:=Tryz.underlying181
 a138:=Tryz.isAgg181
 z138:=Tryz.sizeOf181
 v138:=Tryz.zeroValue181
 t139:=Tryz.underlying182
 a139:=Tryz.isAgg182
 z139:=Tryz.sizeOf182
 v139:=Tryz.zeroValue182
 t160:=Tryz.underlying183
 a160:=Tryz.isAgg183
 z160:=Tryz.sizeOf183
 v160:=Tryz.zeroValue183
 t162:=Tryz.underlying172
 a162:=Tryz.isAgg172
 z162:=Tryz.sizeOf172
 v162:=Tryz.zeroValue172
 t164:=Tryz.underlying145
 a164:=Tryz.isAgg145
 z164:=Tryz.sizeOf145
 v164:=Tryz.zeroValue145
 t203:=Tryz.underlying170
 a203:=Tryz.isAgg170
 z203:=Tryz.sizeOf170
 v203:=Tryz.zeroValue170
 t206:=Tryz.underlying191
 a206:=Tryz.isAgg191
 z206:=Tryz.sizeOf191
 v206:=Tryz.zeroValue191
 t208:=Tryz.underlying193
 a208:=Tryz.isAgg193
 z208:=Tryz.sizeOf193
 v208:=Tryz.zeroValue193
 g3:=by kernel_rfl
 g4:=by kernel_rfl
 g13:=by kernel_rfl }
theorem Tryz.Builder_Extra_159:Builder.Extra Tryz.prog Tryz.lays159_ren:={
 sizeBuilder:=by kernel_rfl
 liesBuilder:=by kernel_rfl
 t5:=Tryz.underlying5
 a5:=Tryz.isAgg5
 z5:=Tryz.sizeOf5
 v5:=Tryz.zeroValue5
 infoByte:=by kernel_rfl
 cellsByte:=by kernel_rfl
 sizeByte:=by kernel_rfl
 neB5:=by decide }
open Go.RowKit in
theorem Tryz.strings_ToLower_ascii (s:ByteArray) (w:World) (hs:s.size<=140737488355328) (hascii:∀ (j:Nat) (b:UInt8),s.data.toList[j]?=some b->b.toNat<128) :
  Calls Tryz.prog 159 #[.string s] w fun e w'=>e=.returned (.string ⟨(Lib.toLowerA s.data.toList).toArray⟩)/\Below w.heap.size w w':=Any.strings_ToLower_ascii Tryz.lays159 Tryz.Builder_Extra_159 s w hs hascii
end Go.Proofs
namespace Go.Proofs.YtekjnfldgjcgeaaGreatDoor
open Go.RowKit
theorem qc3 {c:Int} (h0:0<=c) (h1:c<=255):Lib.lowerB (byt c)=byt (low c):=by
 have key:∀ i:Fin 256,Lib.lowerB (byt ((i.val:Nat):Int))=byt (low ((i.val:Nat):Int)):=by decide
 have:=key ⟨c.toNat,by omega⟩
 simpa [show ((c.toNat:Nat):Int)=c by omega] using this
theorem zvx {x:List Int} (h:∀ c∈x,0<=c/\c<=255):(⟨(Lib.toLowerA (za3 x).data.toList).toArray⟩:ByteArray)=za3 (x.map low):=by
 rw [zcf]
 unfold Lib.toLowerA za3
 rw [List.map_map,List.map_map]
 congr 2
 apply List.map_congr_left
 intro c hc
 exact qc3 (h c hc).1 (h c hc).2
theorem zod {x:List Int} {w:World} (hx:∀ c∈x,0<=c/\c<128) (hl:x.length<=100000) :
  Calls Tryz.prog 159 #[.string (za3 x)] w fun e w'=>e=.returned (.string (za3 (x.map low)))/\Below w.heap.size w w':=by
 have h:=Tryz.strings_ToLower_ascii (za3 x) w (by rw [za9];omega) (by
  intro j b hb
  rw [zcf,List.getElem?_map] at hb
  cases hc:x[j]? with
  | none=>rw [hc] at hb;cases hb
  | some c =>
   rw [hc] at hb
   cases hb
   have hm:=hx c (List.mem_of_getElem? hc)
   unfold byt
   have:(UInt8.ofNat c.toNat).toNat=c.toNat%256:=by simp
   omega)
 rwa [zvx (fun c hc=>⟨(hx c hc).1,by have:=(hx c hc).2;omega⟩)] at h
theorem zh9 {R p d:Nat} {s:ByteArray} {w:World} (h:At w R s p d) (hs:s.size<=50000) (hp:p<=s.size) :
  Calls Tryz.prog 136 #[.pointer (some ⟨R,0,none⟩)] w (GivesGot (fun x=>.string (za3 x)) R s d (zcc (rd s) p) w):=by
 obtain ⟨q,hq⟩:∃ q,zbp isNm (rd s) p=q:=⟨_,rfl⟩
 obtain ⟨hrun0,hqs0⟩:=zg0 (P:=isNm) (by decide) hp
 rw [hq] at hrun0 hqs0
 have H:=hh9 h
 have HQ:=hh9 hq
 have HRUN:=hh9 hrun0
 have hpq:=hrun0.le
 have hlen:=zk1 (rd s) p (q-p)
 have hsz:(za3 (cut (rd s) p (q-p))).size=q-p:=by rw [za9,hlen]
 have HX:=hh9 (zhz (p:=p) hqs0)
 obtain ⟨X,hX⟩:∃ X,X=cut (rd s) p (q-p):=⟨_,rfl⟩
 rw [<- hX] at hlen hsz HX
 have HB:Hid (∀ c∈X,0<=c/\c<128):=by rw [hX];exact zk2 zmx hrun0
 have HLEN:=hh9 hlen
 have HXX:=hh9 hX
 obtain ⟨T,hT⟩:∃ T,T=za3 X:=⟨_,rfl⟩
 rw [<- hT] at hsz HX
 have HT:=hh9 hT
 have HSZ:=hh9 hsz
 clear h hq hrun0 hlen hX hT hsz
 by_cases hlong:40<q-p
 ·have HE:Hid (zcc (rd s) p=.err 2):=by unfold zcc;rw [HQ.out,if_pos hlong];exact rfl
  have hts:40<T.size:=by rw [HSZ.out];exact hlong
  go_enter Tryz.func136,Tryz.ntmps136
  go_wp2_with fail
  refine (zlu H.out hs hp).mono ?_
  rintro e w1 ⟨q1,hrun,hqs,rfl,ha,hg⟩
  obtain rfl:q1=q:=hrun.one HRUN.out
  rw [HX.out]
  have HG:=hh9 hg
  clear ha hg hrun
  go_wp2_with fail
  refine (zea _ _).mono ?_
  rintro e w2 ⟨rfl,rfl⟩
  go_wp2_with fail
  exact ⟨rfl,zf9 HE.out HG.out⟩
 ·have HE:Hid (zcc (rd s) p=.ok (X.map low) q):=by unfold zcc;rw [HQ.out,if_neg hlong,HXX.out];exact rfl
  have hts:T.size<=40:=by rw [HSZ.out];omega
  go_enter Tryz.func136,Tryz.ntmps136
  go_wp2_with fail
  refine (zlu H.out hs hp).mono ?_
  rintro e w1 ⟨q1,hrun,hqs,rfl,ha,hg⟩
  obtain rfl:q1=q:=hrun.one HRUN.out
  rw [HX.out]
  have HA:=hh9 ha
  have HG:=hh9 hg
  clear ha hg hrun
  go_wp2_with fail
  rw [HT.out]
  refine (zod HB.out (by rw [HLEN.out];omega)).mono ?_
  rintro e w2 ⟨rfl,hb⟩
  have HA2:=hh9 (HA.out.below hb)
  have HG2:=hh9 (za4 HG.out hb)
  clear hb
  go_wp2_with fail
  go_ret
  exact ze0 HE.out hqs rfl HA2.out HG2.out
theorem zcq {R p d:Nat} {s:ByteArray} {w:World} (h:At w R s p d) (hs:s.size<=50000) (hp:p<=s.size) :
  Calls Tryz.prog 188 #[.pointer (some ⟨R,0,none⟩)] w (GivesGot (fun x=>.string (za3 x)) R s d (zb2 (rd s) p) w):=by
 have H:=hh9 h
 clear h
 by_cases h34:rd s p=34
 ·have hlt:=zbu (by omega) h34
  obtain ⟨q,hq⟩:∃ q,zbp isSt (rd s) (p+1)=q:=⟨_,rfl⟩
  obtain ⟨hrun0,hqs0⟩:=zg0 (P:=isSt) (by decide) (s:=s) (p:=p+1) (by omega)
  rw [hq] at hrun0 hqs0
  have HQ:=hh9 hq
  have HRUN:=hh9 hrun0
  have H34:=hh9 h34
  have HX:=hh9 (zhz (p:=p+1) hqs0)
  clear hq hrun0 h34
  by_cases k34:rd s q=34
  ·have K34:=hh9 k34
   have HE:Hid (zb2 (rd s) p=.ok (cut (rd s) (p+1) (q-(p+1))) (q+1)):=by unfold zb2;rw [HQ.out,if_pos H34.out,if_pos k34];exact rfl
   have hlt2:=zbu (by omega) k34
   clear k34
   go_enter Tryz.func188,Tryz.ntmps188
   go_wp2_with fail
   refine (zb1 H.out hs 34 (by omega) H34.out).mono ?_
   rintro e w1 ⟨rfl,ha,hg⟩
   have HA:=hh9 ha
   have HG:=hh9 hg
   clear ha hg
   go_wp2_with fail
   refine (zin HA.out hs (by omega)).mono ?_
   rintro e w2 ⟨q1,hrun,hqs,rfl,ha,hg⟩
   obtain rfl:q1=q:=hrun.one HRUN.out
   rw [HX.out]
   have HA2:=hh9 ha
   have HG2:=hh9 (HG.out.trans hg)
   clear ha hg hrun
   go_wp2_with fail
   refine (zb1 HA2.out hs 34 (by omega) K34.out).mono ?_
   rintro e w3 ⟨rfl,ha,hg⟩
   have HA3:=hh9 ha
   have HG3:=hh9 (HG2.out.trans hg)
   clear ha hg
   go_wp2_with fail
   go_ret
   exact ze0 HE.out (by omega) rfl HA3.out HG3.out
  ·have K34:=hh9 k34
   have HE:Hid (zb2 (rd s) p=.err 20):=by unfold zb2;rw [HQ.out,if_pos H34.out,if_neg k34];exact rfl
   clear k34
   go_enter Tryz.func188,Tryz.ntmps188
   go_wp2_with fail
   refine (zb1 H.out hs 34 (by omega) H34.out).mono ?_
   rintro e w1 ⟨rfl,ha,hg⟩
   have HA:=hh9 ha
   have HG:=hh9 hg
   clear ha hg
   go_wp2_with fail
   refine (zin HA.out hs (by omega)).mono ?_
   rintro e w2 ⟨q1,hrun,hqs,rfl,ha,hg⟩
   obtain rfl:q1=q:=hrun.one HRUN.out
   have HA2:=hh9 ha
   have HG2:=hh9 (HG.out.trans hg)
   clear ha hg hrun
   go_wp2_with fail
   refine (zi2 HA2.out hs hqs 34 (by omega) K34.out).mono ?_
   rintro e w3 ⟨rfl,hg⟩
   have HG3:=hh9 (HG2.out.trans hg)
   clear hg
   go_wp2_with fail
   exact ⟨rfl,zf9 HE.out HG3.out⟩
 ·have H34:=hh9 h34
  have HE:Hid (zb2 (rd s) p=.err 20):=by unfold zb2;rw [if_neg h34];exact rfl
  clear h34
  go_enter Tryz.func188,Tryz.ntmps188
  go_wp2_with fail
  refine (zi2 H.out hs hp 34 (by omega) H34.out).mono ?_
  rintro e w3 ⟨rfl,hg⟩
  have HG3:=hh9 hg
  clear hg
  go_wp2_with fail
  exact ⟨rfl,zf9 HE.out HG3.out⟩
def zoe (R:Nat) (s:ByteArray) (d:Nat) (g:Got Tree) (w:World) (e:Ending) (w':World):Prop :=
 match g with
 | .ok t q=>∃ x:XV,TreeAt w' (fun b=>w.heap.size<=b) x t/\q<=s.size/\zob R s d x.val q w e w'
 | .err c=>zq4 R c w e w'
theorem At.set_row {w:World} {R:Nat} {s:ByteArray} {p d:Nat} (h:At w R s p d) {g:Nat} (hg:R≠g) (cs:Array Value):At (w.setRow g cs) R s p d:=(setRow_other _ _ _ _ hg).trans h
theorem zrj {x:List Int} {w:World} (hx:∀ c∈x,0<=c/\c<128) (hl:x.length<=100000) :
  Calls Tryz.prog 187 #[.string (za3 x)] w (zf0 (w.heap.size+1) (zmf x) w):=by
 have HC:=hh9 (fun W=>zod (x:=x) (w:=W) hx hl)
 clear hx hl
 obtain ⟨s,hs⟩:∃ s,s=za3 x:=⟨_,rfl⟩
 rw [<- hs] at HC ⊢
 clear hs
 have HR:=hh9 (zav w)
 have HB0:=hh9 ((Below.refl w.heap.size w).alloc (Nat.le_refl _) (.cells #[.int .i64 0,.string ⟨#[]⟩,.slice none 0 0,.int .i64 0,.int .i64 0,.slice none 0 0] 35))
 go_enter Tryz.func187,Tryz.ntmps187
 go_wp2_with fail
 refine (HC.out _).mono ?_
 rintro e w1 ⟨rfl,hb⟩
 have HR1:=hh9 (HR.out.kept (hb.block w.heap.size (by simp)))
 have HB:=hh9 (HB0.out.trans (hb.mono (by simp)))
 clear hb HR HB0
 go_wp2_with (refine za6 rfl _ _ rfl w.heap.size ⟨5,za3 (x.map low),.slice none 0 0,0,0,.slice none 0 0⟩ rfl rfl HR1.out rfl rfl ?_)
 refine bodyPost_ret_by (zaj rfl _ _ w.heap.size ⟨5,za3 (x.map low),.slice none 0 0,0,0,.slice none 0 0⟩ rfl HR1.out) rfl ⟨_,?_,rfl,below_setRow HB.out (Nat.le_refl _) _⟩
 exact (zd4 _ _ _ _ _ _).set_row (fun b hb=>by omega) _
theorem ztb {base:Nat} {v:Value} {t:Tree} {w:World} (k:Int) (h:zbq w base v [t]) (hb0:base<=w.heap.size) :
  Calls Tryz.prog 161 #[.int .i64 k,v] w (zf0 base t w):=by
 obtain ⟨vs,hl,hr,ht⟩:=h
 obtain ⟨x,rfl⟩:∃ x,vs=[x]:=by
  match vs,hl with
  | [x],_=>exact ⟨x,rfl⟩
 have hx:=(ht 0 x t rfl rfl).weak (P':=fun b=>base<=b) (fun b hP _=>hP.1)
 obtain ⟨g,cap,rfl⟩:=(zan hr).resolve_left (fun h=>by cases h.2)
 have c0:=zaq hr (j:=0) rfl
 have c1:=zaq hr (j:=1) rfl
 have c2:=zaq hr (j:=2) rfl
 have c3:=zaq hr (j:=3) rfl
 have c4:=zaq hr (j:=4) rfl
 have c5:=zaq hr (j:=5) rfl
 obtain ⟨hbg,hcap,hmax,hg⟩:=zb0 hr
 have HT:=hh9 hx
 have HR:=hh9 (zav w)
 have HB0:=hh9 ((Below.refl w.heap.size w).alloc (Nat.le_refl _) (.cells #[.int .i64 0,.string ⟨#[]⟩,.slice none 0 0,.int .i64 0,.int .i64 0,.slice none 0 0] 35))
 obtain ⟨x0,x1,x2,x3,x4,x5⟩:=x
 have hs2:(Value.oneCell' x2=true):=zaa HT.out
 have hs5:(Value.oneCell' x5=true):=zab HT.out
 have HS2:=hh9 hs2
 have HS5:=hh9 hs5
 clear hr ht hx hl hs2 hs5
 go_enter Tryz.func161,Tryz.ntmps161
 go_wp2_with (refine za6 rfl _ _ rfl w.heap.size ⟨x0,x1,x2,x3,x4,x5⟩ rfl rfl HR.out HS2.out HS5.out ?_)
 refine bodyPost_ret_by (zaj rfl _ _ w.heap.size ⟨x0,x1,x2,x3,x4,x5⟩ rfl HR.out) rfl ⟨_,?_,rfl,below_setRow HB0.out (Nat.le_refl _) _⟩
 have h1:=HT.out.weak (P':=fun b=>base<=b/\b≠w.heap.size) (fun b hP hl=>⟨hP,by omega⟩)
 have h2:=h1.under (W':=w.alloc (.cells #[.int .i64 0,.string ⟨#[]⟩,.slice none 0 0,.int .i64 0,.int .i64 0,.slice none 0 0] 35)) ((Below.refl _ _).alloc (Nat.le_refl _) _)
 exact (h2.set_row (fun b hP=>hP.2) _).weak (fun b hP _=>hP.1)
theorem zq5 {base:Nat} {v:Value} {l:List Tree} {w:World} (k:Int) (h:zbq w base v l) (hb0:base<=w.heap.size) (hn:l.length≠1) (hn2:l.length<=1000000) :
  Calls Tryz.prog 161 #[.int .i64 k,v] w (zf0 base (.mk k [] [] 0 0 l) w):=by
 have HK:=hh9 h
 obtain ⟨vs,hl,hr,ht⟩:=h
 obtain ⟨n,hln⟩:∃ n,n=l.length:=⟨_,rfl⟩
 rw [<- hln] at hn hn2
 have hq:decide ((n:Int)=1)=false:=zlk hn
 have hq2:((n:Int)==1)=false:=by simp;omega
 have HR:=hh9 (zav w)
 have HB0:=hh9 ((Below.refl w.heap.size w).alloc (Nat.le_refl _) (.cells #[.int .i64 0,.string ⟨#[]⟩,.slice none 0 0,.int .i64 0,.int .i64 0,.slice none 0 0] 35))
 have fin:∀ (ops:Nat),True:=fun _=>trivial
 have hone:v.oneCell'=true:=by rcases zan hr with ⟨rfl,_⟩ | ⟨g,cap,rfl⟩<;>rfl
 have HONE:=hh9 hone
 have hT:TreeAt ((w.alloc (.cells #[.int .i64 0,.string ⟨#[]⟩,.slice none 0 0,.int .i64 0,.int .i64 0,.slice none 0 0] 35)).setRow w.heap.size (XV.arr ⟨k,⟨#[]⟩,.slice none 0 0,0,0,v⟩)) (fun b=>base<=b) ⟨k,⟨#[]⟩,.slice none 0 0,0,0,v⟩ (.mk k [] [] 0 0 l):=by
  have h1:=(HK.out.tree k 0 0).weak (P':=fun b=>base<=b/\b≠w.heap.size) (fun b hP hl=>⟨hP,by omega⟩)
  have h2:=h1.under (W':=w.alloc (.cells #[.int .i64 0,.string ⟨#[]⟩,.slice none 0 0,.int .i64 0,.int .i64 0,.slice none 0 0] 35)) ((Below.refl _ _).alloc (Nat.le_refl _) _)
  exact (h2.set_row (fun b hP=>hP.2) _).weak (fun b hP _=>hP.1)
 have HT:=hh9 hT
 clear ht hT hone HK fin
 rcases zan hr with ⟨rfl,h0⟩ | ⟨g,cap,rfl⟩
 ·clear hr hl hln
  go_enter Tryz.func161,Tryz.ntmps161
  go_wp2_with (refine za6 rfl _ _ rfl w.heap.size ⟨k,⟨#[]⟩,.slice none 0 0,0,0,.slice none 0 0⟩ rfl rfl HR.out rfl rfl ?_)
  exact bodyPost_ret_by (zaj rfl _ _ w.heap.size ⟨k,⟨#[]⟩,.slice none 0 0,0,0,.slice none 0 0⟩ rfl HR.out) rfl ⟨_,HT.out,rfl,below_setRow HB0.out (Nat.le_refl _) _⟩
 ·rw [<- hln] at HT HONE ⊢
  clear hr hl hln
  go_enter Tryz.func161,Tryz.ntmps161
  go_wp2_with (refine za6 rfl _ _ rfl w.heap.size ⟨k,⟨#[]⟩,.slice none 0 0,0,0,.slice (some ⟨g,0,none⟩) n cap⟩ rfl rfl HR.out rfl rfl ?_)
  exact bodyPost_ret_by (zaj rfl _ _ w.heap.size ⟨k,⟨#[]⟩,.slice none 0 0,0,0,.slice (some ⟨g,0,none⟩) n cap⟩ rfl HR.out) rfl ⟨_,HT.out,rfl,below_setRow HB0.out (Nat.le_refl _) _⟩
theorem zi4 {base:Nat} {v:Value} {l:List Tree} {w:World} (k:Int) (h:zbq w base v l) (hb0:base<=w.heap.size) (hn2:l.length<=1000000) :
  Calls Tryz.prog 161 #[.int .i64 k,v] w (zf0 base (zgq k l) w):=by
 by_cases hn:l.length=1
 ·match l,hn with
  | [t],_=>exact ztb k h hb0
 ·rw [zee k hn]
  exact zq5 k h hb0 hn hn2
theorem zzb {x:List Int} {w:World} (hx:∀ c∈x,0<=c/\c<128) (hl:x.length<=100000) (hne:x≠[]) :
  Calls Tryz.prog 189 #[.string (za3 x),.bool true] w (zf0 w.heap.size (.mk 6 [] x 0 0 []) w):=by
 obtain ⟨i0,hi0,hi1⟩:=Option.map_eq_some_iff.1 zmy
 obtain ⟨hz0,hz1,hz2⟩:i0.zero=some (.int .i64 0)/\i0.size=1/\i0.bytes=8:=by simpa using hi1
 have hsz:=za9 x
 have hpos:0<x.length:=List.length_pos_iff.2 hne
 have hget:=zk3 hx
 obtain ⟨s,hs⟩:∃ s,s=za3 x:=⟨_,rfl⟩
 rw [<- hs] at hsz hget ⊢
 obtain ⟨n,hn⟩:∃ n,n=x.length:=⟨_,rfl⟩
 rw [<- hn] at hsz hpos hl
 have hlist:s.toList.isEmpty=false:=by
  rw [Lib.toList_data]
  cases h:s.data.toList with
  | nil =>
   have:s.size=0:=by
    show s.data.size=0
    rw [<- Array.length_toList,h];rfl
   omega
  | cons a l=>rfl
 have HN:=hh9 hn
 have HSZ:=hh9 hsz
 have HGET:=hh9 hget
 have HR:=hh9 (zav w)
 have HB0:=hh9 ((Below.refl w.heap.size w).alloc (Nat.le_refl _) (.cells #[.int .i64 0,.string ⟨#[]⟩,.slice none 0 0,.int .i64 0,.int .i64 0,.slice none 0 0] 35))
 clear hx hne hs hn hget hi1
 go_enter Tryz.func189,Tryz.ntmps189
 go_wp2_with (refine wpList_make_full _ rfl _ _ 32 rfl w.heap.size 3 i0 (.int .i64 0) 1 Tryz.underlying32 hi0 hz0 hz1 .i64 .i64 (n:Int) (n:Int) n rfl rfl rfl rfl ?c1 ?c2 ?c3 ?_)
 case c1=>rw [hz2];omega
 case c2=>unfold maxLen;omega
 case c3=>simp
 intro w1 hown hgrow
 have hR1:=HR.out.kept (hgrow.block w.heap.size (by simp) (by simp))
 have hB1:=HB0.out.grown hgrow (by simp) (fun k hk=>by cases hk)
 have H1:Hid (qdf x w.heap.size (w.heap.size+1) w w1 0):=⟨List.replicate n 0,by rw [List.length_replicate];exact HN.out,by
  rw [<- HN.out,<- zt6]
  have:=hown
  rwa [toList_madeCells_one] at this,fun j hj=>absurd hj (by omega),hB1,hR1⟩
 clear hown hgrow hR1 hB1 HR HB0
 go_wp2_with fail
 go_loopw [20] (fun v wr=>∃ i:Nat,v=.int .i64 i/\i<=n/\Hid (qdf x w.heap.size (w.heap.size+1) w wr i)) (fun v _=>n-(intOf v).toNat)
 case atStart=>exact ⟨0,rfl,by omega,H1⟩
 case round =>
  obtain ⟨i,rfl,hi,HI⟩:=hrel
  by_cases hlt:i<n
  ·obtain ⟨ys,hy,hrow,hall,hbel,hres⟩:=HI.out
   rw [<- HN.out] at hrow
   have hfz:=zsi hrow i
   have hyl:i<ys.length:=by rw [hy,<- HN.out];exact hlt
   have hcl:=zaq hrow (zgz ys i hyl)
   have hss:i<s.size:=by omega
   have HX:=hh9 (HGET.out i hss)
   have HROW:=hh9 hrow
   have HALL:=hh9 hall
   have HBEL:=hh9 hbel
   have HRES:=hh9 hres
   have HY:=hh9 hy
   have hw:0<=ys[i]\/True:=.inr trivial
   obtain ⟨old,hold⟩:∃ old,old=ys[i]:=⟨_,rfl⟩
   rw [<- hold] at hcl
   clear hrow hall hbel hres hy hold hw
   go_wp2_with fail
   go_roundw
   case rel =>
    rw [znj]
    refine ⟨i+1,by go_num,by omega,?_⟩
    have hst:=HROW.out.stored i (.int .i64 (s[i].toNat:Int))
    refine ⟨ys.set i (s[i].toNat:Int),by rw [List.length_set];exact HY.out,?_,fun j hj=>?_,?_,?_⟩
    ·rw [<- zt5,<- HN.out];exact hst.1
    ·by_cases hji:j=i
     ·subst hji;rw [List.getElem?_set_self hyl];exact HX.out.symm
     ·rw [List.getElem?_set_ne (fun e=>hji e.symm)];exact HALL.out j (by omega)
    ·exact HBEL.out.setCell (by simp) _
    ·exact HRES.out.kept (hst.2.block _ HRES.out.lt (fun e=>by have:=Option.some.inj e;omega))
   case measure=>simp [intOf];omega
  ·obtain ⟨ys,hy,hrow,hall,hbel,hres⟩:=HI.out
   have hyx:ys=x:=by
    apply List.ext_getElem?
    intro j
    by_cases hj:j<i
    ·exact hall j hj
    ·rw [List.getElem?_eq_none (by rw [hy,<- HN.out];omega),List.getElem?_eq_none (by rw [<- HN.out];omega)]
   subst hyx
   rw [<- HN.out] at hrow
   have HROW:=hh9 hrow
   have HBEL:=hh9 hbel
   have HRES:=hh9 hres
   clear hrow hall hbel hres hy
   go_wp2_with (refine za6 rfl _ _ rfl w.heap.size ⟨6,⟨#[]⟩,.slice (some ⟨w.heap.size+1,0,none⟩) n n,0,0,.slice none 0 0⟩ rfl rfl HRES.out rfl rfl ?_)
   refine bodyPost_ret_by (zaj rfl _ _ w.heap.size ⟨6,⟨#[]⟩,.slice (some ⟨w.heap.size+1,0,none⟩) n n,0,0,.slice none 0 0⟩ rfl HRES.out) rfl ⟨_,?_,rfl,below_setRow HBEL.out (Nat.le_refl _) _⟩
   have hrow:=HROW.out
   rw [HN.out] at hrow ⊢
   have hup:wr.ownsRow (w.heap.size+1) 3 1 (.slice (some ⟨w.heap.size+1,0,none⟩) ys.length ys.length) ys.length (zat ys):=by
    refine ⟨hrow.1,?_⟩
    rcases hrow.2 with ⟨h0,_⟩ | ⟨g',cap',cur,hv,hb,rest⟩
    ·cases h0
    ·simp at hv
     obtain ⟨rfl,rfl⟩:=hv
     exact .inr ⟨_,_,cur,rfl,Nat.le_refl _,rest⟩
   have h1:=zfr (P:=fun b=>w.heap.size+1<=b) 6 hup (fun b hb=>hb)
   exact (h1.set_row (fun b hb=>by omega) _).weak (fun b hb _=>by omega)
theorem zn3 {x:List Int} {w:World} (b:Bool) (hx:∀ c∈x,0<=c/\c<128) (hl:x.length<=100000) :
  Calls Tryz.prog 189 #[.string (za3 x),.bool b] w (zf0 w.heap.size (litT x b) w):=by
 by_cases hb:b=true/\x≠[]
 ·obtain ⟨rfl,hne⟩:=hb
  rw [zo7 hne]
  exact zzb hx hl hne
 ·rw [zvp hb]
  have HC:=hh9 (fun W=>zrj (x:=x) (w:=W) hx hl)
  have HR:=hh9 (zav w)
  have HB0:=hh9 ((Below.refl w.heap.size w).alloc (Nat.le_refl _) (.cells #[.int .i64 0,.string ⟨#[]⟩,.slice none 0 0,.int .i64 0,.int .i64 0,.slice none 0 0] 35))
  cases b with
  | false =>
   obtain ⟨s,hs⟩:∃ s,s=za3 x:=⟨_,rfl⟩
   rw [<- hs] at HC ⊢
   clear hs hx hl hb
   go_enter Tryz.func189,Tryz.ntmps189
   go_wp2_with fail
   refine (HC.out _).mono ?_
   rintro e w1 ⟨y,hy,rfl,hb⟩
   have HY:=hh9 hy
   have HR1:=hh9 (HR.out.kept (hb.block w.heap.size (by simp)))
   have HB:=hh9 (HB0.out.trans (hb.mono (by simp)))
   obtain ⟨h2,h5⟩:y.ns.oneCell'=true/\y.ks.oneCell'=true:=⟨zaa hy,zab hy⟩
   have H2:=hh9 h2
   have H5:=hh9 h5
   clear hb HR HB0 hy h2 h5
   go_wp2_with (refine za6 rfl _ _ rfl w.heap.size y rfl rfl HR1.out H2.out H5.out ?_)
   refine bodyPost_ret_by (zaj rfl _ _ w.heap.size y rfl HR1.out) rfl ⟨y,?_,rfl,below_setRow HB.out (Nat.le_refl _) _⟩
   exact (HY.out.set_row (fun b hb=>by simp at hb;omega) _).weak (fun b hb _=>by simp at hb;omega)
  | true =>
   have hx0:x=[]:=by
    by_cases g:x=[]
    ·exact g
    ·exact absurd ⟨rfl,g⟩ hb
   subst hx0
   rw [zez] at HC ⊢
   clear hx hl hb
   go_enter Tryz.func189,Tryz.ntmps189
   go_wp2_with fail
   refine (HC.out _).mono ?_
   rintro e w1 ⟨y,hy,rfl,hb⟩
   have HY:=hh9 hy
   have HR1:=hh9 (HR.out.kept (hb.block w.heap.size (by simp)))
   have HB:=hh9 (HB0.out.trans (hb.mono (by simp)))
   obtain ⟨h2,h5⟩:y.ns.oneCell'=true/\y.ks.oneCell'=true:=⟨zaa hy,zab hy⟩
   have H2:=hh9 h2
   have H5:=hh9 h5
   clear hb HR HB0 hy h2 h5
   go_wp2_with (refine za6 rfl _ _ rfl w.heap.size y rfl rfl HR1.out H2.out H5.out ?_)
   refine bodyPost_ret_by (zaj rfl _ _ w.heap.size y rfl HR1.out) rfl ⟨y,?_,rfl,below_setRow HB.out (Nat.le_refl _) _⟩
   exact (HY.out.set_row (fun b hb=>by simp at hb;omega) _).weak (fun b hb _=>by simp at hb;omega)
end Go.Proofs.YtekjnfldgjcgeaaGreatDoor
