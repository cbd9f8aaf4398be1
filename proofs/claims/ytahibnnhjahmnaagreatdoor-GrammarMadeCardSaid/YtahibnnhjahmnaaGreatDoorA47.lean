/- Part 47 of what the laws of the grammar rest on. -/
import Derived.Test.YtahibnnhjahmnaaGreatDoorA46
set_option linter.all false
set_option maxRecDepth 100000
set_option maxHeartbeats 8000000
namespace Go.Proofs.YtahibnnhjahmnaaGreatDoor
open Go.RowKit
theorem qc4(W:World)(t:TypeId)(size:Nat):(W.alloc (.cells #[] t)).ownsRow W.heap.size t size (.slice (some ⟨W.heap.size,0,none⟩) 0 0) 0 [] :=
 ⟨by simp,.inr ⟨W.heap.size,0,#[],rfl,zbA _,zbO _ _,zbA _,by decide,by simp,by simp⟩⟩
theorem MG.gathers{w w3 wr:World}{gM n cap:Nat}{l:List Rule}{ys yl:List LV}{vg Jf:Value}(h:MG w w3 gM n cap l ys yl 0 vg wr)(hg:wr.ownsRow w3.heap.size 33 7 Jf 0 []):MG w w3 gM n cap l ys yl 0 Jf wr :=
 ⟨h.below,h.size,h.low,h.num,h.row,h.same,h.each,hg⟩
theorem MG.cell{w w3 wr:World}{gM n cap i:Nat}{l:List Rule}{ys yl:List LV}{vg:Value}(h:MG w w3 gM n cap l ys yl i vg wr){j:Nat}{y:LV}(hy:yl[j]?=some y) :
  wr.cell? ⟨gM,j*8,none⟩=some (.string y.name)/\wr.cell? ⟨gM,j*8+1,none⟩=some (.bool y.more)/\wr.cell? ⟨gM,j*8+2,none⟩=some (.int .i64 y.expr.kind)/\wr.cell? ⟨gM,j*8+3,none⟩=some (.string y.expr.text) /\
  wr.cell? ⟨gM,j*8+4,none⟩=some y.expr.ns/\wr.cell? ⟨gM,j*8+5,none⟩=some (.int .i64 y.expr.lo)/\wr.cell? ⟨gM,j*8+6,none⟩=some (.int .i64 y.expr.hi)/\wr.cell? ⟨gM,j*8+7,none⟩=some y.expr.ks:=by
 have key:∀ (q:Nat) (u:Value),q<8->y.cells[q]?=some u->wr.cell? ⟨gM,j*8+q,none⟩=some u:=fun q u hq hu=>eZ h.row ((EN yl j q y hy hq).trans hu)
 exact⟨key 0 _ (by omega) rfl,key 1 _ (by omega) rfl,key 2 _ (by omega) rfl,key 3 _ (by omega) rfl,key 4 _ (by omega) rfl,key 5 _ (by omega) rfl,key 6 _ (by omega) rfl,key 7 _ (by omega) rfl⟩
theorem MG.free{w w3 wr:World}{gM n cap i:Nat}{l:List Rule}{ys yl:List LV}{vg:Value}(h:MG w w3 gM n cap l ys yl i vg wr)(j:Nat):wr.frozen? ⟨gM,j,none⟩=false:=AJ h.row j
theorem Ni(k:Nat)(hk:k<6):∃ x:List Int,bJ x/\(#[.string ⟨#[97]⟩,.string ⟨#[98]⟩,.string ⟨#[99]⟩,.string ⟨#[119,111,114,100]⟩,.string ⟨#[120,45,49]⟩,.string ⟨#[110,111,110,101]⟩]:Array Value)[k]?=some (.string (ak x)):=by
 match k,hk with
 |0,_=>exact⟨[97],⟨by decide,by decide⟩,rfl⟩
 |1,_=>exact⟨[98],⟨by decide,by decide⟩,rfl⟩
 |2,_=>exact⟨[99],⟨by decide,by decide⟩,rfl⟩
 |3,_=>exact⟨[119,111,114,100],⟨by decide,by decide⟩,rfl⟩
 |4,_=>exact⟨[120,45,49],⟨by decide,by decide⟩,rfl⟩
 |5,_=>exact⟨[110,111,110,101],⟨by decide,by decide⟩,rfl⟩
def VW(NM:List (List Int))(m:Nat)(W:World)(e:Ending)(w':World):Prop:=∃ (a:Option Addr) (c:Nat),e=.returned (.slice a m c)/\au w' (.slice a m c) NM.length (gy NM)/\Below W.heap.size W w'
theorem zze{NM:List (List Int)}{m:Nat}{W:World}{e:Ending}{w':World}(hm:m=NM.length)(h:J3 NM W e w'):VW NM m W e w':=by
 obtain⟨v,rfl,ho,hb⟩:=h;obtain⟨a,c,rfl⟩:=qG ho;subst hm;exact⟨a,c,rfl,zH ho,hb⟩
theorem zvl{x0:Value}{z0:List Int}{x1:Int}{w:World}(hT:gJ w)(h0:M0 w x0 z0)(h1:0<=x1/\x1<=255) :
  Calls Tryz.prog 3 #[x0,.int .u8 x1] w (gG true w):=by
 have Nj:=hh9 (zzj (show GY w w.heap.size x0 z0 from h0));have HT:=hh9 hT
 obtain⟨kk,hkk,G5⟩:∃ k:Nat,(x1.tmod 6)=(k:Int)/\k<6:=by
  have h2:=Int.tmod_nonneg (a:=x1) 6 h1.1;have h3:=Int.tmod_lt_of_pos x1 (b:=6) (by omega);exact⟨(x1.tmod 6).toNat,by omega,by omega⟩
 obtain⟨a0,cap0,hv0,_⟩:=h0;obtain⟨n0,hn0⟩:∃ n,n=z0.length:=⟨_,rfl⟩
 rw[<- hn0]at hv0;subst hv0;have HKK:=hh9 hkk;have Kh:=hh9 h1;clear hT hn0 hkk h1;go_enter Tryz.func3,Tryz.ntmps3;go_wp2_with fail
 refine Nj.out.mono ?_;rintro e w3 ⟨v,l,ys,rfl,Qa,hl1,hl5,hmd,hb3⟩
 obtain⟨gM,cap,rfl⟩:∃ g c,v=.slice (some ⟨g,0,none⟩) l.length c:=by
  rcases fB Qa.2.1 with ⟨_,h⟩|⟨g,c,h⟩
  ·omega
  ·exact⟨g,c,h⟩
 obtain⟨n,hn⟩:∃ n,n=l.length:=⟨_,rfl⟩
 rw[<- hn]at Qa hl1 hl5 ⊢;have UA:=hh9 (MG.start hn hb3 Qa hmd);have Nk:=hh9 hmd;have VX:=hh9 hn;clear Qa hmd hb3 hn;obtain⟨w4,hw4⟩:∃ w4:World,w4=w3.alloc (.cells #[] 33):=⟨_,rfl⟩
 have HM4:=hh9 ((UA.out.call (by rw[hw4];exact(zbE w3.heap.size w3).alloc (zbA _) _:Below w3.heap.size w3 w4)).gathers (by rw[hw4];exact qc4 w3 _ _));have HW4:=hh9 hw4;obtain⟨B4,hB4⟩:∃ B,B=w3.heap.size:=⟨_,rfl⟩
 rw[<- hB4]at HM4;have eB:=hh9 hB4;clear hw4 hB4;obtain⟨i0,hi0,hz0,hz1,hz2⟩:=info_parts Vu;go_wp2_with fail
 rw[<- HW4.out,<- eB.out];go_wp2_with fail
 go_loopg [6,7] n (fun gk vg vi wr=>∃ (i:Nat) (q:Option Addr) (c:Nat) (yl:List LV),vg=.slice q i c/\vi=.int .i64 (i:Int)/\i<=n/\n-i<=gk/\Hid (MG w w3 gM n cap l ys yl i (.slice q i c) wr))
 case atStart=>exact⟨0,some ⟨B4,0,none⟩,0,ys,rfl,rfl,by omega,by omega,HM4⟩
 case round =>
  obtain⟨i,q,c,yl,rfl,rfl,hi,hgk,HM⟩:=hrel;by_cases hlt:i<n
  ·have hltz:(i:Int)<(n:Int):=by omega
   obtain⟨y,hy⟩:∃ y,yl[i]?=some y:=⟨_,zbC (by rw[HM.out.num.2.2];exact hlt)⟩
   obtain⟨_,m1,_⟩:=HM.out.cell hy;have fz:=HM.out.free (i*8+1);obtain⟨w5,EC⟩:∃ x:World,x=wr.setCell ⟨gM,i*8+1,none⟩ (.bool false):=⟨_,rfl⟩
   have HM5:=hh9 (HM.out.more hy false);rw[<- EC]at HM5;have zX:=hh9 EC;clear hy EC;go_wp2_with fail
   rw[<- zX.out];clear m1 fz;obtain⟨wm,Md⟩:∃ x:World,x=wr:=⟨_,rfl⟩
   subst Md;go_loopg [8] i (fun gk2 vk wr=>∃ (k:Nat) (y2:List LV),vk=.int .i64 (k:Int)/\k<=i/\i-k<=gk2/\Hid (MG w w3 gM n cap l ys y2 i (.slice q i c) wr))
   case atStart=>exact⟨0,_,rfl,by omega,by omega,HM5⟩
   case round =>
    obtain⟨k,y2,rfl,hk,zaV,HK⟩:=hrel;by_cases hki:k<i
    ·have hkz:(k:Int)<(i:Int):=by omega
     have zaW:(k:Int)<(n:Int):=by omega
     obtain⟨u,hu⟩:∃ y,y2[i]?=some y:=⟨_,zbC (by rw[HK.out.num.2.2];exact hlt)⟩
     obtain⟨z,hz⟩:∃ y,y2[k]?=some y:=⟨_,zbC (by rw[HK.out.num.2.2];omega)⟩
     obtain⟨m0,m1,_⟩:=HK.out.cell hu;obtain⟨z0,_⟩:=HK.out.cell hz;have fz:=HK.out.free (i*8+1);obtain⟨S1,hS1⟩:∃ S,S=u.name:=⟨_,rfl⟩
     obtain⟨S2,hS2⟩:∃ S,S=z.name:=⟨_,rfl⟩
     rw[<- hS1]at m0;rw[<- hS2]at z0;have HU:=hh9 hu
     cases hmo:u.more with
     |true =>
      rw[hmo]at m1;have jG:=hh9 ((HK.out.more hu true).call (dJ (zbE _ _) 1:Below _ _ (World.drew _)));clear hu hz hS1 hS2 hmo;go_wp2_with fail
      go_region
      all_goals
       go_wp2_with fail
       go_roundg (i-(k+1))
       case measure=>omega
       case rel=>exact⟨k+1,_,by go_num,by omega,zbA _,jG⟩
     |false =>
      rw[hmo]at m1
      cases hqz:(S2.toList==S1.toList) with
      |true =>
       have jG:=hh9 ((HK.out.more hu true).call (dJ (zbE _ _) 1:Below _ _ (World.drew _)));clear hu hz hS1 hS2 hmo;go_wp2_with fail
       go_region
       all_goals
        go_wp2_with fail
        go_roundg (i-(k+1))
        case measure=>omega
        case rel=>exact⟨k+1,_,by go_num,by omega,zbA _,jG⟩
      |false =>
       have jG:=hh9 ((HK.out.more hu false).call (dJ (zbE _ _) 1:Below _ _ (World.drew _)));clear hu hz hS1 hS2 hmo;go_wp2_with fail
       go_region
       all_goals
        go_wp2_with fail
        go_roundg (i-(k+1))
        case measure=>omega
        case rel=>exact⟨k+1,_,by go_num,by omega,zbA _,jG⟩
    ·obtain rfl:k=i:=by omega
     have hkz:¬ (k:Int)<(k:Int):=by omega
     have hk2:k<n:=hlt;obtain⟨u,hu⟩:∃ y,y2[k]?=some y:=⟨_,zbC (by rw[HK.out.num.2.2];exact hk2)⟩
     obtain⟨s0,hs0⟩:∃ y,ys[k]?=some y:=⟨_,zbC (by rw[HK.out.num.2.1];exact hk2)⟩
     obtain⟨r,hr⟩:∃ y,l[k]?=some y:=⟨_,zbC (by rw[<- HK.out.num.1];exact hk2)⟩
     obtain⟨e1,e2⟩:=HK.out.same k u s0 hu hs0;obtain⟨e3,e4⟩:=HK.out.each k u r hu hr;obtain⟨⟨na,nn,nc,hns⟩,ka,kn,kc,hks⟩:=e4.slices;obtain⟨nm,mo,⟨kd,tx,nv,lo,hi2,kv⟩⟩:=u;simp only[]at hns hks;subst hns hks;obtain⟨f0,f1,f2,f3,f4,f5,f6,f7⟩:=HK.out.cell hu;simp only[]at f0 f1 f2 f3 f4 f5 f6 f7 e1 e2 e3;have HRV:Hid (GK s0=⟨nm,⟨kd,tx,.slice na nn nc,lo,hi2,.slice ka kn kc⟩⟩):=by unfold Hid GK;rw[<- e1,<- e2]
     have HS0:=hh9 hs0;have HU:=hh9 hu;have hg3:=Ae (Nk.out r (zbI hr)).2;obtain⟨NM,hNM⟩:∃ q,q=bn r.expr:=⟨_,rfl⟩
     obtain⟨m,hm⟩:∃ q,q=NM.length:=⟨_,rfl⟩
     have AZ:Below wr.heap.size wr ((wr.drew).alloc (.cells #[.string nm,.int .i64 kd,.string tx,.slice na nn nc,.int .i64 lo,.int .i64 hi2,.slice ka kn kc] 33)):=(show Below wr.heap.size wr wr.drew from dJ (zbE _ _) 1).alloc (zbA _) _;have HMA:=hh9 (HK.out.call AZ);have Ad:=hh9 HMA.out.grow;have hwb:=HK.out.size;have tK:=hh9 hm;have gY:=hh9 hNM;have aG:=hh9 hg3;have HR:=hh9 hr;clear hu hs0 hr e1 e2 e3 e4 hg3 AZ hm hNM f1;go_wp2_with fail
     go_region_law (refine step_append_lies _ (by rfl) _ _ _ (by rfl) w3.heap.size 33 i0 _ 7 104 Tryz.underlying25 hi0 hz0 hz1 hz2 rfl (by omega) (.slice q k c) k (((ys.take k).map GK).flatMap RV.cells) (by rfl) Ad.out ⟨wr.heap.size,0,none⟩ 1 1 [.string nm,.int .i64 kd,.string tx,.slice na nn nc,.int .i64 lo,.int .i64 hi2,.slice ka kn kc] (by rfl) (by rfl) (RH _ _ _ _ rfl) (by intro u hu;simp at hu;rcases hu with rfl|rfl|rfl|rfl|rfl|rfl|rfl<;>rfl) (by omega) (by unfold maxLen;omega) (by omega) (by simp;omega) (wr.heap.size+1) (by simp) ?_;intro gb VY w7 hown hgrow hat M9;have HOWN:=hh9 hown;have bF:=hh9 hgrow;clear hown hgrow hat M9)
     all_goals
      have Nl:=hh9 (HMA.out.push HS0.out (W':=w7) (Jf:=.slice (some ⟨gb,0,none⟩) (k+1) VY) bF.out (by rw[HRV.out,List.flatMap_append];simpa[RV.cells]using HOWN.out));obtain⟨g0,g1,g2,g3,g4,g5,g6,g7⟩:=Nl.out.cell HU.out;simp only[]at g0 g1 g2 g3 g4 g5 g6 g7
      have iM:Hid (∀ W,Below w7.heap.size w7 W->Calls Tryz.prog 6 #[.agg #[.int .i64 kd,.string tx,.slice na nn nc,.int .i64 lo,.int .i64 hi2,.slice ka kn kc]] W (VW NM m W)):=fun W hb=>by
       have h:=XM (((Nl.out.call hb).each k _ r HU.out HR.out).2) (by have:=aG.out.2.2.1;omega) (by have:=aG.out.2.2.2;omega);unfold XV.val at h;rw[<- gY.out]at h;exact h.mono fun _ _ q=>zze tK.out q
      have HN5:Hid (∀ W,Below w7.heap.size w7 W->Calls Tryz.prog 7 #[.agg #[.int .i64 kd,.string tx,.slice na nn nc,.int .i64 lo,.int .i64 hi2,.slice ka kn kc]] W (VW NM m W)):=fun W hb=>by
       have h:=Rz r.expr.tw W _ r.expr ((Nl.out.call hb).each k _ r HU.out HR.out).2.any (zbA _) (by have:=aG.out.2.2.2;omega);unfold XV.val at h;rw[<- gY.out]at h;exact h.mono fun _ _ q=>zze tK.out q
      have Ea:Hid (Below w7.heap.size w7 w7.drew):=dJ (zbE _ _) 1;clear f0 f2 f3 f4 f5 f6 f7 g0 g1;go_wp2_with fail
      go_region_law (first
       |((try go_simp);go_at_call 6;(with_reducible (refine(iM.out _ Ea.out).mono ?_));rintro _ u1 ⟨p1,c1,rfl,hr1,hb⟩;have Qb:Hid (Below w7.heap.size w7 u1):=Ea.out.trans (hb.mono (zbA _));obtain⟨_,_,b2,b3,b4,b5,b6,b7⟩:=(Nl.out.call Qb.out).cell HU.out;simp only[]at b2 b3 b4 b5 b6 b7;have HR1:=hh9 hr1;clear hb hr1)
       |((try go_simp);go_at_call 7;(with_reducible (refine(HN5.out u1 Qb.out).mono ?_));rintro _ u2 ⟨p2,c2,rfl,hr2,hb⟩;have JM:Hid (Below w7.heap.size w7 u2):=Qb.out.trans (hb.mono Qb.out.size);have gQ:=hh9 (HR1.out.below hb);have HR2:=hh9 hr2;clear hb hr2)
       |((try go_simp);go_at_call 5;(with_reducible (refine(OB gQ.out HR2.out).mono ?_));rintro _ u3 ⟨rfl,hb⟩;have HU3:Hid (Below w7.heap.size w7 u3):=JM.out.trans (hb.mono JM.out.size);clear hb)
       |fail)
      all_goals
       have HMN:=hh9 (Nl.out.call HU3.out);go_wp2_with fail
       go_roundg (n-(k+1))
       case measure=>omega
       case rel=>exact⟨k+1,_,_,_,rfl,by go_num,by omega,zbA _,HMN⟩
  ·obtain rfl:i=n:=by omega
   have hltz:¬ (i:Int)<(i:Int):=by omega
   obtain⟨x,hx,hxk⟩:=Ni kk G5;obtain⟨S,hS⟩:∃ S,S=ak x:=⟨_,rfl⟩
   rw[<- hS]at hxk;obtain⟨w6,AX⟩:∃ W:World,W=wr.alloc (.cells #[.string ⟨#[97]⟩,.string ⟨#[98]⟩,.string ⟨#[99]⟩,.string ⟨#[119,111,114,100]⟩,.string ⟨#[120,45,49]⟩,.string ⟨#[110,111,110,101]⟩] 9):=⟨_,rfl⟩
   obtain⟨B6,VZ⟩:∃ B,B=wr.heap.size:=⟨_,rfl⟩
   have hc6:w6.cell? ⟨B6,kk,none⟩=some (.string S):=by
    rw[AX,VZ];exact Dk wr _ _ kk hxk
   have sJ:=hh9 (show Below wr.heap.size wr w6 by rw[AX];exact(zbE _ _).alloc (zbA _) _);have HM6:=hh9 (HM.out.call sJ.out);have HW6:=hh9 AX;have zaX:=hh9 VZ;have kF:=hh9 hx;have HSS:=hh9 hS;have zaY:(kk:Int)<6:=by omega
   have zaZ:(0:Int)<=(kk:Int):=by omega
   have hx1:=Kh.out;have hkm:=HKK.out;have oH:=hh9 (zs1 Nk.out (by have:=VX.out;omega));have N9:Hid ((l.map Je).length<=1000000):=by unfold Hid;rw[List.length_map];have:=VX.out;omega
   have Un:Hid (∀ h,([.string ⟨#[97]⟩,.string ⟨#[98]⟩,.string ⟨#[99]⟩,.string ⟨#[119,111,114,100]⟩,.string ⟨#[120,45,49]⟩,.string ⟨#[110,111,110,101]⟩]:List Value)[kk]'h=.string S):=fun h=>by
    have h2:=zbC h;have h3:([.string ⟨#[97]⟩,.string ⟨#[98]⟩,.string ⟨#[99]⟩,.string ⟨#[119,111,114,100]⟩,.string ⟨#[120,45,49]⟩,.string ⟨#[110,111,110,101]⟩]:List Value)[kk]?=some (.string S):=by simpa using hxk
    exact zbB (h2.symm.trans h3)
   clear hx hS AX VZ hxk;go_wp2_with fail
   rw[<- HW6.out];simp only[Un.out];refine(zz9 (HT.out.below HM6.out.below)).mono ?_;rintro e wa ⟨rfl,hb⟩;have V3:=hh9 (HM6.out.call hb);clear hb;go_wp2_with fail
   refine(zqp (V3.out.lines Nk.out) (HT.out.below V3.out.below) (zvk l yl Nk.out (by have:=VX.out;omega))).mono ?_;rintro e wb ⟨rfl,hb⟩;have HMb:=hh9 (V3.out.call hb);have Cz:=hh9 (HMb.out.rules Nk.out);have R1:=hh9 (zq8 Cz.out kF.out N9.out (fun r hr=>⟨(oH.out.1 r hr).2.1,(oH.out.1 r hr).2.2⟩) oH.out.2);rw[<- HSS.out]at R1;clear hb;go_wp2_with fail
   refine R1.out.mono ?_;rintro e w9 ⟨v9,L9,rfl,hL9,V4,_,IW⟩;have HM9:=hh9 (HMb.out.call IW);have V5:=hh9 (Cz.out.below IW);have R2:=hh9 (zv6 V5.out.rules kF.out N9.out (fun r hr=>(oH.out.1 r hr).2.2) oH.out.2);rw[<- HSS.out]at R2;have HR9:=hh9 V4;have HL9:=hh9 hL9;obtain⟨a9,c9,hv9⟩:=qG V4;subst hv9;obtain⟨n9,Lg⟩:∃ q,q=L9.length:=⟨_,rfl⟩
   rw[<- Lg];have jI:=hh9 Lg;clear IW V4 hL9 Lg;go_wp2_with fail
   refine R2.out.mono ?_;rintro e wc ⟨vc,Lc,rfl,Pm,hrc,_,hbc⟩;obtain rfl:Lc=L9:=Pm.one HL9.out;have HMc:=hh9 (HM9.out.call hbc);have HRc:=hh9 hrc;have V6:=hh9 (mI HR9.out hbc);obtain⟨ac,cc,UD⟩:=qG hrc;subst UD;rw[<- jI.out];have HS:=hh9 (OB (zH V6.out) (zH HRc.out));rw[<- jI.out]at HS;clear hbc hrc Pm;go_wp2_with fail
   refine HS.out.mono ?_;rintro e wd ⟨rfl,hb⟩;have HMd:=hh9 (HMc.out.call hb);clear hb;go_wp2_with fail
   go_ret;exact⟨rfl,HMd.out.below⟩
end Go.Proofs.YtahibnnhjahmnaaGreatDoor
