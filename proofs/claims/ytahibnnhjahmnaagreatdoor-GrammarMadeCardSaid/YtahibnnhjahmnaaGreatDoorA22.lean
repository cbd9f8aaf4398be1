/- Part 22 of what the laws of the grammar rest on. -/
import Derived.Test.YtahibnnhjahmnaaGreatDoorA21
set_option linter.all false
set_option maxRecDepth 100000
set_option maxHeartbeats 8000000
namespace Go.Proofs.YtahibnnhjahmnaaGreatDoor
open Go.RowKit
def OA(W:World)(a:Option Addr)(n:Nat)(xs:List Value):Prop:=0<n->∃ g off,a=some ⟨g,off,none⟩/\g<W.heap.size/\∀ (j:Nat) (u:Value),xs[j]?=some u->W.cell? ⟨g,off+j,none⟩=some u
theorem au.mM{W:World}{v:Value}{n:Nat}{xs:List Value}(h:au W v n xs):∃ a cap,v=.slice a n cap/\n<=cap/\n<=9223372036854775807/\OA W a n xs:=by
 rcases h with ⟨rfl,a,cap,rfl⟩|⟨g,off,cap,rfl,h1,h2,h3,h4⟩
 ·exact⟨a,cap,rfl,Nat.zero_le _,by omega,fun h=>absurd h (by omega)⟩
 ·unfold maxLen at h2;exact⟨_,cap,rfl,h1,by omega,fun _=>⟨g,off,rfl,h3,h4⟩⟩
theorem OA.below{W W':World}{a:Option Addr}{n:Nat}{xs:List Value}(h:OA W a n xs)(hb:Below W.heap.size W W'):OA W' a n xs:=fun hn=>by
 obtain⟨g,off,ha,hg,hc⟩:=h hn;exact⟨g,off,ha,Nat.lt_of_lt_of_le hg hb.size,fun j u hj=>(hb.cell (p:=⟨g,off+j,none⟩) hg).trans (hc j u hj)⟩
theorem zxr{W:World}{x:XV}{t:Tree}(h:aM W x t):∀ (W':World) (y:XV),Below W.heap.size W W'->aM W' y t ->
  Calls Tryz.prog 38 #[x.val,y.val] W' (gG true W'):=by
 induction h with
 |@mk k lo hi ns ks tx nums kids vs h0 hl0 h1 h2 h3 h4 ih =>
  intro w y hb hy
  cases hy with
  |@mk _ _ _ ns' ks' _ _ _ us g0 gl0 g1 g2 g3 g4 =>
  obtain⟨a,ca,rfl,hca,hna,ra⟩:=h1.mM;obtain⟨b,cb,rfl,hcb,hnb,rb⟩:=g1.mM;obtain⟨c,cc,rfl,hcc,hnc,rc⟩:=h2.mM;obtain⟨d,cd,rfl,hcd,hnd,Y5⟩:=g2.mM;obtain⟨s,hs⟩:∃ s,s=ak tx:=⟨_,rfl⟩
  rw[<- hs];have RA:=hh9 (ra.below hb);have RB:=hh9 rb;have RC:=hh9 (rc.below hb);have RD:=hh9 Y5;obtain⟨n,hn⟩:∃ n,n=nums.length:=⟨_,rfl⟩
  obtain⟨m,hm⟩:∃ m,m=kids.length:=⟨_,rfl⟩
  rw[<- hn]at RA RB hca hcb hna ⊢;rw[<- hm]at RC RD hcc hcd hnc ⊢;have IH:Hid (∀ (i:Nat) (y:XV) (t:Tree),vs[i]?=some y->kids[i]?=some t->∀ (W':World) (y_1:XV),Below W.heap.size W W'->aM W' y_1 t->Calls Tryz.prog 38 #[y.val,y_1.val] W' (gG true W')):=ih;have HB:=hh9 hb;have G4:=hh9 g4;have HN:=hh9 hn;have HM:=hh9 hm;have H3:=hh9 h3;have G3:=hh9 g3;have es:=zxd s;have es2:=YB s;clear h0 hl0 h1 h2 h3 h4 ih hb g0 gl0 g1 g2 g3 g4 ra rb rc Y5 hs hn hm hnb hnd;show Calls _ _ #[.agg #[.int .i64 k,.string s,.slice a n ca,.int .i64 lo,.int .i64 hi,.slice c m cc],.agg #[.int .i64 k,.string s,.slice b n cb,.int .i64 lo,.int .i64 hi,.slice d m cd]] w _
  go_enter Tryz.func38,Tryz.ntmps38;go_wp2_with fail
  go_loopw [5] (fun v wr=>∃ j:Nat,v=.int .i64 j/\j<=n/\Boxed w k lo hi s a b c d n m ca cb cc cd wr) (fun v _=>n-(intOf v).toNat)
  case atStart=>exact⟨0,rfl,by omega,zxe w k lo hi s a b c d n m ca cb cc cd⟩
  case round =>
   obtain⟨j,rfl,hj,hbx⟩:=hrel;have gL:=hh9 hbx;obtain⟨⟨p0,p1,p2,p3,p4,p5⟩,⟨q0,q1,q2,q3,q4,q5⟩,hbel⟩:=hbx;have aA:=hh9 hbel;by_cases hlt:j<n
   ·obtain⟨g,off,rfl,hg,zo⟩:=RA.out (by omega);obtain⟨g',off',rfl,hg',zq⟩:=RB.out (by omega);have hjn:j<nums.length:=by rw[<- HN.out];exact hlt
    have e0:=(hbel.cell (p:=⟨g,off+j,none⟩) hg).trans (zo j _ (Nn nums j hjn));have e1:=(hbel.cell (p:=⟨g',off'+j,none⟩) hg').trans (zq j _ (Nn nums j hjn));obtain⟨u,hu⟩:∃ u,u=nums[j]:=⟨_,rfl⟩
    rw[<- hu]at e0 e1;have eu:(u != u)=false:=by simp
    have q6:decide ((j:Int)<(n:Int))=true:=zbN (by omega);clear zo zq hu hbel hg hg' p0 p1 p3 p4 p5 q0 q1 q3 q4 q5;have HP:=p2;go_wp2_with fail
    go_quiet (fail)
    go_wp2_with fail
    go_roundw
    case rel=>exact⟨j+1,by go_num,by omega,gL.out.drew _⟩
    case measure=>simp[intOf];omega
   ·have q6:decide ((j:Int)<(n:Int))=false:=zbM (by omega);obtain⟨w0,hw0⟩:∃ y,y=wr:=⟨_,rfl⟩
    subst hw0;clear hbel p0 p1 p3 p4 p5 q0 q1 q3 q4 q5;go_wp2_with fail
    clear p2 q2 q6 hlt hj aA;go_loopw [6] (fun v wr=>∃ j:Nat,v=.int .i64 j/\j<=m/\Boxed w k lo hi s a b c d n m ca cb cc cd wr) (fun v _=>m-(intOf v).toNat)
    case atStart=>exact⟨0,rfl,by omega,gL.out⟩
    case round =>
     clear gL;obtain⟨j,rfl,hj,hbx⟩:=hrel;have gL:=hh9 hbx;obtain⟨⟨p0,p1,p2,p3,p4,p5⟩,⟨q0,q1,q2,q3,q4,q5⟩,hbel⟩:=hbx;by_cases hlt:j<m
     ·obtain⟨g,off,rfl,hg,zo⟩:=RC.out (by omega);obtain⟨g',off',rfl,hg',zq⟩:=RD.out (by omega);obtain⟨vx,Te⟩:∃ y,vs[j]?=some y:=⟨_,zbC (by rw[H3.out,<- HM.out];exact hlt)⟩
      obtain⟨uy,Ka⟩:∃ y,us[j]?=some y:=⟨_,zbC (by rw[G3.out,<- HM.out];exact hlt)⟩
      obtain⟨tt,Tf⟩:∃ y,kids[j]?=some y:=⟨_,zbC (by rw[<- HM.out];exact hlt)⟩
      have CX:∀ (i:Nat) (u:Value),i<6->vx.cells[i]?=some u->wr.cell? ⟨g,off+(j*6+i),none⟩=some u:=fun i u hi hu =>
       (hbel.cell (p:=⟨g,off+(j*6+i),none⟩) hg).trans (zo _ u ((pV vs j i vx Te hi).trans hu))
      have CY:∀ (i:Nat) (u:Value),i<6->uy.cells[i]?=some u->wr.cell? ⟨g',off'+(j*6+i),none⟩=some u:=fun i u hi hu =>
       (hbel.cell (p:=⟨g',off'+(j*6+i),none⟩) hg').trans (zq _ u ((pV us j i uy Ka hi).trans hu))
      have e0:=CX 0 _ (by omega) rfl;have e1:=CX 1 _ (by omega) rfl;have e2:=CX 2 _ (by omega) rfl;have e3:=CX 3 _ (by omega) rfl;have e4:=CX 4 _ (by omega) rfl;have e5:=CX 5 _ (by omega) rfl;have f0:=CY 0 _ (by omega) rfl;have f1:=CY 1 _ (by omega) rfl;have f2:=CY 2 _ (by omega) rfl;have f3:=CY 3 _ (by omega) rfl;have f4:=CY 4 _ (by omega) rfl;have f5:=CY 5 _ (by omega) rfl
      have CALL:Hid (∀ W1,Below wr.heap.size wr W1->Calls Tryz.prog 38 #[vx.val,uy.val] W1 (gG true W1)):=fun W1 hb1=>by
       have hlo:w.heap.size<=wr.heap.size:=hbel.size;have hw1:Below w.heap.size w W1:=hbel.trans (hb1.mono hlo);exact IH.out j vx tt Te Tf W1 uy (HB.out.trans (hw1.mono HB.out.size)) ((G4.out j uy tt Ka Tf).under hw1)
      have q6:decide ((j:Int)<(m:Int))=true:=zbN (by omega);rw[<- Nat.add_assoc]at e0 e1 e2 e3 e4 e5 f0 f1 f2 f3 f4 f5;rw[Nat.add_zero]at e0 f0;obtain⟨vk,vt,vns,vlo,vhi,vks⟩:=vx;obtain⟨uk,ut,uns,ulo,uhi,uks⟩:=uy;clear CX CY zo zq hg hg' Te Ka Tf hbel p0 p1 p2 p3 p4 q0 q1 q2 q3 q4;go_wp2_with fail
      go_still_tail 10,(by kernel_rfl)
      change wpList _ _ _ _ _ wr.drew;go_wp2_with fail
      refine(CALL.out _ ((zbE _ _).drew)).mono ?_;rintro e w1 ⟨rfl,hb1⟩;have HX:=hh9 (gL.out.under (hb1.mono (zbA _)));clear hb1 p5 q5 e0 e1 e2 e3 e4 e5 f0 f1 f2 f3 f4 f5;go_wp2_with fail
      go_roundw
      case rel=>exact⟨j+1,by go_num,by omega,HX.out⟩
      case measure=>simp[intOf];omega
     ·have q6:decide ((j:Int)<(m:Int))=false:=zbM (by omega);have pK:=hh9 hbel;clear hbel p0 p1 p2 p3 p4 q0 q1 q2 q3 q4;go_wp2_with fail
      go_ret;exact⟨rfl,pK.out⟩
theorem Y6(s:ByteArray):(s.toList != s.toList)=false:=by simp
theorem zxt{w:World}{a b:Value}{ya yb:List RV}{g:List GR}(ha:qF w a ya g)(hb:qF w b yb g):Calls Tryz.prog 19 #[a,b] w (gG true w):=by
 obtain⟨h1,h2,h3⟩:=ha;obtain⟨k1,k2,k3⟩:=hb;obtain⟨aa,ca,rfl,hca,hna,ra⟩:=h1.mM;obtain⟨ab,cb,rfl,hcb,_,rb⟩:=k1.mM;have RA:=hh9 ra;have RB:=hh9 rb;have H2:=hh9 h2;have K2:=hh9 k2;have H3:=hh9 h3;have K3:=hh9 k3;obtain⟨n,hn⟩:∃ n,n=g.length:=⟨_,rfl⟩
 rw[<- hn]at RA RB hca hcb hna ⊢;have HN:=hh9 hn;have HB0:=hh9 (zbE w.heap.size w);clear h1 h2 h3 k1 k2 k3 ra rb hn;go_enter Tryz.func19,Tryz.ntmps19;go_wp2_with fail
 go_loopw [5] (fun v wr=>∃ i:Nat,v=.int .i64 i/\i<=n/\Hid (Below w.heap.size w wr)) (fun v _=>n-(intOf v).toNat)
 case atStart=>exact⟨0,rfl,by omega,HB0⟩
 case round =>
  obtain⟨i,rfl,hi,aA⟩:=hrel;by_cases hlt:i<n
  ·obtain⟨ga,oa,rfl,hga,zu⟩:=RA.out (by omega);obtain⟨gb,ob,rfl,hgb,zw⟩:=RB.out (by omega);obtain⟨Y,hY⟩:∃ y,ya[i]?=some y:=⟨_,zbC (by rw[H2.out,<- HN.out];exact hlt)⟩
   obtain⟨Z,hZ⟩:∃ y,yb[i]?=some y:=⟨_,zbC (by rw[K2.out,<- HN.out];exact hlt)⟩
   obtain⟨t,ht⟩:∃ y,g[i]?=some y:=⟨_,zbC (by rw[<- HN.out];exact hlt)⟩
   have CX:∀ (j:Nat) (u:Value),j<7->Y.cells[j]?=some u->wr.cell? ⟨ga,oa+(i*7+j),none⟩=some u:=fun j u hj hu =>
    (aA.out.cell (p:=⟨ga,oa+(i*7+j),none⟩) hga).trans (zu _ u ((uI ya i j Y hY hj).trans hu))
   have CY:∀ (j:Nat) (u:Value),j<7->Z.cells[j]?=some u->wr.cell? ⟨gb,ob+(i*7+j),none⟩=some u:=fun j u hj hu =>
    (aA.out.cell (p:=⟨gb,ob+(i*7+j),none⟩) hgb).trans (zw _ u ((uI yb i j Z hZ hj).trans hu))
   obtain⟨en,_,x9⟩:=H3.out i Y t hY ht;obtain⟨KF,_,KG⟩:=K3.out i Z t hZ ht
   have CALL:Hid (∀ W1,Below wr.heap.size wr W1->Calls Tryz.prog 38 #[Y.expr.val,Z.expr.val] W1 (gG true W1)):=fun W1 hb1 =>
    zxr x9 W1 Z.expr (aJ aA.out hb1) (KG.under (aJ aA.out hb1))
   obtain⟨nm,⟨vk,vt,vns,vlo,vhi,vks⟩⟩:=Y;obtain⟨Y7,⟨uk,ut,uns,ulo,uhi,uks⟩⟩:=Z;simp only[]at en KF;have enn:Y7=nm:=KF.trans en.symm;subst enn;have e0:=CX 0 _ (by omega) rfl;have e1:=CX 1 _ (by omega) rfl;have e2:=CX 2 _ (by omega) rfl;have e3:=CX 3 _ (by omega) rfl;have e4:=CX 4 _ (by omega) rfl;have e5:=CX 5 _ (by omega) rfl;have e6:=CX 6 _ (by omega) rfl;have f0:=CY 0 _ (by omega) rfl;have f1:=CY 1 _ (by omega) rfl;have f2:=CY 2 _ (by omega) rfl;have f3:=CY 3 _ (by omega) rfl;have f4:=CY 4 _ (by omega) rfl;have f5:=CY 5 _ (by omega) rfl;have f6:=CY 6 _ (by omega) rfl;rw[<- Nat.add_assoc]at e0 e1 e2 e3 e4 e5 e6 f0 f1 f2 f3 f4 f5 f6;rw[Nat.add_zero]at e0 f0;simp only[]at e0 e1 e2 e3 e4 e5 e6 f0 f1 f2 f3 f4 f5 f6;have es:=Y6 Y7;unfold XV.val at CALL;simp only[]at CALL;clear CX CY zu zw hY hZ ht en KF x9 KG hga hgb;go_wp2_with fail
   go_still_tail 22,(by kernel_rfl)
   change wpList _ _ _ _ _ wr.drew;go_wp2_with fail
   refine(CALL.out _ ((zbE _ _).drew)).mono ?_;rintro e w1 ⟨rfl,hb1⟩;have HB1:=hh9 (aJ aA.out (⟨hb1.os,hb1.tape,hb1.output,hb1.size,hb1.block⟩:Below wr.heap.size wr w1));clear hb1;go_wp2_with fail
   go_roundw
   case rel=>exact⟨i+1,by go_num,by omega,HB1⟩
   case measure=>simp[intOf];omega
  ·go_wp2_with fail
   go_ret;exact⟨rfl,aA.out⟩
theorem OB{w:World}{a b:Value}{L:List (List Int)}(ha:au w a L.length (gy L))(hb:au w b L.length (gy L)):Calls Tryz.prog 5 #[a,b] w (gG true w):=by
 obtain⟨aa,ca,rfl,hca,hna,ra⟩:=ha.mM;obtain⟨ab,cb,rfl,hcb,_,rb⟩:=hb.mM;have RA:=hh9 ra;have RB:=hh9 rb;obtain⟨n,hn⟩:∃ n,n=L.length:=⟨_,rfl⟩
 rw[<- hn]at RA RB hca hcb hna ⊢;have HN:=hh9 hn;have HB0:=hh9 (zbE w.heap.size w);clear ha hb ra rb hn;go_enter Tryz.func5,Tryz.ntmps5;go_wp2_with fail
 go_loopw [5] (fun v wr=>∃ i:Nat,v=.int .i64 i/\i<=n/\Hid (Below w.heap.size w wr)) (fun v _=>n-(intOf v).toNat)
 case atStart=>exact⟨0,rfl,by omega,HB0⟩
 case round =>
  obtain⟨i,rfl,hi,aA⟩:=hrel;by_cases hlt:i<n
  ·obtain⟨ga,oa,rfl,hga,zu⟩:=RA.out (by omega);obtain⟨gb,ob,rfl,hgb,zw⟩:=RB.out (by omega);obtain⟨x,hx⟩:∃ y,L[i]?=some y:=⟨_,zbC (by rw[<- HN.out];exact hlt)⟩
   have hsx:(gy L)[i]?=some (.string (ak x)):=by unfold gy;rw[List.getElem?_map,hx];rfl
   have e0:=(aA.out.cell (p:=⟨ga,oa+i,none⟩) hga).trans (zu i _ hsx);have f0:=(aA.out.cell (p:=⟨gb,ob+i,none⟩) hgb).trans (zw i _ hsx);obtain⟨s,hs⟩:∃ s,s=ak x:=⟨_,rfl⟩
   rw[<- hs]at e0 f0;have es:=Y6 s;clear zu zw hsx hs hx hga hgb;go_wp2_with fail
   go_quiet (fail)
   go_wp2_with fail
   go_roundw
   case rel=>exact⟨i+1,by go_num,by omega,dJ aA.out _⟩
   case measure=>simp[intOf];omega
  ·go_wp2_with fail
   go_ret;exact⟨rfl,aA.out⟩
end Go.Proofs.YtahibnnhjahmnaaGreatDoor
