/- Part 22 of what the laws of the grammar rest on. -/
import Derived.Test.YtekjnfldgjcgeaaGreatDoorA19
import Derived.StillTailTactics
import Derived.BigQuiet
import Derived.Deep.QuietTactic
set_option linter.all false
set_option maxRecDepth 100000
set_option maxHeartbeats 8000000
namespace Go.Proofs.YtekjnfldgjcgeaaGreatDoor
open Go.RowKit
def zro (W:World) (a:Option Addr) (n:Nat) (xs:List Value):Prop:=0<n->∃ g off,a=some ⟨g,off,none⟩/\g<W.heap.size/\∀ (j:Nat) (u:Value),xs[j]?=some u->W.cell? ⟨g,off+j,none⟩=some u
theorem RowAny.open5 {W:World} {v:Value} {n:Nat} {xs:List Value} (h:RowAny W v n xs):∃ a cap,v=.slice a n cap/\n<=cap/\n<=9223372036854775807/\zro W a n xs:=by
 rcases h with ⟨rfl,a,cap,rfl⟩ | ⟨g,off,cap,rfl,h1,h2,h3,h4⟩
 ·exact ⟨a,cap,rfl,Nat.zero_le _,by omega,fun h=>absurd h (by omega)⟩
 ·unfold maxLen at h2
  exact ⟨_,cap,rfl,h1,by omega,fun _=>⟨g,off,rfl,h3,h4⟩⟩
theorem zro.below {W W':World} {a:Option Addr} {n:Nat} {xs:List Value} (h:zro W a n xs) (hb:Below W.heap.size W W'):zro W' a n xs:=fun hn=>by
 obtain ⟨g,off,ha,hg,hc⟩:=h hn
 exact ⟨g,off,ha,Nat.lt_of_lt_of_le hg hb.size,fun j u hj=>(hb.cell (p:=⟨g,off+j,none⟩) hg).trans (hc j u hj)⟩
theorem zwa {W:World} {x:XV} {t:Tree} (h:ETree W x t):∀ (W':World) (y:XV),Below W.heap.size W W'->ETree W' y t ->
  Calls Tryz.prog 33 #[x.val,y.val] W' (zam true W'):=by
 induction h with
 | @mk k lo hi ns ks tx nums kids vs h0 hl0 h1 h2 h3 h4 ih =>
  intro w y hb hy
  cases hy with
  | @mk _ _ _ ns' ks' _ _ _ us g0 gl0 g1 g2 g3 g4 =>
  obtain ⟨a,ca,rfl,hca,hna,ra⟩:=h1.open5
  obtain ⟨b,cb,rfl,hcb,hnb,rb⟩:=g1.open5
  obtain ⟨c,cc,rfl,hcc,hnc,rc⟩:=h2.open5
  obtain ⟨d,cd,rfl,hcd,hnd,rd0⟩:=g2.open5
  obtain ⟨s,hs⟩:∃ s,s=za3 tx:=⟨_,rfl⟩
  rw [<- hs]
  have RA:=hh9 (ra.below hb)
  have RB:=hh9 rb
  have RC:=hh9 (rc.below hb)
  have RD:=hh9 rd0
  obtain ⟨n,hn⟩:∃ n,n=nums.length:=⟨_,rfl⟩
  obtain ⟨m,hm⟩:∃ m,m=kids.length:=⟨_,rfl⟩
  rw [<- hn] at RA RB hca hcb hna ⊢
  rw [<- hm] at RC RD hcc hcd hnc ⊢
  have IH:Hid (∀ (i:Nat) (y:XV) (t:Tree),vs[i]?=some y->kids[i]?=some t->∀ (W':World) (y_1:XV),Below W.heap.size W W'->ETree W' y_1 t->Calls Tryz.prog 33 #[y.val,y_1.val] W' (zam true W')):=ih
  have HB:=hh9 hb
  have G4:=hh9 g4
  have HN:=hh9 hn
  have HM:=hh9 hm
  have H3:=hh9 h3
  have G3:=hh9 g3
  have es:=zvt s
  have es2:=zrh s
  clear h0 hl0 h1 h2 h3 h4 ih hb g0 gl0 g1 g2 g3 g4 ra rb rc rd0 hs hn hm hnb hnd
  show Calls _ _ #[.agg #[.int .i64 k,.string s,.slice a n ca,.int .i64 lo,.int .i64 hi,.slice c m cc],.agg #[.int .i64 k,.string s,.slice b n cb,.int .i64 lo,.int .i64 hi,.slice d m cd]] w _
  go_enter Tryz.func33,Tryz.ntmps33
  go_wp2_with fail
  go_loopw [5] (fun v wr=>∃ j:Nat,v=.int .i64 j/\j<=n/\Boxed w k lo hi s a b c d n m ca cb cc cd wr) (fun v _=>n-(intOf v).toNat)
  case atStart=>exact ⟨0,rfl,by omega,zvu w k lo hi s a b c d n m ca cb cc cd⟩
  case round =>
   obtain ⟨j,rfl,hj,hbx⟩:=hrel
   have HBX:=hh9 hbx
   obtain ⟨⟨p0,p1,p2,p3,p4,p5⟩,⟨q0,q1,q2,q3,q4,q5⟩,hbel⟩:=hbx
   have HBEL:=hh9 hbel
   by_cases hlt:j<n
   ·obtain ⟨g,off,rfl,hg,hca'⟩:=RA.out (by omega)
    obtain ⟨g',off',rfl,hg',hcb'⟩:=RB.out (by omega)
    have hjn:j<nums.length:=by rw [<- HN.out];exact hlt
    have e0:=(hbel.cell (p:=⟨g,off+j,none⟩) hg).trans (hca' j _ (zgz nums j hjn))
    have e1:=(hbel.cell (p:=⟨g',off'+j,none⟩) hg').trans (hcb' j _ (zgz nums j hjn))
    obtain ⟨u,hu⟩:∃ u,u=nums[j]:=⟨_,rfl⟩
    rw [<- hu] at e0 e1
    have eu:(u != u)=false:=by simp
    have q6:decide ((j:Int)<(n:Int))=true:=decide_eq_true (by omega)
    clear hca' hcb' hu hbel hg hg' p0 p1 p3 p4 p5 q0 q1 q3 q4 q5
    have HP:=p2
    go_wp2_with fail
    go_quiet (fail)
    go_wp2_with fail
    go_roundw
    case rel=>exact ⟨j+1,by go_num,by omega,HBX.out.drew _⟩
    case measure=>simp [intOf];omega
   ·have q6:decide ((j:Int)<(n:Int))=false:=decide_eq_false (by omega)
    obtain ⟨w0,hw0⟩:∃ y,y=wr:=⟨_,rfl⟩
    subst hw0
    clear hbel p0 p1 p3 p4 p5 q0 q1 q3 q4 q5
    go_wp2_with fail
    clear p2 q2 q6 hlt hj HBEL
    go_loopw [6] (fun v wr=>∃ j:Nat,v=.int .i64 j/\j<=m/\Boxed w k lo hi s a b c d n m ca cb cc cd wr) (fun v _=>m-(intOf v).toNat)
    case atStart=>exact ⟨0,rfl,by omega,HBX.out⟩
    case round =>
     clear HBX
     obtain ⟨j,rfl,hj,hbx⟩:=hrel
     have HBX:=hh9 hbx
     obtain ⟨⟨p0,p1,p2,p3,p4,p5⟩,⟨q0,q1,q2,q3,q4,q5⟩,hbel⟩:=hbx
     by_cases hlt:j<m
     ·obtain ⟨g,off,rfl,hg,hca'⟩:=RC.out (by omega)
      obtain ⟨g',off',rfl,hg',hcb'⟩:=RD.out (by omega)
      obtain ⟨vx,hvx⟩:∃ y,vs[j]?=some y:=⟨_,List.getElem?_eq_getElem (by rw [H3.out,<- HM.out];exact hlt)⟩
      obtain ⟨uy,huy⟩:∃ y,us[j]?=some y:=⟨_,List.getElem?_eq_getElem (by rw [G3.out,<- HM.out];exact hlt)⟩
      obtain ⟨tt,htt⟩:∃ y,kids[j]?=some y:=⟨_,List.getElem?_eq_getElem (by rw [<- HM.out];exact hlt)⟩
      have CX:∀ (i:Nat) (u:Value),i<6->vx.cells[i]?=some u->wr.cell? ⟨g,off+(j*6+i),none⟩=some u:=fun i u hi hu =>
       (hbel.cell (p:=⟨g,off+(j*6+i),none⟩) hg).trans (hca' _ u ((zc9 vs j i vx hvx hi).trans hu))
      have CY:∀ (i:Nat) (u:Value),i<6->uy.cells[i]?=some u->wr.cell? ⟨g',off'+(j*6+i),none⟩=some u:=fun i u hi hu =>
       (hbel.cell (p:=⟨g',off'+(j*6+i),none⟩) hg').trans (hcb' _ u ((zc9 us j i uy huy hi).trans hu))
      have e0:=CX 0 _ (by omega) rfl
      have e1:=CX 1 _ (by omega) rfl
      have e2:=CX 2 _ (by omega) rfl
      have e3:=CX 3 _ (by omega) rfl
      have e4:=CX 4 _ (by omega) rfl
      have e5:=CX 5 _ (by omega) rfl
      have f0:=CY 0 _ (by omega) rfl
      have f1:=CY 1 _ (by omega) rfl
      have f2:=CY 2 _ (by omega) rfl
      have f3:=CY 3 _ (by omega) rfl
      have f4:=CY 4 _ (by omega) rfl
      have f5:=CY 5 _ (by omega) rfl
      have CALL:Hid (∀ W1,Below wr.heap.size wr W1->Calls Tryz.prog 33 #[vx.val,uy.val] W1 (zam true W1)):=fun W1 hb1=>by
       have hlo:w.heap.size<=wr.heap.size:=hbel.size
       have hw1:Below w.heap.size w W1:=hbel.trans (hb1.mono hlo)
       exact IH.out j vx tt hvx htt W1 uy (HB.out.trans (hw1.mono HB.out.size)) ((G4.out j uy tt huy htt).under hw1)
      have q6:decide ((j:Int)<(m:Int))=true:=decide_eq_true (by omega)
      rw [<- Nat.add_assoc] at e0 e1 e2 e3 e4 e5 f0 f1 f2 f3 f4 f5
      rw [Nat.add_zero] at e0 f0
      obtain ⟨vk,vt,vns,vlo,vhi,vks⟩:=vx
      obtain ⟨uk,ut,uns,ulo,uhi,uks⟩:=uy
      clear CX CY hca' hcb' hg hg' hvx huy htt hbel p0 p1 p2 p3 p4 q0 q1 q2 q3 q4
      go_wp2_with fail
      go_still_tail 10,(by kernel_rfl)
      change wpList _ _ _ _ _ wr.drew
      go_wp2_with fail
      refine (CALL.out _ ((Below.refl _ _).drew)).mono ?_
      rintro e w1 ⟨rfl,hb1⟩
      have HX:=hh9 (HBX.out.under (hb1.mono (Nat.le_refl _)))
      clear hb1 p5 q5 e0 e1 e2 e3 e4 e5 f0 f1 f2 f3 f4 f5
      go_wp2_with fail
      go_roundw
      case rel=>exact ⟨j+1,by go_num,by omega,HX.out⟩
      case measure=>simp [intOf];omega
     ·have q6:decide ((j:Int)<(m:Int))=false:=decide_eq_false (by omega)
      have HBE:=hh9 hbel
      clear hbel p0 p1 p2 p3 p4 q0 q1 q2 q3 q4
      go_wp2_with fail
      go_ret
      exact ⟨rfl,HBE.out⟩
theorem zwb (s:ByteArray):(s.toList != s.toList)=false:=by simp
theorem zwc {w:World} {a b:Value} {ya yb:List RV} {g:List GR} (ha:zdg w a ya g) (hb:zdg w b yb g):Calls Tryz.prog 15 #[a,b] w (zam true w):=by
 obtain ⟨h1,h2,h3⟩:=ha
 obtain ⟨k1,k2,k3⟩:=hb
 obtain ⟨aa,ca,rfl,hca,hna,ra⟩:=h1.open5
 obtain ⟨ab,cb,rfl,hcb,_,rb⟩:=k1.open5
 have RA:=hh9 ra
 have RB:=hh9 rb
 have H2:=hh9 h2
 have K2:=hh9 k2
 have H3:=hh9 h3
 have K3:=hh9 k3
 obtain ⟨n,hn⟩:∃ n,n=g.length:=⟨_,rfl⟩
 rw [<- hn] at RA RB hca hcb hna ⊢
 have HN:=hh9 hn
 have HB0:=hh9 (Below.refl w.heap.size w)
 clear h1 h2 h3 k1 k2 k3 ra rb hn
 go_enter Tryz.func15,Tryz.ntmps15
 go_wp2_with fail
 go_loopw [5] (fun v wr=>∃ i:Nat,v=.int .i64 i/\i<=n/\Hid (Below w.heap.size w wr)) (fun v _=>n-(intOf v).toNat)
 case atStart=>exact ⟨0,rfl,by omega,HB0⟩
 case round =>
  obtain ⟨i,rfl,hi,HBEL⟩:=hrel
  by_cases hlt:i<n
  ·obtain ⟨ga,oa,rfl,hga,hcsa⟩:=RA.out (by omega)
   obtain ⟨gb,ob,rfl,hgb,hcsb⟩:=RB.out (by omega)
   obtain ⟨Y,hY⟩:∃ y,ya[i]?=some y:=⟨_,List.getElem?_eq_getElem (by rw [H2.out,<- HN.out];exact hlt)⟩
   obtain ⟨Z,hZ⟩:∃ y,yb[i]?=some y:=⟨_,List.getElem?_eq_getElem (by rw [K2.out,<- HN.out];exact hlt)⟩
   obtain ⟨t,ht⟩:∃ y,g[i]?=some y:=⟨_,List.getElem?_eq_getElem (by rw [<- HN.out];exact hlt)⟩
   have CX:∀ (j:Nat) (u:Value),j<7->Y.cells[j]?=some u->wr.cell? ⟨ga,oa+(i*7+j),none⟩=some u:=fun j u hj hu =>
    (HBEL.out.cell (p:=⟨ga,oa+(i*7+j),none⟩) hga).trans (hcsa _ u ((zct ya i j Y hY hj).trans hu))
   have CY:∀ (j:Nat) (u:Value),j<7->Z.cells[j]?=some u->wr.cell? ⟨gb,ob+(i*7+j),none⟩=some u:=fun j u hj hu =>
    (HBEL.out.cell (p:=⟨gb,ob+(i*7+j),none⟩) hgb).trans (hcsb _ u ((zct yb i j Z hZ hj).trans hu))
   obtain ⟨en,_,hEY⟩:=H3.out i Y t hY ht
   obtain ⟨en2,_,hEZ⟩:=K3.out i Z t hZ ht
   have CALL:Hid (∀ W1,Below wr.heap.size wr W1->Calls Tryz.prog 33 #[Y.expr.val,Z.expr.val] W1 (zam true W1)):=fun W1 hb1 =>
    zwa hEY W1 Z.expr (za0 HBEL.out hb1) (hEZ.under (za0 HBEL.out hb1))
   obtain ⟨nm,⟨vk,vt,vns,vlo,vhi,vks⟩⟩:=Y
   obtain ⟨nm2,⟨uk,ut,uns,ulo,uhi,uks⟩⟩:=Z
   simp only [] at en en2
   have enn:nm2=nm:=en2.trans en.symm
   subst enn
   have e0:=CX 0 _ (by omega) rfl
   have e1:=CX 1 _ (by omega) rfl
   have e2:=CX 2 _ (by omega) rfl
   have e3:=CX 3 _ (by omega) rfl
   have e4:=CX 4 _ (by omega) rfl
   have e5:=CX 5 _ (by omega) rfl
   have e6:=CX 6 _ (by omega) rfl
   have f0:=CY 0 _ (by omega) rfl
   have f1:=CY 1 _ (by omega) rfl
   have f2:=CY 2 _ (by omega) rfl
   have f3:=CY 3 _ (by omega) rfl
   have f4:=CY 4 _ (by omega) rfl
   have f5:=CY 5 _ (by omega) rfl
   have f6:=CY 6 _ (by omega) rfl
   rw [<- Nat.add_assoc] at e0 e1 e2 e3 e4 e5 e6 f0 f1 f2 f3 f4 f5 f6
   rw [Nat.add_zero] at e0 f0
   simp only [] at e0 e1 e2 e3 e4 e5 e6 f0 f1 f2 f3 f4 f5 f6
   have es:=zwb nm2
   unfold XV.val at CALL
   simp only [] at CALL
   clear CX CY hcsa hcsb hY hZ ht en en2 hEY hEZ hga hgb
   go_wp2_with fail
   go_still_tail 22,(by kernel_rfl)
   change wpList _ _ _ _ _ wr.drew
   go_wp2_with fail
   refine (CALL.out _ ((Below.refl _ _).drew)).mono ?_
   rintro e w1 ⟨rfl,hb1⟩
   have HB1:=hh9 (za0 HBEL.out (⟨hb1.os,hb1.tape,hb1.output,hb1.size,hb1.block⟩:Below wr.heap.size wr w1))
   clear hb1
   go_wp2_with fail
   go_roundw
   case rel=>exact ⟨i+1,by go_num,by omega,HB1⟩
   case measure=>simp [intOf];omega
  ·go_wp2_with fail
   go_ret
   exact ⟨rfl,HBEL.out⟩
theorem zoq {w:World} {a b:Value} {L:List (List Int)} (ha:RowAny w a L.length (zbr L)) (hb:RowAny w b L.length (zbr L)):Calls Tryz.prog 10 #[a,b] w (zam true w):=by
 obtain ⟨aa,ca,rfl,hca,hna,ra⟩:=ha.open5
 obtain ⟨ab,cb,rfl,hcb,_,rb⟩:=hb.open5
 have RA:=hh9 ra
 have RB:=hh9 rb
 obtain ⟨n,hn⟩:∃ n,n=L.length:=⟨_,rfl⟩
 rw [<- hn] at RA RB hca hcb hna ⊢
 have HN:=hh9 hn
 have HB0:=hh9 (Below.refl w.heap.size w)
 clear ha hb ra rb hn
 go_enter Tryz.func10,Tryz.ntmps10
 go_wp2_with fail
 go_loopw [5] (fun v wr=>∃ i:Nat,v=.int .i64 i/\i<=n/\Hid (Below w.heap.size w wr)) (fun v _=>n-(intOf v).toNat)
 case atStart=>exact ⟨0,rfl,by omega,HB0⟩
 case round =>
  obtain ⟨i,rfl,hi,HBEL⟩:=hrel
  by_cases hlt:i<n
  ·obtain ⟨ga,oa,rfl,hga,hcsa⟩:=RA.out (by omega)
   obtain ⟨gb,ob,rfl,hgb,hcsb⟩:=RB.out (by omega)
   obtain ⟨x,hx⟩:∃ y,L[i]?=some y:=⟨_,List.getElem?_eq_getElem (by rw [<- HN.out];exact hlt)⟩
   have hsx:(zbr L)[i]?=some (.string (za3 x)):=by unfold zbr;rw [List.getElem?_map,hx];rfl
   have e0:=(HBEL.out.cell (p:=⟨ga,oa+i,none⟩) hga).trans (hcsa i _ hsx)
   have f0:=(HBEL.out.cell (p:=⟨gb,ob+i,none⟩) hgb).trans (hcsb i _ hsx)
   obtain ⟨s,hs⟩:∃ s,s=za3 x:=⟨_,rfl⟩
   rw [<- hs] at e0 f0
   have es:=zwb s
   clear hcsa hcsb hsx hs hx hga hgb
   go_wp2_with fail
   go_quiet (fail)
   go_wp2_with fail
   go_roundw
   case rel=>exact ⟨i+1,by go_num,by omega,za7 HBEL.out _⟩
   case measure=>simp [intOf];omega
  ·go_wp2_with fail
   go_ret
   exact ⟨rfl,HBEL.out⟩
end Go.Proofs.YtekjnfldgjcgeaaGreatDoor
