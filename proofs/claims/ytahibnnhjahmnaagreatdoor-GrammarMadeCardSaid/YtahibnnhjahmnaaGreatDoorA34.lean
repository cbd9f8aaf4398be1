/- Part 34 of what the laws of the grammar rest on. -/
import Derived.Test.YtahibnnhjahmnaaGreatDoorA11
set_option linter.all false
set_option maxRecDepth 100000
set_option maxHeartbeats 8000000
namespace Go.Proofs.YtahibnnhjahmnaaGreatDoor
open Go.RowKit
def zS(d:Nat):Prop:=∀ (W:World) (X:XV) (t:Tree) (q:Int),q=(d:Int)->aM W X t->Calls Tryz.prog 53 #[X.val,.int .i64 q] W (gG (dK d t) W)
theorem Ej{d:Nat}{k lo hi:Int}{x ns:List Int}{kids:List Tree}{i:Nat}{t:Tree}(h:kids[i]?=some t)(hf:dG d t=false):dK d (.mk k x ns lo hi kids)=false:=by
 rw[QG,WL (P:=dG d) h hf,Bool.and_false]
theorem El{d:Nat}{k lo hi:Int}{x ns:List Int}{kids:List Tree}(h:kids.all (dG d)=true):dK d (.mk k x ns lo hi kids)=(jd k x ns lo hi kids.length&&aY k x ns lo hi kids.length):=by
 rw[QG,h,Bool.and_true]
structure eO (w W:World) (k lo hi:Int) (s:ByteArray) (ns ks:Value):Prop where
 arg:X6 W w.heap.size k lo hi s ns ks
 below:Below w.heap.size w W
theorem eO.under{w W W1:World}{k lo hi:Int}{s:ByteArray}{ns ks:Value}(h:eO w W k lo hi s ns ks)(hb:Below W.heap.size W W1):eO w W1 k lo hi s ns ks:=⟨h.arg.under hb,aJ h.below hb⟩
theorem eO.new(w:World)(k lo hi:Int)(s:ByteArray)(ns ks:Value):eO w (w.alloc (aB k lo hi s ns ks)) k lo hi s ns ks:=⟨X6.new w k lo hi s ns ks,(zbE _ _).alloc (zbA _) _⟩

-- generated
theorem au.at{W:World}{c:Option Addr}{n cap:Nat}{xs:List Value}(h:au W (.slice c n cap) n xs)(hn:0<n):∃ g off,c=some ⟨g,off,none⟩/\n<=cap/\g<W.heap.size/\∀ (j:Nat) (u:Value),xs[j]?=some u->W.cell? ⟨g,off+j,none⟩=some u:=by
 rcases h with ⟨h0,_⟩|⟨g,off,cap',hv,h1,h2,h3,h4⟩
 ·omega
 ·injection hv with e1 e2 e3
  subst e1 e3;exact⟨g,off,rfl,h1,h3,h4⟩
theorem qdr{d:Nat}(hd:d<=50)(ih:∀ e,d=e+1->zS e){x ns:List Int}{lo hi:Int}{kids:List Tree}{w:World}{a c:Option Addr}{ca cc:Nat}{vs:List XV}{q:Int}(hq:q=(d:Int))
  (h0:∀ c∈x,0<=c/\c<=255) (hl:x.length<=9223372036854775807) (h1:au w (.slice a ns.length ca) ns.length (dA ns)) (h2:pX w (.slice c kids.length cc) vs kids) :
  Calls Tryz.prog 53 #[.agg #[.int .i64 1,.string (ak x),.slice a ns.length ca,.int .i64 lo,.int .i64 hi,.slice c kids.length cc],.int .i64 q] w (gG (dK d (.mk 1 x ns lo hi kids)) w):=by
 have vH:=hh9 (fun (h:kids.all (dG d)=true)=>El (d:=d) (k:=1) (x:=x) (ns:=ns) (lo:=lo) (hi:=hi) h);have dW:=hh9 (fun (i:Nat) (t:Tree) (h:kids[i]?=some t) (hf:dG d t=false)=>Ej (d:=d) (k:=1) (x:=x) (ns:=ns) (lo:=lo) (hi:=hi) h hf);obtain⟨Bv,lJ⟩:∃ Bv,Bv=dK d (.mk 1 x ns lo hi kids):=⟨_,rfl⟩
 rw[<- lJ];have lK:=hh9 lJ;have hm:=h1.slice;have hnk:=h2.1.slice;obtain⟨_,_,_,hm⟩:=hm;obtain⟨_,_,_,hnk⟩:=hnk;obtain⟨n,hnn⟩:∃ n,n=kids.length:=⟨_,rfl⟩
 obtain⟨m,hmm⟩:∃ m,m=ns.length:=⟨_,rfl⟩
 obtain⟨S,hS⟩:∃ S,S=ak x:=⟨_,rfl⟩
 have pG:Hid (x.isEmpty=true->S.toList.isEmpty=true):=fun h=>by rw[hS];exact wJ h
 have nU:Hid (x.isEmpty=false->S.toList.isEmpty=false):=fun h=>by rw[hS];exact wK h
 have iM:=hh9 (fun W=>BK (x:=x) W h0 hl);have ug:=hh9 (fun W=>Dt (x:=x) W h0 hl);have qw:=hh9 (fun W lo hi (h1':lo<=20000) (h2':hi<=20000) (hb:Below w.heap.size w W)=>Du (x:=ns) W lo hi h1' h2' (h1.below hb));rw[<- hS]at iM ug ⊢;rw[<- hnn]at h2 hnk ⊢;rw[<- hmm]at h1 hm qw ⊢;have bH:=hh9 hnn;have ng:=hh9 hmm;have HK:=hh9 h2;have HR1:=hh9 h1;have nS:=hh9 ih;have HQ:=hh9 hq;have q0:0<=q:=by omega
 have q1:q<=50:=by omega
 have hA:=eO.new w 1 lo hi S (.slice a m ca) (.slice c n cc);unfold aB at hA;have jO:=hh9 hA;clear lJ hnn hmm hS h0 hl h1 h2 ih hq hd hA;go_enter Tryz.func53,Tryz.ntmps53;go_wp2_with fail
 go_loopw [5] (fun v wr=>∃ i:Nat,v=.int .i64 i/\i<=n/\Hid (eO w wr 1 lo hi S (.slice a m ca) (.slice c n cc))/\Hid (∀ (j:Nat) (t:Tree),j<i->kids[j]?=some t->dG d t=true)) (fun v _=>n-(intOf v).toNat)
 case atStart=>exact⟨0,rfl,by omega,jO,fun j t h=>by omega⟩
 case round =>
  obtain⟨i,rfl,hi',HA,aF⟩:=hrel;obtain⟨a0,a1,a2,a3,a4,a5⟩:=HA.out.arg.cells;by_cases hlt:i<n
  ·have hk1:au w (.slice c n cc) n (vs.flatMap XV.cells):=by have:=HK.out.1;rwa[<- bH.out]at this
   obtain⟨g,off,rfl,g1,g3,g4⟩:=hk1.at (by omega);clear hk1;obtain⟨Y,hY⟩:∃ y,vs[i]?=some y:=⟨_,zbC (by rw[HK.out.2.1,<- bH.out];exact hlt)⟩
   obtain⟨t,ht⟩:∃ y,kids[i]?=some y:=⟨_,zbC (by rw[<- bH.out];exact hlt)⟩
   have CX:∀ (j:Nat) (u:Value),j<6->Y.cells[j]?=some u->wr.cell? ⟨g,off+(i*6+j),none⟩=some u:=fun j u hj hu =>
    (HA.out.below.cell (p:=⟨g,off+(i*6+j),none⟩) g3).trans (g4 _ u ((pV vs i j Y hY hj).trans hu))
   have lI:=(HK.out.2.2 i Y t hY ht).under HA.out.below;have jM:=hh9 ht;have fH:=hh9 (fun e (he:d=e+1)=>nS.out e he wr Y t (q-1) (by have:=HQ.out;omega) lI);obtain⟨k',s',pI,lo',nA,kv'⟩:=Y;have e0:=CX 0 _ (by omega) rfl;have e1:=CX 1 _ (by omega) rfl;have e2:=CX 2 _ (by omega) rfl;have e3:=CX 3 _ (by omega) rfl;have e4:=CX 4 _ (by omega) rfl;have e5:=CX 5 _ (by omega) rfl;rw[<- Nat.add_assoc]at e0 e1 e2 e3 e4 e5;rw[Nat.add_zero]at e0;clear CX hY ht lI g4;by_cases hq1:q<1
   ·have HV:=hh9 (show Bv=false by
     rw[lK.out];refine dW.out i t jM.out ?_;have:d=0:=by have:=HQ.out;omega
     rw[this];rfl)
    have HB:=hh9 HA.out.below;go_wp2_with fail
    go_ret;exact⟨by rw[HV.out];exact rfl,HB.out⟩
   ·obtain⟨e,he⟩:∃ e,d=e+1:=⟨d-1,by have:=HQ.out;omega⟩
    have HC:=hh9 (fH.out e he);have heq:dG d t=dK e t:=by rw[he];rfl
    rw[<- heq]at HC;clear he heq
    cases hf:dG d t
    ·have HV:=hh9 (show Bv=false by rw[lK.out];exact dW.out i t jM.out hf);rw[hf]at HC;clear hf;go_wp2_with fail
     refine HC.out.mono ?_;rintro e w' ⟨rfl,hb'⟩;have HB2:=hh9 (aJ HA.out.below hb');clear hb';go_wp2_with fail
     go_ret;exact⟨by rw[HV.out];exact rfl,HB2.out⟩
    ·have bT:Hid (∀ (j:Nat) (u:Tree),j<i+1->kids[j]?=some u->dG d u=true):=fun j u hj hu=>by
      by_cases g:j=i
      ·subst g;rw[jM.out]at hu;rw[<- zbB hu];exact hf
      ·exact aF.out j u (by omega) hu
     rw[hf]at HC;clear hf;go_wp2_with fail
     refine HC.out.mono ?_;rintro e w' ⟨rfl,hb'⟩;have HA2:=hh9 (HA.out.under hb');clear hb' e0 e1 e2 e3 e4 e5 a0 a1 a2 a3 a4 a5;go_wp2_with fail
     go_roundw
     case rel=>exact⟨i+1,by go_num,by omega,HA2,bT⟩
     case measure=>simp[intOf];omega
  ·have HY:Hid (kids.all (dG d)=true):=BN (n:=n) (by rw[bH.out];exact zbA _) (fun j t h hc=>aF.out j t (by omega) hc);have HW:=hh9 (show Bv=(jd 1 x ns lo hi n&&aY 1 x ns lo hi n) by rw[lK.out,vH.out HY.out,bH.out])
   cases hx:x.isEmpty
   ·have qx:=nU.out hx;have HV:=hh9 (show Bv=false by rw[HW.out];simp[aY,hx]);clear hx;go_wp2_with fail
    go_ret;exact⟨by rw[HV.out];exact rfl,HA.out.below⟩
   ·have qx:=pG.out hx;have BL:S.toList=[]:=List.isEmpty_iff.1 qx;have HX:=hh9 hx;clear hx;by_cases hm0:m=0
    ·subst hm0;have jH:Hid (ns.isEmpty=true):=by unfold Hid;rw[List.isEmpty_iff];exact List.length_eq_zero_iff.1 ng.out.symm
     by_cases hlo0:lo=0
     ·subst hlo0;by_cases hhi0:hi=0
      ·subst hhi0;by_cases Mg:2<=n
       ·have qn:decide ((1:Int)<(n:Int))=true:=zbN (by omega);have Em:decide (1<n)=true:=zbN (by omega);have HV:=hh9 (show Bv=true by rw[HW.out];unfold jd aY;rw[if_pos (by decide)];simp[HX.out,jH.out,Mg]);go_wp2_with fail
        go_ret;exact⟨by rw[HV.out];exact rfl,HA.out.below⟩
       ·have qn:decide ((1:Int)<(n:Int))=false:=zbM (by omega);have Em:decide (1<n)=false:=zbM (by omega);have HV:=hh9 (show Bv=false by rw[HW.out];unfold jd aY;rw[if_pos (by decide)];simp[HX.out,jH.out,Mg]);go_wp2_with fail
        go_ret;exact⟨by rw[HV.out];exact rfl,HA.out.below⟩
      ·have Ar:(hi==0)=false:=by simp;omega
       have xM:(hi != 0)=true:=by simp;omega
       have HV:=hh9 (show Bv=false by rw[HW.out];simp[aY,hhi0]);clear hhi0;go_wp2_with fail
       go_ret;exact⟨by rw[HV.out];exact rfl,HA.out.below⟩
     ·have Au:(lo==0)=false:=by simp;omega
      have xO:(lo != 0)=true:=by simp;omega
      have HV:=hh9 (show Bv=false by rw[HW.out];simp[aY,hlo0]);clear hlo0;go_wp2_with fail
      go_ret;exact⟨by rw[HV.out];exact rfl,HA.out.below⟩
    ·have qm:decide ((0:Int)<(m:Int))=true:=zbN (by omega);have Mh:decide (0<m)=true:=zbN (by omega)
     have jH:Hid (ns.isEmpty=false):=by
      cases e:ns with
      |nil=>have:=ng.out;rw[e]at this;exact absurd this hm0
      |cons _ _=>rfl
     have HV:=hh9 (show Bv=false by rw[HW.out];simp[aY,jH.out]);go_wp2_with fail
     go_ret;exact⟨by rw[HV.out];exact rfl,HA.out.below⟩
theorem qds{d:Nat}(hd:d<=50)(ih:∀ e,d=e+1->zS e){x ns:List Int}{lo hi:Int}{kids:List Tree}{w:World}{a c:Option Addr}{ca cc:Nat}{vs:List XV}{q:Int}(hq:q=(d:Int))
  (h0:∀ c∈x,0<=c/\c<=255) (hl:x.length<=9223372036854775807) (h1:au w (.slice a ns.length ca) ns.length (dA ns)) (h2:pX w (.slice c kids.length cc) vs kids) :
  Calls Tryz.prog 53 #[.agg #[.int .i64 2,.string (ak x),.slice a ns.length ca,.int .i64 lo,.int .i64 hi,.slice c kids.length cc],.int .i64 q] w (gG (dK d (.mk 2 x ns lo hi kids)) w):=by
 have vH:=hh9 (fun (h:kids.all (dG d)=true)=>El (d:=d) (k:=2) (x:=x) (ns:=ns) (lo:=lo) (hi:=hi) h);have dW:=hh9 (fun (i:Nat) (t:Tree) (h:kids[i]?=some t) (hf:dG d t=false)=>Ej (d:=d) (k:=2) (x:=x) (ns:=ns) (lo:=lo) (hi:=hi) h hf);obtain⟨Bv,lJ⟩:∃ Bv,Bv=dK d (.mk 2 x ns lo hi kids):=⟨_,rfl⟩
 rw[<- lJ];have lK:=hh9 lJ;have hm:=h1.slice;have hnk:=h2.1.slice;obtain⟨_,_,_,hm⟩:=hm;obtain⟨_,_,_,hnk⟩:=hnk;obtain⟨n,hnn⟩:∃ n,n=kids.length:=⟨_,rfl⟩
 obtain⟨m,hmm⟩:∃ m,m=ns.length:=⟨_,rfl⟩
 obtain⟨S,hS⟩:∃ S,S=ak x:=⟨_,rfl⟩
 have pG:Hid (x.isEmpty=true->S.toList.isEmpty=true):=fun h=>by rw[hS];exact wJ h
 have nU:Hid (x.isEmpty=false->S.toList.isEmpty=false):=fun h=>by rw[hS];exact wK h
 have iM:=hh9 (fun W=>BK (x:=x) W h0 hl);have ug:=hh9 (fun W=>Dt (x:=x) W h0 hl);have qw:=hh9 (fun W lo hi (h1':lo<=20000) (h2':hi<=20000) (hb:Below w.heap.size w W)=>Du (x:=ns) W lo hi h1' h2' (h1.below hb));rw[<- hS]at iM ug ⊢;rw[<- hnn]at h2 hnk ⊢;rw[<- hmm]at h1 hm qw ⊢;have bH:=hh9 hnn;have ng:=hh9 hmm;have HK:=hh9 h2;have HR1:=hh9 h1;have nS:=hh9 ih;have HQ:=hh9 hq;have q0:0<=q:=by omega
 have q1:q<=50:=by omega
 have hA:=eO.new w 2 lo hi S (.slice a m ca) (.slice c n cc);unfold aB at hA;have jO:=hh9 hA;clear lJ hnn hmm hS h0 hl h1 h2 ih hq hd hA;go_enter Tryz.func53,Tryz.ntmps53;go_wp2_with fail
 go_loopw [5] (fun v wr=>∃ i:Nat,v=.int .i64 i/\i<=n/\Hid (eO w wr 2 lo hi S (.slice a m ca) (.slice c n cc))/\Hid (∀ (j:Nat) (t:Tree),j<i->kids[j]?=some t->dG d t=true)) (fun v _=>n-(intOf v).toNat)
 case atStart=>exact⟨0,rfl,by omega,jO,fun j t h=>by omega⟩
 case round =>
  obtain⟨i,rfl,hi',HA,aF⟩:=hrel;obtain⟨a0,a1,a2,a3,a4,a5⟩:=HA.out.arg.cells;by_cases hlt:i<n
  ·have hk1:au w (.slice c n cc) n (vs.flatMap XV.cells):=by have:=HK.out.1;rwa[<- bH.out]at this
   obtain⟨g,off,rfl,g1,g3,g4⟩:=hk1.at (by omega);clear hk1;obtain⟨Y,hY⟩:∃ y,vs[i]?=some y:=⟨_,zbC (by rw[HK.out.2.1,<- bH.out];exact hlt)⟩
   obtain⟨t,ht⟩:∃ y,kids[i]?=some y:=⟨_,zbC (by rw[<- bH.out];exact hlt)⟩
   have CX:∀ (j:Nat) (u:Value),j<6->Y.cells[j]?=some u->wr.cell? ⟨g,off+(i*6+j),none⟩=some u:=fun j u hj hu =>
    (HA.out.below.cell (p:=⟨g,off+(i*6+j),none⟩) g3).trans (g4 _ u ((pV vs i j Y hY hj).trans hu))
   have lI:=(HK.out.2.2 i Y t hY ht).under HA.out.below;have jM:=hh9 ht;have fH:=hh9 (fun e (he:d=e+1)=>nS.out e he wr Y t (q-1) (by have:=HQ.out;omega) lI);obtain⟨k',s',pI,lo',nA,kv'⟩:=Y;have e0:=CX 0 _ (by omega) rfl;have e1:=CX 1 _ (by omega) rfl;have e2:=CX 2 _ (by omega) rfl;have e3:=CX 3 _ (by omega) rfl;have e4:=CX 4 _ (by omega) rfl;have e5:=CX 5 _ (by omega) rfl;rw[<- Nat.add_assoc]at e0 e1 e2 e3 e4 e5;rw[Nat.add_zero]at e0;clear CX hY ht lI g4;by_cases hq1:q<1
   ·have HV:=hh9 (show Bv=false by
     rw[lK.out];refine dW.out i t jM.out ?_;have:d=0:=by have:=HQ.out;omega
     rw[this];rfl)
    have HB:=hh9 HA.out.below;go_wp2_with fail
    go_ret;exact⟨by rw[HV.out];exact rfl,HB.out⟩
   ·obtain⟨e,he⟩:∃ e,d=e+1:=⟨d-1,by have:=HQ.out;omega⟩
    have HC:=hh9 (fH.out e he);have heq:dG d t=dK e t:=by rw[he];rfl
    rw[<- heq]at HC;clear he heq
    cases hf:dG d t
    ·have HV:=hh9 (show Bv=false by rw[lK.out];exact dW.out i t jM.out hf);rw[hf]at HC;clear hf;go_wp2_with fail
     refine HC.out.mono ?_;rintro e w' ⟨rfl,hb'⟩;have HB2:=hh9 (aJ HA.out.below hb');clear hb';go_wp2_with fail
     go_ret;exact⟨by rw[HV.out];exact rfl,HB2.out⟩
    ·have bT:Hid (∀ (j:Nat) (u:Tree),j<i+1->kids[j]?=some u->dG d u=true):=fun j u hj hu=>by
      by_cases g:j=i
      ·subst g;rw[jM.out]at hu;rw[<- zbB hu];exact hf
      ·exact aF.out j u (by omega) hu
     rw[hf]at HC;clear hf;go_wp2_with fail
     refine HC.out.mono ?_;rintro e w' ⟨rfl,hb'⟩;have HA2:=hh9 (HA.out.under hb');clear hb' e0 e1 e2 e3 e4 e5 a0 a1 a2 a3 a4 a5;go_wp2_with fail
     go_roundw
     case rel=>exact⟨i+1,by go_num,by omega,HA2,bT⟩
     case measure=>simp[intOf];omega
  ·have HY:Hid (kids.all (dG d)=true):=BN (n:=n) (by rw[bH.out];exact zbA _) (fun j t h hc=>aF.out j t (by omega) hc);have HW:=hh9 (show Bv=(jd 2 x ns lo hi n&&aY 2 x ns lo hi n) by rw[lK.out,vH.out HY.out,bH.out])
   cases hx:x.isEmpty
   ·have qx:=nU.out hx;have HV:=hh9 (show Bv=false by rw[HW.out];simp[aY,hx]);clear hx;go_wp2_with fail
    go_ret;exact⟨by rw[HV.out];exact rfl,HA.out.below⟩
   ·have qx:=pG.out hx;have BL:S.toList=[]:=List.isEmpty_iff.1 qx;have HX:=hh9 hx;clear hx;by_cases hm0:m=0
    ·subst hm0;have jH:Hid (ns.isEmpty=true):=by unfold Hid;rw[List.isEmpty_iff];exact List.length_eq_zero_iff.1 ng.out.symm
     by_cases hlo0:lo=0
     ·subst hlo0;by_cases hhi0:hi=0
      ·subst hhi0;by_cases Mg:2<=n
       ·have qn:decide ((1:Int)<(n:Int))=true:=zbN (by omega);have Em:decide (1<n)=true:=zbN (by omega);have HV:=hh9 (show Bv=true by rw[HW.out];unfold jd aY;rw[if_pos (by decide)];simp[HX.out,jH.out,Mg]);go_wp2_with fail
        go_ret;exact⟨by rw[HV.out];exact rfl,HA.out.below⟩
       ·have qn:decide ((1:Int)<(n:Int))=false:=zbM (by omega);have Em:decide (1<n)=false:=zbM (by omega);have HV:=hh9 (show Bv=false by rw[HW.out];unfold jd aY;rw[if_pos (by decide)];simp[HX.out,jH.out,Mg]);go_wp2_with fail
        go_ret;exact⟨by rw[HV.out];exact rfl,HA.out.below⟩
      ·have Ar:(hi==0)=false:=by simp;omega
       have xM:(hi != 0)=true:=by simp;omega
       have HV:=hh9 (show Bv=false by rw[HW.out];simp[aY,hhi0]);clear hhi0;go_wp2_with fail
       go_ret;exact⟨by rw[HV.out];exact rfl,HA.out.below⟩
     ·have Au:(lo==0)=false:=by simp;omega
      have xO:(lo != 0)=true:=by simp;omega
      have HV:=hh9 (show Bv=false by rw[HW.out];simp[aY,hlo0]);clear hlo0;go_wp2_with fail
      go_ret;exact⟨by rw[HV.out];exact rfl,HA.out.below⟩
    ·have qm:decide ((0:Int)<(m:Int))=true:=zbN (by omega);have Mh:decide (0<m)=true:=zbN (by omega)
     have jH:Hid (ns.isEmpty=false):=by
      cases e:ns with
      |nil=>have:=ng.out;rw[e]at this;exact absurd this hm0
      |cons _ _=>rfl
     have HV:=hh9 (show Bv=false by rw[HW.out];simp[aY,jH.out]);go_wp2_with fail
     go_ret;exact⟨by rw[HV.out];exact rfl,HA.out.below⟩
theorem qf4{d:Nat}(hd:d<=50)(ih:∀ e,d=e+1->zS e){x ns:List Int}{lo hi:Int}{kids:List Tree}{w:World}{a c:Option Addr}{ca cc:Nat}{vs:List XV}{q:Int}(hq:q=(d:Int))
  (h0:∀ c∈x,0<=c/\c<=255) (hl:x.length<=9223372036854775807) (h1:au w (.slice a ns.length ca) ns.length (dA ns)) (h2:pX w (.slice c kids.length cc) vs kids) :
  Calls Tryz.prog 53 #[.agg #[.int .i64 3,.string (ak x),.slice a ns.length ca,.int .i64 lo,.int .i64 hi,.slice c kids.length cc],.int .i64 q] w (gG (dK d (.mk 3 x ns lo hi kids)) w):=by
 have vH:=hh9 (fun (h:kids.all (dG d)=true)=>El (d:=d) (k:=3) (x:=x) (ns:=ns) (lo:=lo) (hi:=hi) h);have dW:=hh9 (fun (i:Nat) (t:Tree) (h:kids[i]?=some t) (hf:dG d t=false)=>Ej (d:=d) (k:=3) (x:=x) (ns:=ns) (lo:=lo) (hi:=hi) h hf);obtain⟨Bv,lJ⟩:∃ Bv,Bv=dK d (.mk 3 x ns lo hi kids):=⟨_,rfl⟩
 rw[<- lJ];have lK:=hh9 lJ;have hm:=h1.slice;have hnk:=h2.1.slice;obtain⟨_,_,_,hm⟩:=hm;obtain⟨_,_,_,hnk⟩:=hnk;obtain⟨n,hnn⟩:∃ n,n=kids.length:=⟨_,rfl⟩
 obtain⟨m,hmm⟩:∃ m,m=ns.length:=⟨_,rfl⟩
 obtain⟨S,hS⟩:∃ S,S=ak x:=⟨_,rfl⟩
 have pG:Hid (x.isEmpty=true->S.toList.isEmpty=true):=fun h=>by rw[hS];exact wJ h
 have nU:Hid (x.isEmpty=false->S.toList.isEmpty=false):=fun h=>by rw[hS];exact wK h
 have iM:=hh9 (fun W=>BK (x:=x) W h0 hl);have ug:=hh9 (fun W=>Dt (x:=x) W h0 hl);have qw:=hh9 (fun W lo hi (h1':lo<=20000) (h2':hi<=20000) (hb:Below w.heap.size w W)=>Du (x:=ns) W lo hi h1' h2' (h1.below hb));rw[<- hS]at iM ug ⊢;rw[<- hnn]at h2 hnk ⊢;rw[<- hmm]at h1 hm qw ⊢;have bH:=hh9 hnn;have ng:=hh9 hmm;have HK:=hh9 h2;have HR1:=hh9 h1;have nS:=hh9 ih;have HQ:=hh9 hq;have q0:0<=q:=by omega
 have q1:q<=50:=by omega
 have hA:=eO.new w 3 lo hi S (.slice a m ca) (.slice c n cc);unfold aB at hA;have jO:=hh9 hA;clear lJ hnn hmm hS h0 hl h1 h2 ih hq hd hA;go_enter Tryz.func53,Tryz.ntmps53;go_wp2_with fail
 go_loopw [5] (fun v wr=>∃ i:Nat,v=.int .i64 i/\i<=n/\Hid (eO w wr 3 lo hi S (.slice a m ca) (.slice c n cc))/\Hid (∀ (j:Nat) (t:Tree),j<i->kids[j]?=some t->dG d t=true)) (fun v _=>n-(intOf v).toNat)
 case atStart=>exact⟨0,rfl,by omega,jO,fun j t h=>by omega⟩
 case round =>
  obtain⟨i,rfl,hi',HA,aF⟩:=hrel;obtain⟨a0,a1,a2,a3,a4,a5⟩:=HA.out.arg.cells;by_cases hlt:i<n
  ·have hk1:au w (.slice c n cc) n (vs.flatMap XV.cells):=by have:=HK.out.1;rwa[<- bH.out]at this
   obtain⟨g,off,rfl,g1,g3,g4⟩:=hk1.at (by omega);clear hk1;obtain⟨Y,hY⟩:∃ y,vs[i]?=some y:=⟨_,zbC (by rw[HK.out.2.1,<- bH.out];exact hlt)⟩
   obtain⟨t,ht⟩:∃ y,kids[i]?=some y:=⟨_,zbC (by rw[<- bH.out];exact hlt)⟩
   have CX:∀ (j:Nat) (u:Value),j<6->Y.cells[j]?=some u->wr.cell? ⟨g,off+(i*6+j),none⟩=some u:=fun j u hj hu =>
    (HA.out.below.cell (p:=⟨g,off+(i*6+j),none⟩) g3).trans (g4 _ u ((pV vs i j Y hY hj).trans hu))
   have lI:=(HK.out.2.2 i Y t hY ht).under HA.out.below;have jM:=hh9 ht;have fH:=hh9 (fun e (he:d=e+1)=>nS.out e he wr Y t (q-1) (by have:=HQ.out;omega) lI);obtain⟨k',s',pI,lo',nA,kv'⟩:=Y;have e0:=CX 0 _ (by omega) rfl;have e1:=CX 1 _ (by omega) rfl;have e2:=CX 2 _ (by omega) rfl;have e3:=CX 3 _ (by omega) rfl;have e4:=CX 4 _ (by omega) rfl;have e5:=CX 5 _ (by omega) rfl;rw[<- Nat.add_assoc]at e0 e1 e2 e3 e4 e5;rw[Nat.add_zero]at e0;clear CX hY ht lI g4;by_cases hq1:q<1
   ·have HV:=hh9 (show Bv=false by
     rw[lK.out];refine dW.out i t jM.out ?_;have:d=0:=by have:=HQ.out;omega
     rw[this];rfl)
    have HB:=hh9 HA.out.below;go_wp2_with fail
    go_ret;exact⟨by rw[HV.out];exact rfl,HB.out⟩
   ·obtain⟨e,he⟩:∃ e,d=e+1:=⟨d-1,by have:=HQ.out;omega⟩
    have HC:=hh9 (fH.out e he);have heq:dG d t=dK e t:=by rw[he];rfl
    rw[<- heq]at HC;clear he heq
    cases hf:dG d t
    ·have HV:=hh9 (show Bv=false by rw[lK.out];exact dW.out i t jM.out hf);rw[hf]at HC;clear hf;go_wp2_with fail
     refine HC.out.mono ?_;rintro e w' ⟨rfl,hb'⟩;have HB2:=hh9 (aJ HA.out.below hb');clear hb';go_wp2_with fail
     go_ret;exact⟨by rw[HV.out];exact rfl,HB2.out⟩
    ·have bT:Hid (∀ (j:Nat) (u:Tree),j<i+1->kids[j]?=some u->dG d u=true):=fun j u hj hu=>by
      by_cases g:j=i
      ·subst g;rw[jM.out]at hu;rw[<- zbB hu];exact hf
      ·exact aF.out j u (by omega) hu
     rw[hf]at HC;clear hf;go_wp2_with fail
     refine HC.out.mono ?_;rintro e w' ⟨rfl,hb'⟩;have HA2:=hh9 (HA.out.under hb');clear hb' e0 e1 e2 e3 e4 e5 a0 a1 a2 a3 a4 a5;go_wp2_with fail
     go_roundw
     case rel=>exact⟨i+1,by go_num,by omega,HA2,bT⟩
     case measure=>simp[intOf];omega
  ·have HY:Hid (kids.all (dG d)=true):=BN (n:=n) (by rw[bH.out];exact zbA _) (fun j t h hc=>aF.out j t (by omega) hc);have HW:=hh9 (show Bv=(jd 3 x ns lo hi n&&aY 3 x ns lo hi n) by rw[lK.out,vH.out HY.out,bH.out])
   cases hx:x.isEmpty
   ·have qx:=nU.out hx;have HV:=hh9 (show Bv=false by rw[HW.out];simp[aY,hx]);clear hx;go_wp2_with fail
    go_ret;exact⟨by rw[HV.out];exact rfl,HA.out.below⟩
   ·have qx:=pG.out hx;have BL:S.toList=[]:=List.isEmpty_iff.1 qx;have HX:=hh9 hx;clear hx;by_cases hm0:m=0
    ·subst hm0;have jH:Hid (ns.isEmpty=true):=by unfold Hid;rw[List.isEmpty_iff];exact List.length_eq_zero_iff.1 ng.out.symm
     by_cases hn1:n=1
     ·subst hn1;by_cases c0:0<=lo
      ·have u0:decide (0<=lo)=true:=zbN c0;by_cases c1:lo<=200
       ·have u1:decide (lo<=200)=true:=zbN c1;by_cases c2:hi<=200
        ·have u2:decide (hi<=200)=true:=zbN c2;by_cases c3:-1<=hi
         ·have u3:decide (-1<=hi)=true:=zbN c3;by_cases c4:hi<0
          ·have u4:decide (hi<0)=true:=zbN c4;have c5:hi=-1:=by omega
           have HV:=hh9 (show Bv=true by rw[HW.out];unfold jd aY;rw[if_neg (by decide),if_pos rfl];simp[HX.out,jH.out,dN,c0,c1,c5]);go_wp2_with fail
           go_ret;exact⟨by rw[HV.out];exact rfl,HA.out.below⟩
          ·have u4:decide (hi<0)=false:=zbM c4;have c5:hi≠-1:=by omega
           by_cases c6:lo<=hi
           ·have u6:decide (lo<=hi)=true:=zbN c6;have HV:=hh9 (show Bv=true by rw[HW.out];unfold jd aY;rw[if_neg (by decide),if_pos rfl];simp[HX.out,jH.out,dN,c0,c1,c2,c6]);go_wp2_with fail
            go_ret;exact⟨by rw[HV.out];exact rfl,HA.out.below⟩
           ·have u6:decide (lo<=hi)=false:=zbM c6;have HV:=hh9 (show Bv=false by rw[HW.out];unfold jd aY;rw[if_neg (by decide),if_pos rfl];simp[HX.out,jH.out,dN,c5,c6]);go_wp2_with fail
            go_ret;exact⟨by rw[HV.out];exact rfl,HA.out.below⟩
         ·have u3:decide (-1<=hi)=false:=zbM c3;have c4:hi≠-1:=by omega
          have c5:¬ lo<=hi:=by omega
          have HV:=hh9 (show Bv=false by rw[HW.out];unfold jd aY;rw[if_neg (by decide),if_pos rfl];simp[HX.out,jH.out,dN,c4,c5]);go_wp2_with fail
          go_ret;exact⟨by rw[HV.out];exact rfl,HA.out.below⟩
        ·have u2:decide (hi<=200)=false:=zbM c2;have c3:hi≠-1:=by omega
         have HV:=hh9 (show Bv=false by rw[HW.out];unfold jd aY;rw[if_neg (by decide),if_pos rfl];simp[HX.out,jH.out,dN,c2,c3]);go_wp2_with fail
         go_ret;exact⟨by rw[HV.out];exact rfl,HA.out.below⟩
       ·have u1:decide (lo<=200)=false:=zbM c1;have HV:=hh9 (show Bv=false by rw[HW.out];unfold jd aY;rw[if_neg (by decide),if_pos rfl];simp[HX.out,jH.out,dN,c1]);go_wp2_with fail
        go_ret;exact⟨by rw[HV.out];exact rfl,HA.out.below⟩
      ·have u0:decide (0<=lo)=false:=zbM c0;have HV:=hh9 (show Bv=false by rw[HW.out];unfold jd aY;rw[if_neg (by decide),if_pos rfl];simp[HX.out,jH.out,dN,c0]);go_wp2_with fail
       go_ret;exact⟨by rw[HV.out];exact rfl,HA.out.below⟩
     ·have qn:((n:Int)==1)=false:=by simp;omega
      have Em:decide ((n:Int)=1)=false:=zbM (by omega);have Pt:decide (n=1)=false:=zbM hn1;have HV:=hh9 (show Bv=false by rw[HW.out];unfold jd aY;rw[if_neg (by decide),if_pos rfl];simp[HX.out,jH.out,hn1]);go_wp2_with fail
      go_ret;exact⟨by rw[HV.out];exact rfl,HA.out.below⟩
    ·have qm:decide ((0:Int)<(m:Int))=true:=zbN (by omega);have Mh:decide (0<m)=true:=zbN (by omega)
     have jH:Hid (ns.isEmpty=false):=by
      cases e:ns with
      |nil=>have:=ng.out;rw[e]at this;exact absurd this hm0
      |cons _ _=>rfl
     have HV:=hh9 (show Bv=false by rw[HW.out];simp[aY,jH.out]);go_wp2_with fail
     go_ret;exact⟨by rw[HV.out];exact rfl,HA.out.below⟩
theorem qf5{d:Nat}(hd:d<=50)(ih:∀ e,d=e+1->zS e){x ns:List Int}{lo hi:Int}{kids:List Tree}{w:World}{a c:Option Addr}{ca cc:Nat}{vs:List XV}{q:Int}(hq:q=(d:Int))
  (h0:∀ c∈x,0<=c/\c<=255) (hl:x.length<=9223372036854775807) (h1:au w (.slice a ns.length ca) ns.length (dA ns)) (h2:pX w (.slice c kids.length cc) vs kids) :
  Calls Tryz.prog 53 #[.agg #[.int .i64 4,.string (ak x),.slice a ns.length ca,.int .i64 lo,.int .i64 hi,.slice c kids.length cc],.int .i64 q] w (gG (dK d (.mk 4 x ns lo hi kids)) w):=by
 have vH:=hh9 (fun (h:kids.all (dG d)=true)=>El (d:=d) (k:=4) (x:=x) (ns:=ns) (lo:=lo) (hi:=hi) h);have dW:=hh9 (fun (i:Nat) (t:Tree) (h:kids[i]?=some t) (hf:dG d t=false)=>Ej (d:=d) (k:=4) (x:=x) (ns:=ns) (lo:=lo) (hi:=hi) h hf);obtain⟨Bv,lJ⟩:∃ Bv,Bv=dK d (.mk 4 x ns lo hi kids):=⟨_,rfl⟩
 rw[<- lJ];have lK:=hh9 lJ;have hm:=h1.slice;have hnk:=h2.1.slice;obtain⟨_,_,_,hm⟩:=hm;obtain⟨_,_,_,hnk⟩:=hnk;obtain⟨n,hnn⟩:∃ n,n=kids.length:=⟨_,rfl⟩
 obtain⟨m,hmm⟩:∃ m,m=ns.length:=⟨_,rfl⟩
 obtain⟨S,hS⟩:∃ S,S=ak x:=⟨_,rfl⟩
 have pG:Hid (x.isEmpty=true->S.toList.isEmpty=true):=fun h=>by rw[hS];exact wJ h
 have nU:Hid (x.isEmpty=false->S.toList.isEmpty=false):=fun h=>by rw[hS];exact wK h
 have iM:=hh9 (fun W=>BK (x:=x) W h0 hl);have ug:=hh9 (fun W=>Dt (x:=x) W h0 hl);have qw:=hh9 (fun W lo hi (h1':lo<=20000) (h2':hi<=20000) (hb:Below w.heap.size w W)=>Du (x:=ns) W lo hi h1' h2' (h1.below hb));rw[<- hS]at iM ug ⊢;rw[<- hnn]at h2 hnk ⊢;rw[<- hmm]at h1 hm qw ⊢;have bH:=hh9 hnn;have ng:=hh9 hmm;have HK:=hh9 h2;have HR1:=hh9 h1;have nS:=hh9 ih;have HQ:=hh9 hq;have q0:0<=q:=by omega
 have q1:q<=50:=by omega
 have hA:=eO.new w 4 lo hi S (.slice a m ca) (.slice c n cc);unfold aB at hA;have jO:=hh9 hA;clear lJ hnn hmm hS h0 hl h1 h2 ih hq hd hA;go_enter Tryz.func53,Tryz.ntmps53;go_wp2_with fail
 go_loopw [5] (fun v wr=>∃ i:Nat,v=.int .i64 i/\i<=n/\Hid (eO w wr 4 lo hi S (.slice a m ca) (.slice c n cc))/\Hid (∀ (j:Nat) (t:Tree),j<i->kids[j]?=some t->dG d t=true)) (fun v _=>n-(intOf v).toNat)
 case atStart=>exact⟨0,rfl,by omega,jO,fun j t h=>by omega⟩
 case round =>
  obtain⟨i,rfl,hi',HA,aF⟩:=hrel;obtain⟨a0,a1,a2,a3,a4,a5⟩:=HA.out.arg.cells;by_cases hlt:i<n
  ·have hk1:au w (.slice c n cc) n (vs.flatMap XV.cells):=by have:=HK.out.1;rwa[<- bH.out]at this
   obtain⟨g,off,rfl,g1,g3,g4⟩:=hk1.at (by omega);clear hk1;obtain⟨Y,hY⟩:∃ y,vs[i]?=some y:=⟨_,zbC (by rw[HK.out.2.1,<- bH.out];exact hlt)⟩
   obtain⟨t,ht⟩:∃ y,kids[i]?=some y:=⟨_,zbC (by rw[<- bH.out];exact hlt)⟩
   have CX:∀ (j:Nat) (u:Value),j<6->Y.cells[j]?=some u->wr.cell? ⟨g,off+(i*6+j),none⟩=some u:=fun j u hj hu =>
    (HA.out.below.cell (p:=⟨g,off+(i*6+j),none⟩) g3).trans (g4 _ u ((pV vs i j Y hY hj).trans hu))
   have lI:=(HK.out.2.2 i Y t hY ht).under HA.out.below;have jM:=hh9 ht;have fH:=hh9 (fun e (he:d=e+1)=>nS.out e he wr Y t (q-1) (by have:=HQ.out;omega) lI);obtain⟨k',s',pI,lo',nA,kv'⟩:=Y;have e0:=CX 0 _ (by omega) rfl;have e1:=CX 1 _ (by omega) rfl;have e2:=CX 2 _ (by omega) rfl;have e3:=CX 3 _ (by omega) rfl;have e4:=CX 4 _ (by omega) rfl;have e5:=CX 5 _ (by omega) rfl;rw[<- Nat.add_assoc]at e0 e1 e2 e3 e4 e5;rw[Nat.add_zero]at e0;clear CX hY ht lI g4;by_cases hq1:q<1
   ·have HV:=hh9 (show Bv=false by
     rw[lK.out];refine dW.out i t jM.out ?_;have:d=0:=by have:=HQ.out;omega
     rw[this];rfl)
    have HB:=hh9 HA.out.below;go_wp2_with fail
    go_ret;exact⟨by rw[HV.out];exact rfl,HB.out⟩
   ·obtain⟨e,he⟩:∃ e,d=e+1:=⟨d-1,by have:=HQ.out;omega⟩
    have HC:=hh9 (fH.out e he);have heq:dG d t=dK e t:=by rw[he];rfl
    rw[<- heq]at HC;clear he heq
    cases hf:dG d t
    ·have HV:=hh9 (show Bv=false by rw[lK.out];exact dW.out i t jM.out hf);rw[hf]at HC;clear hf;go_wp2_with fail
     refine HC.out.mono ?_;rintro e w' ⟨rfl,hb'⟩;have HB2:=hh9 (aJ HA.out.below hb');clear hb';go_wp2_with fail
     go_ret;exact⟨by rw[HV.out];exact rfl,HB2.out⟩
    ·have bT:Hid (∀ (j:Nat) (u:Tree),j<i+1->kids[j]?=some u->dG d u=true):=fun j u hj hu=>by
      by_cases g:j=i
      ·subst g;rw[jM.out]at hu;rw[<- zbB hu];exact hf
      ·exact aF.out j u (by omega) hu
     rw[hf]at HC;clear hf;go_wp2_with fail
     refine HC.out.mono ?_;rintro e w' ⟨rfl,hb'⟩;have HA2:=hh9 (HA.out.under hb');clear hb' e0 e1 e2 e3 e4 e5 a0 a1 a2 a3 a4 a5;go_wp2_with fail
     go_roundw
     case rel=>exact⟨i+1,by go_num,by omega,HA2,bT⟩
     case measure=>simp[intOf];omega
  ·have HY:Hid (kids.all (dG d)=true):=BN (n:=n) (by rw[bH.out];exact zbA _) (fun j t h hc=>aF.out j t (by omega) hc);have HW:=hh9 (show Bv=(jd 4 x ns lo hi n&&aY 4 x ns lo hi n) by rw[lK.out,vH.out HY.out,bH.out]);by_cases hm0:m=0
   ·subst hm0;have jH:Hid (ns.isEmpty=true):=by unfold Hid;rw[List.isEmpty_iff];exact List.length_eq_zero_iff.1 ng.out.symm
    by_cases hlo0:lo=0
    ·subst hlo0;by_cases hhi0:hi=0
     ·subst hhi0;by_cases hn0:n=0
      ·subst hn0
       cases hc:mF x
       all_goals
        have qK:=hh9 (iM.out wr);rw[hc]at qK;have HV:=hh9 (show Bv=mF x by rw[HW.out];unfold jd aY;rw[if_neg (by decide),if_neg (by decide),if_pos rfl];simp[jH.out]);rw[hc]at HV;clear hc;go_wp2_with fail
        refine(qK.out).mono ?_;rintro e w2 ⟨rfl,rfl⟩;go_wp2_with fail
        go_ret;exact⟨by rw[HV.out];exact rfl,HA.out.below⟩
      ·have qn:((n:Int)==0)=false:=by simp;omega
       have Em:decide ((n:Int)=0)=false:=zbM (by omega);have Pt:decide (n=0)=false:=zbM hn0;have HV:=hh9 (show Bv=false by rw[HW.out];unfold jd aY;rw[if_neg (by decide),if_neg (by decide),if_pos rfl];simp[jH.out,hn0]);go_wp2_with fail
       go_ret;exact⟨by rw[HV.out];exact rfl,HA.out.below⟩
     ·have Ar:(hi==0)=false:=by simp;omega
      have xM:(hi != 0)=true:=by simp;omega
      have HV:=hh9 (show Bv=false by rw[HW.out];simp[aY,hhi0]);clear hhi0;go_wp2_with fail
      go_ret;exact⟨by rw[HV.out];exact rfl,HA.out.below⟩
    ·have Au:(lo==0)=false:=by simp;omega
     have xO:(lo != 0)=true:=by simp;omega
     have HV:=hh9 (show Bv=false by rw[HW.out];simp[aY,hlo0]);clear hlo0;go_wp2_with fail
     go_ret;exact⟨by rw[HV.out];exact rfl,HA.out.below⟩
   ·have qm:decide ((0:Int)<(m:Int))=true:=zbN (by omega);have Mh:decide (0<m)=true:=zbN (by omega)
    have jH:Hid (ns.isEmpty=false):=by
     cases e:ns with
     |nil=>have:=ng.out;rw[e]at this;exact absurd this hm0
     |cons _ _=>rfl
    have HV:=hh9 (show Bv=false by rw[HW.out];simp[aY,jH.out]);go_wp2_with fail
    go_ret;exact⟨by rw[HV.out];exact rfl,HA.out.below⟩
theorem qdt{d:Nat}(hd:d<=50)(ih:∀ e,d=e+1->zS e){x ns:List Int}{lo hi:Int}{kids:List Tree}{w:World}{a c:Option Addr}{ca cc:Nat}{vs:List XV}{q:Int}(hq:q=(d:Int))
  (h0:∀ c∈x,0<=c/\c<=255) (hl:x.length<=9223372036854775807) (h1:au w (.slice a ns.length ca) ns.length (dA ns)) (h2:pX w (.slice c kids.length cc) vs kids) :
  Calls Tryz.prog 53 #[.agg #[.int .i64 5,.string (ak x),.slice a ns.length ca,.int .i64 lo,.int .i64 hi,.slice c kids.length cc],.int .i64 q] w (gG (dK d (.mk 5 x ns lo hi kids)) w):=by
 have vH:=hh9 (fun (h:kids.all (dG d)=true)=>El (d:=d) (k:=5) (x:=x) (ns:=ns) (lo:=lo) (hi:=hi) h);have dW:=hh9 (fun (i:Nat) (t:Tree) (h:kids[i]?=some t) (hf:dG d t=false)=>Ej (d:=d) (k:=5) (x:=x) (ns:=ns) (lo:=lo) (hi:=hi) h hf);obtain⟨Bv,lJ⟩:∃ Bv,Bv=dK d (.mk 5 x ns lo hi kids):=⟨_,rfl⟩
 rw[<- lJ];have lK:=hh9 lJ;have hm:=h1.slice;have hnk:=h2.1.slice;obtain⟨_,_,_,hm⟩:=hm;obtain⟨_,_,_,hnk⟩:=hnk;obtain⟨n,hnn⟩:∃ n,n=kids.length:=⟨_,rfl⟩
 obtain⟨m,hmm⟩:∃ m,m=ns.length:=⟨_,rfl⟩
 obtain⟨S,hS⟩:∃ S,S=ak x:=⟨_,rfl⟩
 have pG:Hid (x.isEmpty=true->S.toList.isEmpty=true):=fun h=>by rw[hS];exact wJ h
 have nU:Hid (x.isEmpty=false->S.toList.isEmpty=false):=fun h=>by rw[hS];exact wK h
 have iM:=hh9 (fun W=>BK (x:=x) W h0 hl);have ug:=hh9 (fun W=>Dt (x:=x) W h0 hl);have qw:=hh9 (fun W lo hi (h1':lo<=20000) (h2':hi<=20000) (hb:Below w.heap.size w W)=>Du (x:=ns) W lo hi h1' h2' (h1.below hb));rw[<- hS]at iM ug ⊢;rw[<- hnn]at h2 hnk ⊢;rw[<- hmm]at h1 hm qw ⊢;have bH:=hh9 hnn;have ng:=hh9 hmm;have HK:=hh9 h2;have HR1:=hh9 h1;have nS:=hh9 ih;have HQ:=hh9 hq;have q0:0<=q:=by omega
 have q1:q<=50:=by omega
 have hA:=eO.new w 5 lo hi S (.slice a m ca) (.slice c n cc);unfold aB at hA;have jO:=hh9 hA;clear lJ hnn hmm hS h0 hl h1 h2 ih hq hd hA;go_enter Tryz.func53,Tryz.ntmps53;go_wp2_with fail
 go_loopw [5] (fun v wr=>∃ i:Nat,v=.int .i64 i/\i<=n/\Hid (eO w wr 5 lo hi S (.slice a m ca) (.slice c n cc))/\Hid (∀ (j:Nat) (t:Tree),j<i->kids[j]?=some t->dG d t=true)) (fun v _=>n-(intOf v).toNat)
 case atStart=>exact⟨0,rfl,by omega,jO,fun j t h=>by omega⟩
 case round =>
  obtain⟨i,rfl,hi',HA,aF⟩:=hrel;obtain⟨a0,a1,a2,a3,a4,a5⟩:=HA.out.arg.cells;by_cases hlt:i<n
  ·have hk1:au w (.slice c n cc) n (vs.flatMap XV.cells):=by have:=HK.out.1;rwa[<- bH.out]at this
   obtain⟨g,off,rfl,g1,g3,g4⟩:=hk1.at (by omega);clear hk1;obtain⟨Y,hY⟩:∃ y,vs[i]?=some y:=⟨_,zbC (by rw[HK.out.2.1,<- bH.out];exact hlt)⟩
   obtain⟨t,ht⟩:∃ y,kids[i]?=some y:=⟨_,zbC (by rw[<- bH.out];exact hlt)⟩
   have CX:∀ (j:Nat) (u:Value),j<6->Y.cells[j]?=some u->wr.cell? ⟨g,off+(i*6+j),none⟩=some u:=fun j u hj hu =>
    (HA.out.below.cell (p:=⟨g,off+(i*6+j),none⟩) g3).trans (g4 _ u ((pV vs i j Y hY hj).trans hu))
   have lI:=(HK.out.2.2 i Y t hY ht).under HA.out.below;have jM:=hh9 ht;have fH:=hh9 (fun e (he:d=e+1)=>nS.out e he wr Y t (q-1) (by have:=HQ.out;omega) lI);obtain⟨k',s',pI,lo',nA,kv'⟩:=Y;have e0:=CX 0 _ (by omega) rfl;have e1:=CX 1 _ (by omega) rfl;have e2:=CX 2 _ (by omega) rfl;have e3:=CX 3 _ (by omega) rfl;have e4:=CX 4 _ (by omega) rfl;have e5:=CX 5 _ (by omega) rfl;rw[<- Nat.add_assoc]at e0 e1 e2 e3 e4 e5;rw[Nat.add_zero]at e0;clear CX hY ht lI g4;by_cases hq1:q<1
   ·have HV:=hh9 (show Bv=false by
     rw[lK.out];refine dW.out i t jM.out ?_;have:d=0:=by have:=HQ.out;omega
     rw[this];rfl)
    have HB:=hh9 HA.out.below;go_wp2_with fail
    go_ret;exact⟨by rw[HV.out];exact rfl,HB.out⟩
   ·obtain⟨e,he⟩:∃ e,d=e+1:=⟨d-1,by have:=HQ.out;omega⟩
    have HC:=hh9 (fH.out e he);have heq:dG d t=dK e t:=by rw[he];rfl
    rw[<- heq]at HC;clear he heq
    cases hf:dG d t
    ·have HV:=hh9 (show Bv=false by rw[lK.out];exact dW.out i t jM.out hf);rw[hf]at HC;clear hf;go_wp2_with fail
     refine HC.out.mono ?_;rintro e w' ⟨rfl,hb'⟩;have HB2:=hh9 (aJ HA.out.below hb');clear hb';go_wp2_with fail
     go_ret;exact⟨by rw[HV.out];exact rfl,HB2.out⟩
    ·have bT:Hid (∀ (j:Nat) (u:Tree),j<i+1->kids[j]?=some u->dG d u=true):=fun j u hj hu=>by
      by_cases g:j=i
      ·subst g;rw[jM.out]at hu;rw[<- zbB hu];exact hf
      ·exact aF.out j u (by omega) hu
     rw[hf]at HC;clear hf;go_wp2_with fail
     refine HC.out.mono ?_;rintro e w' ⟨rfl,hb'⟩;have HA2:=hh9 (HA.out.under hb');clear hb' e0 e1 e2 e3 e4 e5 a0 a1 a2 a3 a4 a5;go_wp2_with fail
     go_roundw
     case rel=>exact⟨i+1,by go_num,by omega,HA2,bT⟩
     case measure=>simp[intOf];omega
  ·have HY:Hid (kids.all (dG d)=true):=BN (n:=n) (by rw[bH.out];exact zbA _) (fun j t h hc=>aF.out j t (by omega) hc);have HW:=hh9 (show Bv=(jd 5 x ns lo hi n&&aY 5 x ns lo hi n) by rw[lK.out,vH.out HY.out,bH.out]);by_cases hm0:m=0
   ·subst hm0;have jH:Hid (ns.isEmpty=true):=by unfold Hid;rw[List.isEmpty_iff];exact List.length_eq_zero_iff.1 ng.out.symm
    by_cases hlo0:lo=0
    ·subst hlo0;by_cases hhi0:hi=0
     ·subst hhi0;by_cases hn0:n=0
      ·subst hn0
       cases hc:x.all kZ
       all_goals
        have qK:=hh9 (ug.out wr);rw[hc]at qK;have HV:=hh9 (show Bv=x.all kZ by rw[HW.out];unfold jd aY;rw[if_neg (by decide),if_neg (by decide),if_neg (by decide),if_pos rfl];simp[jH.out]);rw[hc]at HV;clear hc;go_wp2_with fail
        refine(qK.out).mono ?_;rintro e w2 ⟨rfl,rfl⟩;go_wp2_with fail
        go_ret;exact⟨by rw[HV.out];exact rfl,HA.out.below⟩
      ·have qn:((n:Int)==0)=false:=by simp;omega
       have Em:decide ((n:Int)=0)=false:=zbM (by omega);have Pt:decide (n=0)=false:=zbM hn0;have HV:=hh9 (show Bv=false by rw[HW.out];unfold jd aY;rw[if_neg (by decide),if_neg (by decide),if_neg (by decide),if_pos rfl];simp[jH.out,hn0]);go_wp2_with fail
       go_ret;exact⟨by rw[HV.out];exact rfl,HA.out.below⟩
     ·have Ar:(hi==0)=false:=by simp;omega
      have xM:(hi != 0)=true:=by simp;omega
      have HV:=hh9 (show Bv=false by rw[HW.out];simp[aY,hhi0]);clear hhi0;go_wp2_with fail
      go_ret;exact⟨by rw[HV.out];exact rfl,HA.out.below⟩
    ·have Au:(lo==0)=false:=by simp;omega
     have xO:(lo != 0)=true:=by simp;omega
     have HV:=hh9 (show Bv=false by rw[HW.out];simp[aY,hlo0]);clear hlo0;go_wp2_with fail
     go_ret;exact⟨by rw[HV.out];exact rfl,HA.out.below⟩
   ·have qm:decide ((0:Int)<(m:Int))=true:=zbN (by omega);have Mh:decide (0<m)=true:=zbN (by omega)
    have jH:Hid (ns.isEmpty=false):=by
     cases e:ns with
     |nil=>have:=ng.out;rw[e]at this;exact absurd this hm0
     |cons _ _=>rfl
    have HV:=hh9 (show Bv=false by rw[HW.out];simp[aY,jH.out]);go_wp2_with fail
    go_ret;exact⟨by rw[HV.out];exact rfl,HA.out.below⟩
theorem qdu{d:Nat}(hd:d<=50)(ih:∀ e,d=e+1->zS e){x ns:List Int}{lo hi:Int}{kids:List Tree}{w:World}{a c:Option Addr}{ca cc:Nat}{vs:List XV}{q:Int}(hq:q=(d:Int))
  (h0:∀ c∈x,0<=c/\c<=255) (hl:x.length<=9223372036854775807) (h1:au w (.slice a ns.length ca) ns.length (dA ns)) (h2:pX w (.slice c kids.length cc) vs kids) :
  Calls Tryz.prog 53 #[.agg #[.int .i64 6,.string (ak x),.slice a ns.length ca,.int .i64 lo,.int .i64 hi,.slice c kids.length cc],.int .i64 q] w (gG (dK d (.mk 6 x ns lo hi kids)) w):=by
 have vH:=hh9 (fun (h:kids.all (dG d)=true)=>El (d:=d) (k:=6) (x:=x) (ns:=ns) (lo:=lo) (hi:=hi) h);have dW:=hh9 (fun (i:Nat) (t:Tree) (h:kids[i]?=some t) (hf:dG d t=false)=>Ej (d:=d) (k:=6) (x:=x) (ns:=ns) (lo:=lo) (hi:=hi) h hf);obtain⟨Bv,lJ⟩:∃ Bv,Bv=dK d (.mk 6 x ns lo hi kids):=⟨_,rfl⟩
 rw[<- lJ];have lK:=hh9 lJ;have hm:=h1.slice;have hnk:=h2.1.slice;obtain⟨_,_,_,hm⟩:=hm;obtain⟨_,_,_,hnk⟩:=hnk;obtain⟨n,hnn⟩:∃ n,n=kids.length:=⟨_,rfl⟩
 obtain⟨m,hmm⟩:∃ m,m=ns.length:=⟨_,rfl⟩
 obtain⟨S,hS⟩:∃ S,S=ak x:=⟨_,rfl⟩
 have pG:Hid (x.isEmpty=true->S.toList.isEmpty=true):=fun h=>by rw[hS];exact wJ h
 have nU:Hid (x.isEmpty=false->S.toList.isEmpty=false):=fun h=>by rw[hS];exact wK h
 have iM:=hh9 (fun W=>BK (x:=x) W h0 hl);have ug:=hh9 (fun W=>Dt (x:=x) W h0 hl);have qw:=hh9 (fun W lo hi (h1':lo<=20000) (h2':hi<=20000) (hb:Below w.heap.size w W)=>Du (x:=ns) W lo hi h1' h2' (h1.below hb));rw[<- hS]at iM ug ⊢;rw[<- hnn]at h2 hnk ⊢;rw[<- hmm]at h1 hm qw ⊢;have bH:=hh9 hnn;have ng:=hh9 hmm;have HK:=hh9 h2;have HR1:=hh9 h1;have nS:=hh9 ih;have HQ:=hh9 hq;have q0:0<=q:=by omega
 have q1:q<=50:=by omega
 have hA:=eO.new w 6 lo hi S (.slice a m ca) (.slice c n cc);unfold aB at hA;have jO:=hh9 hA;clear lJ hnn hmm hS h0 hl h1 h2 ih hq hd hA;go_enter Tryz.func53,Tryz.ntmps53;go_wp2_with fail
 go_loopw [5] (fun v wr=>∃ i:Nat,v=.int .i64 i/\i<=n/\Hid (eO w wr 6 lo hi S (.slice a m ca) (.slice c n cc))/\Hid (∀ (j:Nat) (t:Tree),j<i->kids[j]?=some t->dG d t=true)) (fun v _=>n-(intOf v).toNat)
 case atStart=>exact⟨0,rfl,by omega,jO,fun j t h=>by omega⟩
 case round =>
  obtain⟨i,rfl,hi',HA,aF⟩:=hrel;obtain⟨a0,a1,a2,a3,a4,a5⟩:=HA.out.arg.cells;by_cases hlt:i<n
  ·have hk1:au w (.slice c n cc) n (vs.flatMap XV.cells):=by have:=HK.out.1;rwa[<- bH.out]at this
   obtain⟨g,off,rfl,g1,g3,g4⟩:=hk1.at (by omega);clear hk1;obtain⟨Y,hY⟩:∃ y,vs[i]?=some y:=⟨_,zbC (by rw[HK.out.2.1,<- bH.out];exact hlt)⟩
   obtain⟨t,ht⟩:∃ y,kids[i]?=some y:=⟨_,zbC (by rw[<- bH.out];exact hlt)⟩
   have CX:∀ (j:Nat) (u:Value),j<6->Y.cells[j]?=some u->wr.cell? ⟨g,off+(i*6+j),none⟩=some u:=fun j u hj hu =>
    (HA.out.below.cell (p:=⟨g,off+(i*6+j),none⟩) g3).trans (g4 _ u ((pV vs i j Y hY hj).trans hu))
   have lI:=(HK.out.2.2 i Y t hY ht).under HA.out.below;have jM:=hh9 ht;have fH:=hh9 (fun e (he:d=e+1)=>nS.out e he wr Y t (q-1) (by have:=HQ.out;omega) lI);obtain⟨k',s',pI,lo',nA,kv'⟩:=Y;have e0:=CX 0 _ (by omega) rfl;have e1:=CX 1 _ (by omega) rfl;have e2:=CX 2 _ (by omega) rfl;have e3:=CX 3 _ (by omega) rfl;have e4:=CX 4 _ (by omega) rfl;have e5:=CX 5 _ (by omega) rfl;rw[<- Nat.add_assoc]at e0 e1 e2 e3 e4 e5;rw[Nat.add_zero]at e0;clear CX hY ht lI g4;by_cases hq1:q<1
   ·have HV:=hh9 (show Bv=false by
     rw[lK.out];refine dW.out i t jM.out ?_;have:d=0:=by have:=HQ.out;omega
     rw[this];rfl)
    have HB:=hh9 HA.out.below;go_wp2_with fail
    go_ret;exact⟨by rw[HV.out];exact rfl,HB.out⟩
   ·obtain⟨e,he⟩:∃ e,d=e+1:=⟨d-1,by have:=HQ.out;omega⟩
    have HC:=hh9 (fH.out e he);have heq:dG d t=dK e t:=by rw[he];rfl
    rw[<- heq]at HC;clear he heq
    cases hf:dG d t
    ·have HV:=hh9 (show Bv=false by rw[lK.out];exact dW.out i t jM.out hf);rw[hf]at HC;clear hf;go_wp2_with fail
     refine HC.out.mono ?_;rintro e w' ⟨rfl,hb'⟩;have HB2:=hh9 (aJ HA.out.below hb');clear hb';go_wp2_with fail
     go_ret;exact⟨by rw[HV.out];exact rfl,HB2.out⟩
    ·have bT:Hid (∀ (j:Nat) (u:Tree),j<i+1->kids[j]?=some u->dG d u=true):=fun j u hj hu=>by
      by_cases g:j=i
      ·subst g;rw[jM.out]at hu;rw[<- zbB hu];exact hf
      ·exact aF.out j u (by omega) hu
     rw[hf]at HC;clear hf;go_wp2_with fail
     refine HC.out.mono ?_;rintro e w' ⟨rfl,hb'⟩;have HA2:=hh9 (HA.out.under hb');clear hb' e0 e1 e2 e3 e4 e5 a0 a1 a2 a3 a4 a5;go_wp2_with fail
     go_roundw
     case rel=>exact⟨i+1,by go_num,by omega,HA2,bT⟩
     case measure=>simp[intOf];omega
  ·have HY:Hid (kids.all (dG d)=true):=BN (n:=n) (by rw[bH.out];exact zbA _) (fun j t h hc=>aF.out j t (by omega) hc);have HW:=hh9 (show Bv=(jd 6 x ns lo hi n&&aY 6 x ns lo hi n) by rw[lK.out,vH.out HY.out,bH.out])
   cases hx:x.isEmpty
   ·have qx:=nU.out hx;have HV:=hh9 (show Bv=false by rw[HW.out];simp[aY,hx]);clear hx;go_wp2_with fail
    go_ret;exact⟨by rw[HV.out];exact rfl,HA.out.below⟩
   ·have qx:=pG.out hx;have BL:S.toList=[]:=List.isEmpty_iff.1 qx;have HX:=hh9 hx;clear hx;by_cases hlo0:lo=0
    ·subst hlo0;by_cases hhi0:hi=0
     ·subst hhi0;by_cases hn0:n=0
      ·subst hn0
       cases hc:(ns.all bK&&(decide (1<=m)&&decide (m<=10000)))
       all_goals
        have qK:=hh9 (qw.out wr 1 10000 (by omega) (by omega) HA.out.below);rw[hc]at qK;have HV:=hh9 (show Bv=(ns.all bK&&(decide (1<=m)&&decide (m<=10000))) by rw[HW.out];unfold jd aY;rw[if_neg (by decide),if_neg (by decide),if_neg (by decide),if_neg (by decide),if_pos rfl];rw[<- ng.out,HX.out];cases ns.all bK<;>cases decide (1<=m)<;>cases decide (m<=10000)<;>rfl);rw[hc]at HV;clear hc;go_wp2_with fail
        refine(qK.out).mono ?_;rintro e w2 ⟨rfl,rfl⟩;go_wp2_with fail
        go_ret;exact⟨by rw[HV.out];exact rfl,HA.out.below⟩
      ·have qn:((n:Int)==0)=false:=by simp;omega
       have Em:decide ((n:Int)=0)=false:=zbM (by omega);have Pt:decide (n=0)=false:=zbM hn0;have HV:=hh9 (show Bv=false by rw[HW.out];unfold jd aY;rw[if_neg (by decide),if_neg (by decide),if_neg (by decide),if_neg (by decide),if_pos rfl];simp[HX.out,hn0]);go_wp2_with fail
       go_ret;exact⟨by rw[HV.out];exact rfl,HA.out.below⟩
     ·have Ar:(hi==0)=false:=by simp;omega
      have xM:(hi != 0)=true:=by simp;omega
      have HV:=hh9 (show Bv=false by rw[HW.out];simp[aY,hhi0]);clear hhi0;go_wp2_with fail
      go_ret;exact⟨by rw[HV.out];exact rfl,HA.out.below⟩
    ·have Au:(lo==0)=false:=by simp;omega
     have xO:(lo != 0)=true:=by simp;omega
     have HV:=hh9 (show Bv=false by rw[HW.out];simp[aY,hlo0]);clear hlo0;go_wp2_with fail
     go_ret;exact⟨by rw[HV.out];exact rfl,HA.out.below⟩
theorem qdv{d:Nat}(hd:d<=50)(ih:∀ e,d=e+1->zS e){x ns:List Int}{lo hi:Int}{kids:List Tree}{w:World}{a c:Option Addr}{ca cc:Nat}{vs:List XV}{q:Int}(hq:q=(d:Int))
  (h0:∀ c∈x,0<=c/\c<=255) (hl:x.length<=9223372036854775807) (h1:au w (.slice a ns.length ca) ns.length (dA ns)) (h2:pX w (.slice c kids.length cc) vs kids) :
  Calls Tryz.prog 53 #[.agg #[.int .i64 7,.string (ak x),.slice a ns.length ca,.int .i64 lo,.int .i64 hi,.slice c kids.length cc],.int .i64 q] w (gG (dK d (.mk 7 x ns lo hi kids)) w):=by
 have vH:=hh9 (fun (h:kids.all (dG d)=true)=>El (d:=d) (k:=7) (x:=x) (ns:=ns) (lo:=lo) (hi:=hi) h);have dW:=hh9 (fun (i:Nat) (t:Tree) (h:kids[i]?=some t) (hf:dG d t=false)=>Ej (d:=d) (k:=7) (x:=x) (ns:=ns) (lo:=lo) (hi:=hi) h hf);obtain⟨Bv,lJ⟩:∃ Bv,Bv=dK d (.mk 7 x ns lo hi kids):=⟨_,rfl⟩
 rw[<- lJ];have lK:=hh9 lJ;have hm:=h1.slice;have hnk:=h2.1.slice;obtain⟨_,_,_,hm⟩:=hm;obtain⟨_,_,_,hnk⟩:=hnk;obtain⟨n,hnn⟩:∃ n,n=kids.length:=⟨_,rfl⟩
 obtain⟨m,hmm⟩:∃ m,m=ns.length:=⟨_,rfl⟩
 obtain⟨S,hS⟩:∃ S,S=ak x:=⟨_,rfl⟩
 have pG:Hid (x.isEmpty=true->S.toList.isEmpty=true):=fun h=>by rw[hS];exact wJ h
 have nU:Hid (x.isEmpty=false->S.toList.isEmpty=false):=fun h=>by rw[hS];exact wK h
 have iM:=hh9 (fun W=>BK (x:=x) W h0 hl);have ug:=hh9 (fun W=>Dt (x:=x) W h0 hl);have qw:=hh9 (fun W lo hi (h1':lo<=20000) (h2':hi<=20000) (hb:Below w.heap.size w W)=>Du (x:=ns) W lo hi h1' h2' (h1.below hb));rw[<- hS]at iM ug ⊢;rw[<- hnn]at h2 hnk ⊢;rw[<- hmm]at h1 hm qw ⊢;have bH:=hh9 hnn;have ng:=hh9 hmm;have HK:=hh9 h2;have HR1:=hh9 h1;have nS:=hh9 ih;have HQ:=hh9 hq;have q0:0<=q:=by omega
 have q1:q<=50:=by omega
 have hA:=eO.new w 7 lo hi S (.slice a m ca) (.slice c n cc);unfold aB at hA;have jO:=hh9 hA;clear lJ hnn hmm hS h0 hl h1 h2 ih hq hd hA;go_enter Tryz.func53,Tryz.ntmps53;go_wp2_with fail
 go_loopw [5] (fun v wr=>∃ i:Nat,v=.int .i64 i/\i<=n/\Hid (eO w wr 7 lo hi S (.slice a m ca) (.slice c n cc))/\Hid (∀ (j:Nat) (t:Tree),j<i->kids[j]?=some t->dG d t=true)) (fun v _=>n-(intOf v).toNat)
 case atStart=>exact⟨0,rfl,by omega,jO,fun j t h=>by omega⟩
 case round =>
  obtain⟨i,rfl,hi',HA,aF⟩:=hrel;obtain⟨a0,a1,a2,a3,a4,a5⟩:=HA.out.arg.cells;by_cases hlt:i<n
  ·have hk1:au w (.slice c n cc) n (vs.flatMap XV.cells):=by have:=HK.out.1;rwa[<- bH.out]at this
   obtain⟨g,off,rfl,g1,g3,g4⟩:=hk1.at (by omega);clear hk1;obtain⟨Y,hY⟩:∃ y,vs[i]?=some y:=⟨_,zbC (by rw[HK.out.2.1,<- bH.out];exact hlt)⟩
   obtain⟨t,ht⟩:∃ y,kids[i]?=some y:=⟨_,zbC (by rw[<- bH.out];exact hlt)⟩
   have CX:∀ (j:Nat) (u:Value),j<6->Y.cells[j]?=some u->wr.cell? ⟨g,off+(i*6+j),none⟩=some u:=fun j u hj hu =>
    (HA.out.below.cell (p:=⟨g,off+(i*6+j),none⟩) g3).trans (g4 _ u ((pV vs i j Y hY hj).trans hu))
   have lI:=(HK.out.2.2 i Y t hY ht).under HA.out.below;have jM:=hh9 ht;have fH:=hh9 (fun e (he:d=e+1)=>nS.out e he wr Y t (q-1) (by have:=HQ.out;omega) lI);obtain⟨k',s',pI,lo',nA,kv'⟩:=Y;have e0:=CX 0 _ (by omega) rfl;have e1:=CX 1 _ (by omega) rfl;have e2:=CX 2 _ (by omega) rfl;have e3:=CX 3 _ (by omega) rfl;have e4:=CX 4 _ (by omega) rfl;have e5:=CX 5 _ (by omega) rfl;rw[<- Nat.add_assoc]at e0 e1 e2 e3 e4 e5;rw[Nat.add_zero]at e0;clear CX hY ht lI g4;by_cases hq1:q<1
   ·have HV:=hh9 (show Bv=false by
     rw[lK.out];refine dW.out i t jM.out ?_;have:d=0:=by have:=HQ.out;omega
     rw[this];rfl)
    have HB:=hh9 HA.out.below;go_wp2_with fail
    go_ret;exact⟨by rw[HV.out];exact rfl,HB.out⟩
   ·obtain⟨e,he⟩:∃ e,d=e+1:=⟨d-1,by have:=HQ.out;omega⟩
    have HC:=hh9 (fH.out e he);have heq:dG d t=dK e t:=by rw[he];rfl
    rw[<- heq]at HC;clear he heq
    cases hf:dG d t
    ·have HV:=hh9 (show Bv=false by rw[lK.out];exact dW.out i t jM.out hf);rw[hf]at HC;clear hf;go_wp2_with fail
     refine HC.out.mono ?_;rintro e w' ⟨rfl,hb'⟩;have HB2:=hh9 (aJ HA.out.below hb');clear hb';go_wp2_with fail
     go_ret;exact⟨by rw[HV.out];exact rfl,HB2.out⟩
    ·have bT:Hid (∀ (j:Nat) (u:Tree),j<i+1->kids[j]?=some u->dG d u=true):=fun j u hj hu=>by
      by_cases g:j=i
      ·subst g;rw[jM.out]at hu;rw[<- zbB hu];exact hf
      ·exact aF.out j u (by omega) hu
     rw[hf]at HC;clear hf;go_wp2_with fail
     refine HC.out.mono ?_;rintro e w' ⟨rfl,hb'⟩;have HA2:=hh9 (HA.out.under hb');clear hb' e0 e1 e2 e3 e4 e5 a0 a1 a2 a3 a4 a5;go_wp2_with fail
     go_roundw
     case rel=>exact⟨i+1,by go_num,by omega,HA2,bT⟩
     case measure=>simp[intOf];omega
  ·have HY:Hid (kids.all (dG d)=true):=BN (n:=n) (by rw[bH.out];exact zbA _) (fun j t h hc=>aF.out j t (by omega) hc);have HW:=hh9 (show Bv=(jd 7 x ns lo hi n&&aY 7 x ns lo hi n) by rw[lK.out,vH.out HY.out,bH.out])
   cases hx:x.isEmpty
   ·have qx:=nU.out hx;have HV:=hh9 (show Bv=false by rw[HW.out];simp[aY,hx]);clear hx;go_wp2_with fail
    go_ret;exact⟨by rw[HV.out];exact rfl,HA.out.below⟩
   ·have qx:=pG.out hx;have BL:S.toList=[]:=List.isEmpty_iff.1 qx;have HX:=hh9 hx;clear hx;by_cases hlo0:lo=0
    ·subst hlo0;by_cases hhi0:hi=0
     ·subst hhi0;by_cases hn0:n=0
      ·subst hn0;by_cases hm2:m=2
       ·subst hm2;obtain⟨g',off',rfl,f1,f3,f4⟩:=HR1.out.at (by omega)
        match ns,ng.out with
        |[u,v],_ =>
        have c0:=(HA.out.below.cell (p:=⟨g',off',none⟩) f3).trans (f4 0 _ rfl);have c1:=(HA.out.below.cell (p:=⟨g',off'+1,none⟩) f3).trans (f4 1 _ rfl);clear f4
        cases hc:[u,v].all bK
        ·have HV:=hh9 (show Bv=false by rw[HW.out];unfold jd aY;rw[if_neg (by decide),if_neg (by decide),if_neg (by decide),if_neg (by decide),if_neg (by decide),if_pos rfl];rw[hc];simp)
         have qK:Hid (∀ W,Below w.heap.size w W->Calls Tryz.prog 76 #[.slice (some ⟨g',off',none⟩) 2 ca,.int .i64 2,.int .i64 2] W (fun e w'=>e=.returned (.bool false)/\w'=W)):=fun W hW=>by
          have:=qw.out W 2 2 (by omega) (by omega) hW;rw[hc]at this;exact this.mono fun _ _ ⟨p1,p2⟩=>⟨p1,p2.symm⟩
         clear hc;go_wp2_with fail
         go_quiet ((go_at_call 76;exact Calls.quiet_of_same (qK.out _ (dJ HA.out.below _))))
         go_wp2_with fail
         go_ret;exact⟨by rw[HV.out];exact rfl,dJ HA.out.below _⟩
        ·have qK:Hid (∀ W,Below w.heap.size w W->Calls Tryz.prog 76 #[.slice (some ⟨g',off',none⟩) 2 ca,.int .i64 2,.int .i64 2] W (fun e w'=>e=.returned (.bool true)/\w'=W)):=fun W hW=>by
          have:=qw.out W 2 2 (by omega) (by omega) hW;rw[hc]at this;exact this.mono fun _ _ ⟨p1,p2⟩=>⟨p1,p2.symm⟩
         have sG:=hh9 hc;clear hc;by_cases huv:u<=v
         ·have q9:decide (u<=v)=true:=zbN huv;have HV:=hh9 (show Bv=true by rw[HW.out];unfold jd aY;rw[if_neg (by decide),if_neg (by decide),if_neg (by decide),if_neg (by decide),if_neg (by decide),if_pos rfl];rw[sG.out];simp[HX.out,huv]);go_wp2_with fail
          go_quiet ((go_at_call 76;exact Calls.quiet_of_same (qK.out _ (dJ HA.out.below _))))
          go_wp2_with fail
          go_ret;exact⟨by rw[HV.out];exact rfl,dJ HA.out.below _⟩
         ·have q9:decide (u<=v)=false:=zbM huv;have HV:=hh9 (show Bv=false by rw[HW.out];unfold jd aY;rw[if_neg (by decide),if_neg (by decide),if_neg (by decide),if_neg (by decide),if_neg (by decide),if_pos rfl];rw[sG.out];simp[huv]);go_wp2_with fail
          go_quiet ((go_at_call 76;exact Calls.quiet_of_same (qK.out _ (dJ HA.out.below _))))
          go_wp2_with fail
          go_ret;exact⟨by rw[HV.out];exact rfl,dJ HA.out.below _⟩
       ·have HV:=hh9 (show Bv=false by rw[HW.out];unfold jd aY;rw[if_neg (by decide),if_neg (by decide),if_neg (by decide),if_neg (by decide),if_neg (by decide),if_pos rfl];rw[<- ng.out,zbM hm2];simp)
        have qK:Hid (∀ W,Below w.heap.size w W->Calls Tryz.prog 76 #[.slice a m ca,.int .i64 2,.int .i64 2] W (fun e w'=>e=.returned (.bool false)/\w'=W)):=fun W hW=>by
         have:=qw.out W 2 2 (by omega) (by omega) hW
         have e:(ns.all bK&&(decide (2<=m)&&decide (m<=2)))=false:=by
          by_cases g:2<=m
          ·have g2:¬ m<=2:=by omega
           simp[g,g2]
          ·simp[g]
         rw[e]at this;exact this.mono fun _ _ ⟨p1,p2⟩=>⟨p1,p2.symm⟩
        go_wp2_with fail
        go_quiet ((go_at_call 76;exact Calls.quiet_of_same (qK.out _ (dJ HA.out.below _))))
        go_wp2_with fail
        go_ret;exact⟨by rw[HV.out];exact rfl,dJ HA.out.below _⟩
      ·have qn:((n:Int)==0)=false:=by simp;omega
       have Em:decide ((n:Int)=0)=false:=zbM (by omega);have Pt:decide (n=0)=false:=zbM hn0;have HV:=hh9 (show Bv=false by rw[HW.out];unfold jd aY;rw[if_neg (by decide),if_neg (by decide),if_neg (by decide),if_neg (by decide),if_neg (by decide),if_pos rfl];simp[HX.out,hn0]);go_wp2_with fail
       go_quiet (fail)
       go_wp2_with fail
       go_ret;exact⟨by rw[HV.out];exact rfl,dJ HA.out.below _⟩
     ·have Ar:(hi==0)=false:=by simp;omega
      have xM:(hi != 0)=true:=by simp;omega
      have HV:=hh9 (show Bv=false by rw[HW.out];simp[aY,hhi0]);clear hhi0;go_wp2_with fail
      go_ret;exact⟨by rw[HV.out];exact rfl,HA.out.below⟩
    ·have Au:(lo==0)=false:=by simp;omega
     have xO:(lo != 0)=true:=by simp;omega
     have HV:=hh9 (show Bv=false by rw[HW.out];simp[aY,hlo0]);clear hlo0;go_wp2_with fail
     go_ret;exact⟨by rw[HV.out];exact rfl,HA.out.below⟩
theorem qdw{d:Nat}(hd:d<=50)(ih:∀ e,d=e+1->zS e){k:Int}(hk:k≠1/\k≠2/\k≠3/\k≠4/\k≠5/\k≠6/\k≠7){x ns:List Int}{lo hi:Int}{kids:List Tree}{w:World}{a c:Option Addr}{ca cc:Nat}{vs:List XV}{q:Int}(hq:q=(d:Int))
  (h0:∀ c∈x,0<=c/\c<=255) (hl:x.length<=9223372036854775807) (h1:au w (.slice a ns.length ca) ns.length (dA ns)) (h2:pX w (.slice c kids.length cc) vs kids) :
  Calls Tryz.prog 53 #[.agg #[.int .i64 k,.string (ak x),.slice a ns.length ca,.int .i64 lo,.int .i64 hi,.slice c kids.length cc],.int .i64 q] w (gG (dK d (.mk k x ns lo hi kids)) w):=by
 have vH:=hh9 (fun (h:kids.all (dG d)=true)=>El (d:=d) (k:=k) (x:=x) (ns:=ns) (lo:=lo) (hi:=hi) h);have dW:=hh9 (fun (i:Nat) (t:Tree) (h:kids[i]?=some t) (hf:dG d t=false)=>Ej (d:=d) (k:=k) (x:=x) (ns:=ns) (lo:=lo) (hi:=hi) h hf);obtain⟨Bv,lJ⟩:∃ Bv,Bv=dK d (.mk k x ns lo hi kids):=⟨_,rfl⟩
 rw[<- lJ];have lK:=hh9 lJ;have hm:=h1.slice;have hnk:=h2.1.slice;obtain⟨_,_,_,hm⟩:=hm;obtain⟨_,_,_,hnk⟩:=hnk;obtain⟨n,hnn⟩:∃ n,n=kids.length:=⟨_,rfl⟩
 obtain⟨m,hmm⟩:∃ m,m=ns.length:=⟨_,rfl⟩
 obtain⟨S,hS⟩:∃ S,S=ak x:=⟨_,rfl⟩
 have pG:Hid (x.isEmpty=true->S.toList.isEmpty=true):=fun h=>by rw[hS];exact wJ h
 have nU:Hid (x.isEmpty=false->S.toList.isEmpty=false):=fun h=>by rw[hS];exact wK h
 have iM:=hh9 (fun W=>BK (x:=x) W h0 hl);have ug:=hh9 (fun W=>Dt (x:=x) W h0 hl);have qw:=hh9 (fun W lo hi (h1':lo<=20000) (h2':hi<=20000) (hb:Below w.heap.size w W)=>Du (x:=ns) W lo hi h1' h2' (h1.below hb));rw[<- hS]at iM ug ⊢;rw[<- hnn]at h2 hnk ⊢;rw[<- hmm]at h1 hm qw ⊢;have bH:=hh9 hnn;have ng:=hh9 hmm;have HK:=hh9 h2;have HR1:=hh9 h1;have nS:=hh9 ih;have HQ:=hh9 hq;have q0:0<=q:=by omega
 have q1:q<=50:=by omega
 have hA:=eO.new w k lo hi S (.slice a m ca) (.slice c n cc);unfold aB at hA;have jO:=hh9 hA;have z1:(k==1)=false:=by simp;omega
 have z2:(k==2)=false:=by simp;omega
 have z3:(k==3)=false:=by simp;omega
 have z4:(k==4)=false:=by simp;omega
 have z5:(k==5)=false:=by simp;omega
 have z6:(k==6)=false:=by simp;omega
 have z7:(k==7)=false:=by simp;omega
 have y3:(k != 3)=true:=by simp;omega
 have HZ:Hid (∀ x ns lo hi n,jd k x ns lo hi n=false):=fun x ns lo hi n=>by unfold jd;rw[if_neg (by omega),if_neg (by omega),if_neg (by omega),if_neg (by omega),if_neg (by omega),if_neg (by omega)]
 clear hk;clear lJ hnn hmm hS h0 hl h1 h2 ih hq hd hA;go_enter Tryz.func53,Tryz.ntmps53;go_wp2_with fail
 go_loopw [5] (fun v wr=>∃ i:Nat,v=.int .i64 i/\i<=n/\Hid (eO w wr k lo hi S (.slice a m ca) (.slice c n cc))/\Hid (∀ (j:Nat) (t:Tree),j<i->kids[j]?=some t->dG d t=true)) (fun v _=>n-(intOf v).toNat)
 case atStart=>exact⟨0,rfl,by omega,jO,fun j t h=>by omega⟩
 case round =>
  obtain⟨i,rfl,hi',HA,aF⟩:=hrel;obtain⟨a0,a1,a2,a3,a4,a5⟩:=HA.out.arg.cells;by_cases hlt:i<n
  ·have hk1:au w (.slice c n cc) n (vs.flatMap XV.cells):=by have:=HK.out.1;rwa[<- bH.out]at this
   obtain⟨g,off,rfl,g1,g3,g4⟩:=hk1.at (by omega);clear hk1;obtain⟨Y,hY⟩:∃ y,vs[i]?=some y:=⟨_,zbC (by rw[HK.out.2.1,<- bH.out];exact hlt)⟩
   obtain⟨t,ht⟩:∃ y,kids[i]?=some y:=⟨_,zbC (by rw[<- bH.out];exact hlt)⟩
   have CX:∀ (j:Nat) (u:Value),j<6->Y.cells[j]?=some u->wr.cell? ⟨g,off+(i*6+j),none⟩=some u:=fun j u hj hu =>
    (HA.out.below.cell (p:=⟨g,off+(i*6+j),none⟩) g3).trans (g4 _ u ((pV vs i j Y hY hj).trans hu))
   have lI:=(HK.out.2.2 i Y t hY ht).under HA.out.below;have jM:=hh9 ht;have fH:=hh9 (fun e (he:d=e+1)=>nS.out e he wr Y t (q-1) (by have:=HQ.out;omega) lI);obtain⟨k',s',pI,lo',nA,kv'⟩:=Y;have e0:=CX 0 _ (by omega) rfl;have e1:=CX 1 _ (by omega) rfl;have e2:=CX 2 _ (by omega) rfl;have e3:=CX 3 _ (by omega) rfl;have e4:=CX 4 _ (by omega) rfl;have e5:=CX 5 _ (by omega) rfl;rw[<- Nat.add_assoc]at e0 e1 e2 e3 e4 e5;rw[Nat.add_zero]at e0;clear CX hY ht lI g4;by_cases hq1:q<1
   ·have HV:=hh9 (show Bv=false by
     rw[lK.out];refine dW.out i t jM.out ?_;have:d=0:=by have:=HQ.out;omega
     rw[this];rfl)
    have HB:=hh9 HA.out.below;go_wp2_with fail
    go_ret;exact⟨by rw[HV.out];exact rfl,HB.out⟩
   ·obtain⟨e,he⟩:∃ e,d=e+1:=⟨d-1,by have:=HQ.out;omega⟩
    have HC:=hh9 (fH.out e he);have heq:dG d t=dK e t:=by rw[he];rfl
    rw[<- heq]at HC;clear he heq
    cases hf:dG d t
    ·have HV:=hh9 (show Bv=false by rw[lK.out];exact dW.out i t jM.out hf);rw[hf]at HC;clear hf;go_wp2_with fail
     refine HC.out.mono ?_;rintro e w' ⟨rfl,hb'⟩;have HB2:=hh9 (aJ HA.out.below hb');clear hb';go_wp2_with fail
     go_ret;exact⟨by rw[HV.out];exact rfl,HB2.out⟩
    ·have bT:Hid (∀ (j:Nat) (u:Tree),j<i+1->kids[j]?=some u->dG d u=true):=fun j u hj hu=>by
      by_cases g:j=i
      ·subst g;rw[jM.out]at hu;rw[<- zbB hu];exact hf
      ·exact aF.out j u (by omega) hu
     rw[hf]at HC;clear hf;go_wp2_with fail
     refine HC.out.mono ?_;rintro e w' ⟨rfl,hb'⟩;have HA2:=hh9 (HA.out.under hb');clear hb' e0 e1 e2 e3 e4 e5 a0 a1 a2 a3 a4 a5;go_wp2_with fail
     go_roundw
     case rel=>exact⟨i+1,by go_num,by omega,HA2,bT⟩
     case measure=>simp[intOf];omega
  ·have HY:Hid (kids.all (dG d)=true):=BN (n:=n) (by rw[bH.out];exact zbA _) (fun j t h hc=>aF.out j t (by omega) hc);have HW:=hh9 (show Bv=(jd k x ns lo hi n&&aY k x ns lo hi n) by rw[lK.out,vH.out HY.out,bH.out])
   cases hx:x.isEmpty
   ·have qx:=nU.out hx;have HV:=hh9 (show Bv=false by rw[HW.out];rw[HZ.out,Bool.false_and]);clear hx;go_wp2_with fail
    go_ret;exact⟨by rw[HV.out];exact rfl,HA.out.below⟩
   ·have qx:=pG.out hx;have BL:S.toList=[]:=List.isEmpty_iff.1 qx;have HX:=hh9 hx;clear hx;by_cases hm0:m=0
    ·subst hm0;have jH:Hid (ns.isEmpty=true):=by unfold Hid;rw[List.isEmpty_iff];exact List.length_eq_zero_iff.1 ng.out.symm
     by_cases hlo0:lo=0
     ·subst hlo0;by_cases hhi0:hi=0
      ·subst hhi0;have HV:=hh9 (show Bv=false by rw[HW.out];rw[HZ.out,Bool.false_and]);go_wp2_with fail
       go_ret;exact⟨by rw[HV.out];exact rfl,HA.out.below⟩
      ·have Ar:(hi==0)=false:=by simp;omega
       have xM:(hi != 0)=true:=by simp;omega
       have HV:=hh9 (show Bv=false by rw[HW.out];rw[HZ.out,Bool.false_and]);clear hhi0;go_wp2_with fail
       go_ret;exact⟨by rw[HV.out];exact rfl,HA.out.below⟩
     ·have Au:(lo==0)=false:=by simp;omega
      have xO:(lo != 0)=true:=by simp;omega
      have HV:=hh9 (show Bv=false by rw[HW.out];rw[HZ.out,Bool.false_and]);clear hlo0;go_wp2_with fail
      go_ret;exact⟨by rw[HV.out];exact rfl,HA.out.below⟩
    ·have qm:decide ((0:Int)<(m:Int))=true:=zbN (by omega);have Mh:decide (0<m)=true:=zbN (by omega)
     have jH:Hid (ns.isEmpty=false):=by
      cases e:ns with
      |nil=>have:=ng.out;rw[e]at this;exact absurd this hm0
      |cons _ _=>rfl
     have HV:=hh9 (show Bv=false by rw[HW.out];rw[HZ.out,Bool.false_and]);go_wp2_with fail
     go_ret;exact⟨by rw[HV.out];exact rfl,HA.out.below⟩
theorem zlk{d:Nat}(hd:d<=50)(ih:∀ e,d=e+1->zS e):zS d:=by
 intro w X t q hq h
 cases h with
 |@mk k lo hi nv kv x ns kids vs h0 hl h1 h2 h3 h4 =>
 obtain⟨a,ca,rfl,_⟩:=h1.slice;obtain⟨c,cc,rfl,_⟩:=h2.slice;have hK:pX w (.slice c kids.length cc) vs kids:=⟨h2,h3,h4⟩
 show Calls _ _ #[.agg #[.int .i64 k,.string (ak x),.slice a ns.length ca,.int .i64 lo,.int .i64 hi,.slice c kids.length cc],.int .i64 q] w _
 by_cases k1:k=1
 ·subst k1;exact qdr hd ih hq h0 hl h1 hK
 by_cases k2:k=2
 ·subst k2;exact qds hd ih hq h0 hl h1 hK
 by_cases k3:k=3
 ·subst k3;exact qf4 hd ih hq h0 hl h1 hK
 by_cases k4:k=4
 ·subst k4;exact qf5 hd ih hq h0 hl h1 hK
 by_cases k5:k=5
 ·subst k5;exact qdt hd ih hq h0 hl h1 hK
 by_cases k6:k=6
 ·subst k6;exact qdu hd ih hq h0 hl h1 hK
 by_cases k7:k=7
 ·subst k7;exact qdv hd ih hq h0 hl h1 hK
 exact qdw hd ih ⟨k1,k2,k3,k4,k5,k6,k7⟩ hq h0 hl h1 hK
theorem zn5:∀ d,d<=50->zS d
 |0,_=>zlk (by omega) (fun e h=>by omega)
 |d+1,h=>zlk h (fun e he=>by cases he;exact zn5 d (by omega))
end Go.Proofs.YtahibnnhjahmnaaGreatDoor
