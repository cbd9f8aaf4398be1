/- Part 42 of what the laws of the grammar rest on. -/
import Derived.Test.YtekjnfldgjcgeaaGreatDoorA8
import Derived.Deep.RegionWith
set_option linter.all false
set_option maxRecDepth 100000
set_option maxHeartbeats 8000000
namespace Go.Proofs.YtekjnfldgjcgeaaGreatDoor
open Go.RowKit
def zdl (d:Nat):Prop:=∀ (W:World) (X:XV) (t:Tree) (q:Int),q=(d:Int)->ETree W X t->Calls Tryz.prog 50 #[X.val,.int .i64 q] W (zam (zax d t) W)
theorem zdb {d:Nat} {k lo hi:Int} {x ns:List Int} {kids:List Tree} {i:Nat} {t:Tree} (h:kids[i]?=some t) (hf:zau d t=false):zax d (.mk k x ns lo hi kids)=false:=by
 rw [zjk,zqx (P:=zau d) h hf,Bool.and_false]
theorem zcw {d:Nat} {k lo hi:Int} {x ns:List Int} {kids:List Tree} (h:kids.all (zau d)=true):zax d (.mk k x ns lo hi kids)=(zcj k x ns lo hi kids.length&&othB k x ns lo hi kids.length):=by
 rw [zjk,h,Bool.and_true]
structure ArgIn (w W:World) (k lo hi:Int) (s:ByteArray) (ns ks:Value):Prop where
 arg:X6 W w.heap.size k lo hi s ns ks
 below:Below w.heap.size w W
theorem ArgIn.under {w W W1:World} {k lo hi:Int} {s:ByteArray} {ns ks:Value} (h:ArgIn w W k lo hi s ns ks) (hb:Below W.heap.size W W1):ArgIn w W1 k lo hi s ns ks:=⟨h.arg.under hb,za0 h.below hb⟩
theorem ArgIn.new (w:World) (k lo hi:Int) (s:ByteArray) (ns ks:Value):ArgIn w (w.alloc (xobj k lo hi s ns ks)) k lo hi s ns ks:=⟨X6.new w k lo hi s ns ks,(Below.refl _ _).alloc (Nat.le_refl _) _⟩

-- generated
theorem RowAny.at {W:World} {c:Option Addr} {n cap:Nat} {xs:List Value} (h:RowAny W (.slice c n cap) n xs) (hn:0<n):∃ g off,c=some ⟨g,off,none⟩/\n<=cap/\g<W.heap.size/\∀ (j:Nat) (u:Value),xs[j]?=some u->W.cell? ⟨g,off+j,none⟩=some u:=by
 rcases h with ⟨h0,_⟩ | ⟨g,off,cap',hv,h1,h2,h3,h4⟩
 ·omega
 ·injection hv with e1 e2 e3
  subst e1 e3
  exact ⟨g,off,rfl,h1,h3,h4⟩
theorem qcq {d:Nat} (hd:d<=50) (ih:∀ e,d=e+1->zdl e) {x ns:List Int} {lo hi:Int} {kids:List Tree} {w:World} {a c:Option Addr} {ca cc:Nat} {vs:List XV} {q:Int} (hq:q=(d:Int))
  (h0:∀ c∈x,0<=c/\c<=255) (hl:x.length<=9223372036854775807) (h1:RowAny w (.slice a ns.length ca) ns.length (zat ns)) (h2:ze6 w (.slice c kids.length cc) vs kids) :
  Calls Tryz.prog 50 #[.agg #[.int .i64 1,.string (za3 x),.slice a ns.length ca,.int .i64 lo,.int .i64 hi,.slice c kids.length cc],.int .i64 q] w (zam (zax d (.mk 1 x ns lo hi kids)) w):=by
 have HY0:=hh9 (fun (h:kids.all (zau d)=true)=>zcw (d:=d) (k:=1) (x:=x) (ns:=ns) (lo:=lo) (hi:=hi) h)
 have HNOT0:=hh9 (fun (i:Nat) (t:Tree) (h:kids[i]?=some t) (hf:zau d t=false)=>zdb (d:=d) (k:=1) (x:=x) (ns:=ns) (lo:=lo) (hi:=hi) h hf)
 obtain ⟨Bv,hBv⟩:∃ Bv,Bv=zax d (.mk 1 x ns lo hi kids):=⟨_,rfl⟩
 rw [<- hBv]
 have HBV:=hh9 hBv
 have hm:=h1.slice
 have hnk:=h2.1.slice
 obtain ⟨_,_,_,hm⟩:=hm
 obtain ⟨_,_,_,hnk⟩:=hnk
 obtain ⟨n,hnn⟩:∃ n,n=kids.length:=⟨_,rfl⟩
 obtain ⟨m,hmm⟩:∃ m,m=ns.length:=⟨_,rfl⟩
 obtain ⟨S,hS⟩:∃ S,S=za3 x:=⟨_,rfl⟩
 have HSE:Hid (x.isEmpty=true->S.toList.isEmpty=true):=fun h=>by rw [hS];exact zc4 h
 have HSN:Hid (x.isEmpty=false->S.toList.isEmpty=false):=fun h=>by rw [hS];exact zc5 h
 have HNM:=hh9 (fun W=>zdd (x:=x) W h0 hl)
 have HFO:=hh9 (fun W=>zdw (x:=x) W h0 hl)
 have HNU:=hh9 (fun W lo hi (h1':lo<=20000) (h2':hi<=20000) (hb:Below w.heap.size w W)=>zdx (x:=ns) W lo hi h1' h2' (h1.below hb))
 rw [<- hS] at HNM HFO ⊢
 rw [<- hnn] at h2 hnk ⊢
 rw [<- hmm] at h1 hm HNU ⊢
 have HNN:=hh9 hnn
 have HMM:=hh9 hmm
 have HK:=hh9 h2
 have HR1:=hh9 h1
 have HIH:=hh9 ih
 have HQ:=hh9 hq
 have q0:0<=q:=by omega
 have q1:q<=50:=by omega
 have hA:=ArgIn.new w 1 lo hi S (.slice a m ca) (.slice c n cc)
 unfold xobj at hA
 have HA0:=hh9 hA
 clear hBv hnn hmm hS h0 hl h1 h2 ih hq hd hA
 go_enter Tryz.func50,Tryz.ntmps50
 go_wp2_with fail
 go_loopw [5] (fun v wr=>∃ i:Nat,v=.int .i64 i/\i<=n/\Hid (ArgIn w wr 1 lo hi S (.slice a m ca) (.slice c n cc))/\Hid (∀ (j:Nat) (t:Tree),j<i->kids[j]?=some t->zau d t=true)) (fun v _=>n-(intOf v).toNat)
 case atStart=>exact ⟨0,rfl,by omega,HA0,fun j t h=>by omega⟩
 case round =>
  obtain ⟨i,rfl,hi',HA,HALL⟩:=hrel
  obtain ⟨a0,a1,a2,a3,a4,a5⟩:=HA.out.arg.cells
  by_cases hlt:i<n
  ·have hk1:RowAny w (.slice c n cc) n (vs.flatMap XV.cells):=by have:=HK.out.1;rwa [<- HNN.out] at this
   obtain ⟨g,off,rfl,g1,g3,g4⟩:=hk1.at (by omega)
   clear hk1
   obtain ⟨Y,hY⟩:∃ y,vs[i]?=some y:=⟨_,List.getElem?_eq_getElem (by rw [HK.out.2.1,<- HNN.out];exact hlt)⟩
   obtain ⟨t,ht⟩:∃ y,kids[i]?=some y:=⟨_,List.getElem?_eq_getElem (by rw [<- HNN.out];exact hlt)⟩
   have CX:∀ (j:Nat) (u:Value),j<6->Y.cells[j]?=some u->wr.cell? ⟨g,off+(i*6+j),none⟩=some u:=fun j u hj hu =>
    (HA.out.below.cell (p:=⟨g,off+(i*6+j),none⟩) g3).trans (g4 _ u ((zc9 vs i j Y hY hj).trans hu))
   have hYt:=(HK.out.2.2 i Y t hY ht).under HA.out.below
   have HTI:=hh9 ht
   have HCALL:=hh9 (fun e (he:d=e+1)=>HIH.out e he wr Y t (q-1) (by have:=HQ.out;omega) hYt)
   obtain ⟨k',s',nv',lo',hi'',kv'⟩:=Y
   have e0:=CX 0 _ (by omega) rfl
   have e1:=CX 1 _ (by omega) rfl
   have e2:=CX 2 _ (by omega) rfl
   have e3:=CX 3 _ (by omega) rfl
   have e4:=CX 4 _ (by omega) rfl
   have e5:=CX 5 _ (by omega) rfl
   rw [<- Nat.add_assoc] at e0 e1 e2 e3 e4 e5
   rw [Nat.add_zero] at e0
   clear CX hY ht hYt g4
   by_cases hq1:q<1
   ·have HV:=hh9 (show Bv=false by
     rw [HBV.out]
     refine HNOT0.out i t HTI.out ?_
     have:d=0:=by have:=HQ.out;omega
     rw [this];rfl)
    have HB:=hh9 HA.out.below
    go_wp2_with fail
    go_ret
    exact ⟨by rw [HV.out];exact rfl,HB.out⟩
   ·obtain ⟨e,he⟩:∃ e,d=e+1:=⟨d-1,by have:=HQ.out;omega⟩
    have HC:=hh9 (HCALL.out e he)
    have heq:zau d t=zax e t:=by rw [he];rfl
    rw [<- heq] at HC
    clear he heq
    cases hf:zau d t
    ·have HV:=hh9 (show Bv=false by rw [HBV.out];exact HNOT0.out i t HTI.out hf)
     rw [hf] at HC
     clear hf
     go_wp2_with fail
     refine HC.out.mono ?_
     rintro e w' ⟨rfl,hb'⟩
     have HB2:=hh9 (za0 HA.out.below hb')
     clear hb'
     go_wp2_with fail
     go_ret
     exact ⟨by rw [HV.out];exact rfl,HB2.out⟩
    ·have HNX:Hid (∀ (j:Nat) (u:Tree),j<i+1->kids[j]?=some u->zau d u=true):=fun j u hj hu=>by
      by_cases g:j=i
      ·subst g
       rw [HTI.out] at hu
       rw [<- Option.some.inj hu]
       exact hf
      ·exact HALL.out j u (by omega) hu
     rw [hf] at HC
     clear hf
     go_wp2_with fail
     refine HC.out.mono ?_
     rintro e w' ⟨rfl,hb'⟩
     have HA2:=hh9 (HA.out.under hb')
     clear hb' e0 e1 e2 e3 e4 e5 a0 a1 a2 a3 a4 a5
     go_wp2_with fail
     go_roundw
     case rel=>exact ⟨i+1,by go_num,by omega,HA2,HNX⟩
     case measure=>simp [intOf];omega
  ·have HY:Hid (kids.all (zau d)=true):=zde (n:=n) (by rw [HNN.out];exact Nat.le_refl _) (fun j t h hc=>HALL.out j t (by omega) hc)
   have HW:=hh9 (show Bv=(zcj 1 x ns lo hi n&&othB 1 x ns lo hi n) by rw [HBV.out,HY0.out HY.out,HNN.out])
   cases hx:x.isEmpty
   ·have qx:=HSN.out hx
    have HV:=hh9 (show Bv=false by rw [HW.out];simp [othB,hx])
    clear hx
    go_wp2_with fail
    go_ret
    exact ⟨by rw [HV.out];exact rfl,HA.out.below⟩
   ·have qx:=HSE.out hx
    have qx2:S.toList=[]:=List.isEmpty_iff.1 qx
    have HX:=hh9 hx
    clear hx
    by_cases hm0:m=0
    ·subst hm0
     have HNS:Hid (ns.isEmpty=true):=by unfold Hid;rw [List.isEmpty_iff];exact List.length_eq_zero_iff.1 HMM.out.symm
     by_cases hlo0:lo=0
     ·subst hlo0
      by_cases hhi0:hi=0
      ·subst hhi0
       by_cases h2n:2<=n
       ·have qn:decide ((1:Int)<(n:Int))=true:=decide_eq_true (by omega)
        have qn1:decide (1<n)=true:=decide_eq_true (by omega)
        have HV:=hh9 (show Bv=true by rw [HW.out];unfold zcj othB;rw [if_pos (by decide)];simp [HX.out,HNS.out,h2n])
        go_wp2_with fail
        go_ret
        exact ⟨by rw [HV.out];exact rfl,HA.out.below⟩
       ·have qn:decide ((1:Int)<(n:Int))=false:=decide_eq_false (by omega)
        have qn1:decide (1<n)=false:=decide_eq_false (by omega)
        have HV:=hh9 (show Bv=false by rw [HW.out];unfold zcj othB;rw [if_pos (by decide)];simp [HX.out,HNS.out,h2n])
        go_wp2_with fail
        go_ret
        exact ⟨by rw [HV.out];exact rfl,HA.out.below⟩
      ·have qhi:(hi==0)=false:=by simp;omega
       have qhi1:(hi != 0)=true:=by simp;omega
       have HV:=hh9 (show Bv=false by rw [HW.out];simp [othB,hhi0])
       clear hhi0
       go_wp2_with fail
       go_ret
       exact ⟨by rw [HV.out];exact rfl,HA.out.below⟩
     ·have qlo:(lo==0)=false:=by simp;omega
      have qlo1:(lo != 0)=true:=by simp;omega
      have HV:=hh9 (show Bv=false by rw [HW.out];simp [othB,hlo0])
      clear hlo0
      go_wp2_with fail
      go_ret
      exact ⟨by rw [HV.out];exact rfl,HA.out.below⟩
    ·have qm:decide ((0:Int)<(m:Int))=true:=decide_eq_true (by omega)
     have qm1:decide (0<m)=true:=decide_eq_true (by omega)
     have HNS:Hid (ns.isEmpty=false):=by
      cases e:ns with
      | nil=>have:=HMM.out;rw [e] at this;exact absurd this hm0
      | cons _ _=>rfl
     have HV:=hh9 (show Bv=false by rw [HW.out];simp [othB,HNS.out])
     go_wp2_with fail
     go_ret
     exact ⟨by rw [HV.out];exact rfl,HA.out.below⟩
theorem qcr {d:Nat} (hd:d<=50) (ih:∀ e,d=e+1->zdl e) {x ns:List Int} {lo hi:Int} {kids:List Tree} {w:World} {a c:Option Addr} {ca cc:Nat} {vs:List XV} {q:Int} (hq:q=(d:Int))
  (h0:∀ c∈x,0<=c/\c<=255) (hl:x.length<=9223372036854775807) (h1:RowAny w (.slice a ns.length ca) ns.length (zat ns)) (h2:ze6 w (.slice c kids.length cc) vs kids) :
  Calls Tryz.prog 50 #[.agg #[.int .i64 2,.string (za3 x),.slice a ns.length ca,.int .i64 lo,.int .i64 hi,.slice c kids.length cc],.int .i64 q] w (zam (zax d (.mk 2 x ns lo hi kids)) w):=by
 have HY0:=hh9 (fun (h:kids.all (zau d)=true)=>zcw (d:=d) (k:=2) (x:=x) (ns:=ns) (lo:=lo) (hi:=hi) h)
 have HNOT0:=hh9 (fun (i:Nat) (t:Tree) (h:kids[i]?=some t) (hf:zau d t=false)=>zdb (d:=d) (k:=2) (x:=x) (ns:=ns) (lo:=lo) (hi:=hi) h hf)
 obtain ⟨Bv,hBv⟩:∃ Bv,Bv=zax d (.mk 2 x ns lo hi kids):=⟨_,rfl⟩
 rw [<- hBv]
 have HBV:=hh9 hBv
 have hm:=h1.slice
 have hnk:=h2.1.slice
 obtain ⟨_,_,_,hm⟩:=hm
 obtain ⟨_,_,_,hnk⟩:=hnk
 obtain ⟨n,hnn⟩:∃ n,n=kids.length:=⟨_,rfl⟩
 obtain ⟨m,hmm⟩:∃ m,m=ns.length:=⟨_,rfl⟩
 obtain ⟨S,hS⟩:∃ S,S=za3 x:=⟨_,rfl⟩
 have HSE:Hid (x.isEmpty=true->S.toList.isEmpty=true):=fun h=>by rw [hS];exact zc4 h
 have HSN:Hid (x.isEmpty=false->S.toList.isEmpty=false):=fun h=>by rw [hS];exact zc5 h
 have HNM:=hh9 (fun W=>zdd (x:=x) W h0 hl)
 have HFO:=hh9 (fun W=>zdw (x:=x) W h0 hl)
 have HNU:=hh9 (fun W lo hi (h1':lo<=20000) (h2':hi<=20000) (hb:Below w.heap.size w W)=>zdx (x:=ns) W lo hi h1' h2' (h1.below hb))
 rw [<- hS] at HNM HFO ⊢
 rw [<- hnn] at h2 hnk ⊢
 rw [<- hmm] at h1 hm HNU ⊢
 have HNN:=hh9 hnn
 have HMM:=hh9 hmm
 have HK:=hh9 h2
 have HR1:=hh9 h1
 have HIH:=hh9 ih
 have HQ:=hh9 hq
 have q0:0<=q:=by omega
 have q1:q<=50:=by omega
 have hA:=ArgIn.new w 2 lo hi S (.slice a m ca) (.slice c n cc)
 unfold xobj at hA
 have HA0:=hh9 hA
 clear hBv hnn hmm hS h0 hl h1 h2 ih hq hd hA
 go_enter Tryz.func50,Tryz.ntmps50
 go_wp2_with fail
 go_loopw [5] (fun v wr=>∃ i:Nat,v=.int .i64 i/\i<=n/\Hid (ArgIn w wr 2 lo hi S (.slice a m ca) (.slice c n cc))/\Hid (∀ (j:Nat) (t:Tree),j<i->kids[j]?=some t->zau d t=true)) (fun v _=>n-(intOf v).toNat)
 case atStart=>exact ⟨0,rfl,by omega,HA0,fun j t h=>by omega⟩
 case round =>
  obtain ⟨i,rfl,hi',HA,HALL⟩:=hrel
  obtain ⟨a0,a1,a2,a3,a4,a5⟩:=HA.out.arg.cells
  by_cases hlt:i<n
  ·have hk1:RowAny w (.slice c n cc) n (vs.flatMap XV.cells):=by have:=HK.out.1;rwa [<- HNN.out] at this
   obtain ⟨g,off,rfl,g1,g3,g4⟩:=hk1.at (by omega)
   clear hk1
   obtain ⟨Y,hY⟩:∃ y,vs[i]?=some y:=⟨_,List.getElem?_eq_getElem (by rw [HK.out.2.1,<- HNN.out];exact hlt)⟩
   obtain ⟨t,ht⟩:∃ y,kids[i]?=some y:=⟨_,List.getElem?_eq_getElem (by rw [<- HNN.out];exact hlt)⟩
   have CX:∀ (j:Nat) (u:Value),j<6->Y.cells[j]?=some u->wr.cell? ⟨g,off+(i*6+j),none⟩=some u:=fun j u hj hu =>
    (HA.out.below.cell (p:=⟨g,off+(i*6+j),none⟩) g3).trans (g4 _ u ((zc9 vs i j Y hY hj).trans hu))
   have hYt:=(HK.out.2.2 i Y t hY ht).under HA.out.below
   have HTI:=hh9 ht
   have HCALL:=hh9 (fun e (he:d=e+1)=>HIH.out e he wr Y t (q-1) (by have:=HQ.out;omega) hYt)
   obtain ⟨k',s',nv',lo',hi'',kv'⟩:=Y
   have e0:=CX 0 _ (by omega) rfl
   have e1:=CX 1 _ (by omega) rfl
   have e2:=CX 2 _ (by omega) rfl
   have e3:=CX 3 _ (by omega) rfl
   have e4:=CX 4 _ (by omega) rfl
   have e5:=CX 5 _ (by omega) rfl
   rw [<- Nat.add_assoc] at e0 e1 e2 e3 e4 e5
   rw [Nat.add_zero] at e0
   clear CX hY ht hYt g4
   by_cases hq1:q<1
   ·have HV:=hh9 (show Bv=false by
     rw [HBV.out]
     refine HNOT0.out i t HTI.out ?_
     have:d=0:=by have:=HQ.out;omega
     rw [this];rfl)
    have HB:=hh9 HA.out.below
    go_wp2_with fail
    go_ret
    exact ⟨by rw [HV.out];exact rfl,HB.out⟩
   ·obtain ⟨e,he⟩:∃ e,d=e+1:=⟨d-1,by have:=HQ.out;omega⟩
    have HC:=hh9 (HCALL.out e he)
    have heq:zau d t=zax e t:=by rw [he];rfl
    rw [<- heq] at HC
    clear he heq
    cases hf:zau d t
    ·have HV:=hh9 (show Bv=false by rw [HBV.out];exact HNOT0.out i t HTI.out hf)
     rw [hf] at HC
     clear hf
     go_wp2_with fail
     refine HC.out.mono ?_
     rintro e w' ⟨rfl,hb'⟩
     have HB2:=hh9 (za0 HA.out.below hb')
     clear hb'
     go_wp2_with fail
     go_ret
     exact ⟨by rw [HV.out];exact rfl,HB2.out⟩
    ·have HNX:Hid (∀ (j:Nat) (u:Tree),j<i+1->kids[j]?=some u->zau d u=true):=fun j u hj hu=>by
      by_cases g:j=i
      ·subst g
       rw [HTI.out] at hu
       rw [<- Option.some.inj hu]
       exact hf
      ·exact HALL.out j u (by omega) hu
     rw [hf] at HC
     clear hf
     go_wp2_with fail
     refine HC.out.mono ?_
     rintro e w' ⟨rfl,hb'⟩
     have HA2:=hh9 (HA.out.under hb')
     clear hb' e0 e1 e2 e3 e4 e5 a0 a1 a2 a3 a4 a5
     go_wp2_with fail
     go_roundw
     case rel=>exact ⟨i+1,by go_num,by omega,HA2,HNX⟩
     case measure=>simp [intOf];omega
  ·have HY:Hid (kids.all (zau d)=true):=zde (n:=n) (by rw [HNN.out];exact Nat.le_refl _) (fun j t h hc=>HALL.out j t (by omega) hc)
   have HW:=hh9 (show Bv=(zcj 2 x ns lo hi n&&othB 2 x ns lo hi n) by rw [HBV.out,HY0.out HY.out,HNN.out])
   cases hx:x.isEmpty
   ·have qx:=HSN.out hx
    have HV:=hh9 (show Bv=false by rw [HW.out];simp [othB,hx])
    clear hx
    go_wp2_with fail
    go_ret
    exact ⟨by rw [HV.out];exact rfl,HA.out.below⟩
   ·have qx:=HSE.out hx
    have qx2:S.toList=[]:=List.isEmpty_iff.1 qx
    have HX:=hh9 hx
    clear hx
    by_cases hm0:m=0
    ·subst hm0
     have HNS:Hid (ns.isEmpty=true):=by unfold Hid;rw [List.isEmpty_iff];exact List.length_eq_zero_iff.1 HMM.out.symm
     by_cases hlo0:lo=0
     ·subst hlo0
      by_cases hhi0:hi=0
      ·subst hhi0
       by_cases h2n:2<=n
       ·have qn:decide ((1:Int)<(n:Int))=true:=decide_eq_true (by omega)
        have qn1:decide (1<n)=true:=decide_eq_true (by omega)
        have HV:=hh9 (show Bv=true by rw [HW.out];unfold zcj othB;rw [if_pos (by decide)];simp [HX.out,HNS.out,h2n])
        go_wp2_with fail
        go_ret
        exact ⟨by rw [HV.out];exact rfl,HA.out.below⟩
       ·have qn:decide ((1:Int)<(n:Int))=false:=decide_eq_false (by omega)
        have qn1:decide (1<n)=false:=decide_eq_false (by omega)
        have HV:=hh9 (show Bv=false by rw [HW.out];unfold zcj othB;rw [if_pos (by decide)];simp [HX.out,HNS.out,h2n])
        go_wp2_with fail
        go_ret
        exact ⟨by rw [HV.out];exact rfl,HA.out.below⟩
      ·have qhi:(hi==0)=false:=by simp;omega
       have qhi1:(hi != 0)=true:=by simp;omega
       have HV:=hh9 (show Bv=false by rw [HW.out];simp [othB,hhi0])
       clear hhi0
       go_wp2_with fail
       go_ret
       exact ⟨by rw [HV.out];exact rfl,HA.out.below⟩
     ·have qlo:(lo==0)=false:=by simp;omega
      have qlo1:(lo != 0)=true:=by simp;omega
      have HV:=hh9 (show Bv=false by rw [HW.out];simp [othB,hlo0])
      clear hlo0
      go_wp2_with fail
      go_ret
      exact ⟨by rw [HV.out];exact rfl,HA.out.below⟩
    ·have qm:decide ((0:Int)<(m:Int))=true:=decide_eq_true (by omega)
     have qm1:decide (0<m)=true:=decide_eq_true (by omega)
     have HNS:Hid (ns.isEmpty=false):=by
      cases e:ns with
      | nil=>have:=HMM.out;rw [e] at this;exact absurd this hm0
      | cons _ _=>rfl
     have HV:=hh9 (show Bv=false by rw [HW.out];simp [othB,HNS.out])
     go_wp2_with fail
     go_ret
     exact ⟨by rw [HV.out];exact rfl,HA.out.below⟩
theorem qe5 {d:Nat} (hd:d<=50) (ih:∀ e,d=e+1->zdl e) {x ns:List Int} {lo hi:Int} {kids:List Tree} {w:World} {a c:Option Addr} {ca cc:Nat} {vs:List XV} {q:Int} (hq:q=(d:Int))
  (h0:∀ c∈x,0<=c/\c<=255) (hl:x.length<=9223372036854775807) (h1:RowAny w (.slice a ns.length ca) ns.length (zat ns)) (h2:ze6 w (.slice c kids.length cc) vs kids) :
  Calls Tryz.prog 50 #[.agg #[.int .i64 3,.string (za3 x),.slice a ns.length ca,.int .i64 lo,.int .i64 hi,.slice c kids.length cc],.int .i64 q] w (zam (zax d (.mk 3 x ns lo hi kids)) w):=by
 have HY0:=hh9 (fun (h:kids.all (zau d)=true)=>zcw (d:=d) (k:=3) (x:=x) (ns:=ns) (lo:=lo) (hi:=hi) h)
 have HNOT0:=hh9 (fun (i:Nat) (t:Tree) (h:kids[i]?=some t) (hf:zau d t=false)=>zdb (d:=d) (k:=3) (x:=x) (ns:=ns) (lo:=lo) (hi:=hi) h hf)
 obtain ⟨Bv,hBv⟩:∃ Bv,Bv=zax d (.mk 3 x ns lo hi kids):=⟨_,rfl⟩
 rw [<- hBv]
 have HBV:=hh9 hBv
 have hm:=h1.slice
 have hnk:=h2.1.slice
 obtain ⟨_,_,_,hm⟩:=hm
 obtain ⟨_,_,_,hnk⟩:=hnk
 obtain ⟨n,hnn⟩:∃ n,n=kids.length:=⟨_,rfl⟩
 obtain ⟨m,hmm⟩:∃ m,m=ns.length:=⟨_,rfl⟩
 obtain ⟨S,hS⟩:∃ S,S=za3 x:=⟨_,rfl⟩
 have HSE:Hid (x.isEmpty=true->S.toList.isEmpty=true):=fun h=>by rw [hS];exact zc4 h
 have HSN:Hid (x.isEmpty=false->S.toList.isEmpty=false):=fun h=>by rw [hS];exact zc5 h
 have HNM:=hh9 (fun W=>zdd (x:=x) W h0 hl)
 have HFO:=hh9 (fun W=>zdw (x:=x) W h0 hl)
 have HNU:=hh9 (fun W lo hi (h1':lo<=20000) (h2':hi<=20000) (hb:Below w.heap.size w W)=>zdx (x:=ns) W lo hi h1' h2' (h1.below hb))
 rw [<- hS] at HNM HFO ⊢
 rw [<- hnn] at h2 hnk ⊢
 rw [<- hmm] at h1 hm HNU ⊢
 have HNN:=hh9 hnn
 have HMM:=hh9 hmm
 have HK:=hh9 h2
 have HR1:=hh9 h1
 have HIH:=hh9 ih
 have HQ:=hh9 hq
 have q0:0<=q:=by omega
 have q1:q<=50:=by omega
 have hA:=ArgIn.new w 3 lo hi S (.slice a m ca) (.slice c n cc)
 unfold xobj at hA
 have HA0:=hh9 hA
 clear hBv hnn hmm hS h0 hl h1 h2 ih hq hd hA
 go_enter Tryz.func50,Tryz.ntmps50
 go_wp2_with fail
 go_loopw [5] (fun v wr=>∃ i:Nat,v=.int .i64 i/\i<=n/\Hid (ArgIn w wr 3 lo hi S (.slice a m ca) (.slice c n cc))/\Hid (∀ (j:Nat) (t:Tree),j<i->kids[j]?=some t->zau d t=true)) (fun v _=>n-(intOf v).toNat)
 case atStart=>exact ⟨0,rfl,by omega,HA0,fun j t h=>by omega⟩
 case round =>
  obtain ⟨i,rfl,hi',HA,HALL⟩:=hrel
  obtain ⟨a0,a1,a2,a3,a4,a5⟩:=HA.out.arg.cells
  by_cases hlt:i<n
  ·have hk1:RowAny w (.slice c n cc) n (vs.flatMap XV.cells):=by have:=HK.out.1;rwa [<- HNN.out] at this
   obtain ⟨g,off,rfl,g1,g3,g4⟩:=hk1.at (by omega)
   clear hk1
   obtain ⟨Y,hY⟩:∃ y,vs[i]?=some y:=⟨_,List.getElem?_eq_getElem (by rw [HK.out.2.1,<- HNN.out];exact hlt)⟩
   obtain ⟨t,ht⟩:∃ y,kids[i]?=some y:=⟨_,List.getElem?_eq_getElem (by rw [<- HNN.out];exact hlt)⟩
   have CX:∀ (j:Nat) (u:Value),j<6->Y.cells[j]?=some u->wr.cell? ⟨g,off+(i*6+j),none⟩=some u:=fun j u hj hu =>
    (HA.out.below.cell (p:=⟨g,off+(i*6+j),none⟩) g3).trans (g4 _ u ((zc9 vs i j Y hY hj).trans hu))
   have hYt:=(HK.out.2.2 i Y t hY ht).under HA.out.below
   have HTI:=hh9 ht
   have HCALL:=hh9 (fun e (he:d=e+1)=>HIH.out e he wr Y t (q-1) (by have:=HQ.out;omega) hYt)
   obtain ⟨k',s',nv',lo',hi'',kv'⟩:=Y
   have e0:=CX 0 _ (by omega) rfl
   have e1:=CX 1 _ (by omega) rfl
   have e2:=CX 2 _ (by omega) rfl
   have e3:=CX 3 _ (by omega) rfl
   have e4:=CX 4 _ (by omega) rfl
   have e5:=CX 5 _ (by omega) rfl
   rw [<- Nat.add_assoc] at e0 e1 e2 e3 e4 e5
   rw [Nat.add_zero] at e0
   clear CX hY ht hYt g4
   by_cases hq1:q<1
   ·have HV:=hh9 (show Bv=false by
     rw [HBV.out]
     refine HNOT0.out i t HTI.out ?_
     have:d=0:=by have:=HQ.out;omega
     rw [this];rfl)
    have HB:=hh9 HA.out.below
    go_wp2_with fail
    go_ret
    exact ⟨by rw [HV.out];exact rfl,HB.out⟩
   ·obtain ⟨e,he⟩:∃ e,d=e+1:=⟨d-1,by have:=HQ.out;omega⟩
    have HC:=hh9 (HCALL.out e he)
    have heq:zau d t=zax e t:=by rw [he];rfl
    rw [<- heq] at HC
    clear he heq
    cases hf:zau d t
    ·have HV:=hh9 (show Bv=false by rw [HBV.out];exact HNOT0.out i t HTI.out hf)
     rw [hf] at HC
     clear hf
     go_wp2_with fail
     refine HC.out.mono ?_
     rintro e w' ⟨rfl,hb'⟩
     have HB2:=hh9 (za0 HA.out.below hb')
     clear hb'
     go_wp2_with fail
     go_ret
     exact ⟨by rw [HV.out];exact rfl,HB2.out⟩
    ·have HNX:Hid (∀ (j:Nat) (u:Tree),j<i+1->kids[j]?=some u->zau d u=true):=fun j u hj hu=>by
      by_cases g:j=i
      ·subst g
       rw [HTI.out] at hu
       rw [<- Option.some.inj hu]
       exact hf
      ·exact HALL.out j u (by omega) hu
     rw [hf] at HC
     clear hf
     go_wp2_with fail
     refine HC.out.mono ?_
     rintro e w' ⟨rfl,hb'⟩
     have HA2:=hh9 (HA.out.under hb')
     clear hb' e0 e1 e2 e3 e4 e5 a0 a1 a2 a3 a4 a5
     go_wp2_with fail
     go_roundw
     case rel=>exact ⟨i+1,by go_num,by omega,HA2,HNX⟩
     case measure=>simp [intOf];omega
  ·have HY:Hid (kids.all (zau d)=true):=zde (n:=n) (by rw [HNN.out];exact Nat.le_refl _) (fun j t h hc=>HALL.out j t (by omega) hc)
   have HW:=hh9 (show Bv=(zcj 3 x ns lo hi n&&othB 3 x ns lo hi n) by rw [HBV.out,HY0.out HY.out,HNN.out])
   cases hx:x.isEmpty
   ·have qx:=HSN.out hx
    have HV:=hh9 (show Bv=false by rw [HW.out];simp [othB,hx])
    clear hx
    go_wp2_with fail
    go_ret
    exact ⟨by rw [HV.out];exact rfl,HA.out.below⟩
   ·have qx:=HSE.out hx
    have qx2:S.toList=[]:=List.isEmpty_iff.1 qx
    have HX:=hh9 hx
    clear hx
    by_cases hm0:m=0
    ·subst hm0
     have HNS:Hid (ns.isEmpty=true):=by unfold Hid;rw [List.isEmpty_iff];exact List.length_eq_zero_iff.1 HMM.out.symm
     by_cases hn1:n=1
     ·subst hn1
      by_cases c0:0<=lo
      ·have u0:decide (0<=lo)=true:=decide_eq_true c0
       by_cases c1:lo<=200
       ·have u1:decide (lo<=200)=true:=decide_eq_true c1
        by_cases c2:hi<=200
        ·have u2:decide (hi<=200)=true:=decide_eq_true c2
         by_cases c3:-1<=hi
         ·have u3:decide (-1<=hi)=true:=decide_eq_true c3
          by_cases c4:hi<0
          ·have u4:decide (hi<0)=true:=decide_eq_true c4
           have c5:hi=-1:=by omega
           have HV:=hh9 (show Bv=true by rw [HW.out];unfold zcj othB;rw [if_neg (by decide),if_pos rfl];simp [HX.out,HNS.out,cntB,c0,c1,c5])
           go_wp2_with fail
           go_ret
           exact ⟨by rw [HV.out];exact rfl,HA.out.below⟩
          ·have u4:decide (hi<0)=false:=decide_eq_false c4
           have c5:hi≠-1:=by omega
           by_cases c6:lo<=hi
           ·have u6:decide (lo<=hi)=true:=decide_eq_true c6
            have HV:=hh9 (show Bv=true by rw [HW.out];unfold zcj othB;rw [if_neg (by decide),if_pos rfl];simp [HX.out,HNS.out,cntB,c0,c1,c2,c6])
            go_wp2_with fail
            go_ret
            exact ⟨by rw [HV.out];exact rfl,HA.out.below⟩
           ·have u6:decide (lo<=hi)=false:=decide_eq_false c6
            have HV:=hh9 (show Bv=false by rw [HW.out];unfold zcj othB;rw [if_neg (by decide),if_pos rfl];simp [HX.out,HNS.out,cntB,c5,c6])
            go_wp2_with fail
            go_ret
            exact ⟨by rw [HV.out];exact rfl,HA.out.below⟩
         ·have u3:decide (-1<=hi)=false:=decide_eq_false c3
          have c4:hi≠-1:=by omega
          have c5:¬ lo<=hi:=by omega
          have HV:=hh9 (show Bv=false by rw [HW.out];unfold zcj othB;rw [if_neg (by decide),if_pos rfl];simp [HX.out,HNS.out,cntB,c4,c5])
          go_wp2_with fail
          go_ret
          exact ⟨by rw [HV.out];exact rfl,HA.out.below⟩
        ·have u2:decide (hi<=200)=false:=decide_eq_false c2
         have c3:hi≠-1:=by omega
         have HV:=hh9 (show Bv=false by rw [HW.out];unfold zcj othB;rw [if_neg (by decide),if_pos rfl];simp [HX.out,HNS.out,cntB,c2,c3])
         go_wp2_with fail
         go_ret
         exact ⟨by rw [HV.out];exact rfl,HA.out.below⟩
       ·have u1:decide (lo<=200)=false:=decide_eq_false c1
        have HV:=hh9 (show Bv=false by rw [HW.out];unfold zcj othB;rw [if_neg (by decide),if_pos rfl];simp [HX.out,HNS.out,cntB,c1])
        go_wp2_with fail
        go_ret
        exact ⟨by rw [HV.out];exact rfl,HA.out.below⟩
      ·have u0:decide (0<=lo)=false:=decide_eq_false c0
       have HV:=hh9 (show Bv=false by rw [HW.out];unfold zcj othB;rw [if_neg (by decide),if_pos rfl];simp [HX.out,HNS.out,cntB,c0])
       go_wp2_with fail
       go_ret
       exact ⟨by rw [HV.out];exact rfl,HA.out.below⟩
     ·have qn:((n:Int)==1)=false:=by simp;omega
      have qn1:decide ((n:Int)=1)=false:=decide_eq_false (by omega)
      have qn2:decide (n=1)=false:=decide_eq_false hn1
      have HV:=hh9 (show Bv=false by rw [HW.out];unfold zcj othB;rw [if_neg (by decide),if_pos rfl];simp [HX.out,HNS.out,hn1])
      go_wp2_with fail
      go_ret
      exact ⟨by rw [HV.out];exact rfl,HA.out.below⟩
    ·have qm:decide ((0:Int)<(m:Int))=true:=decide_eq_true (by omega)
     have qm1:decide (0<m)=true:=decide_eq_true (by omega)
     have HNS:Hid (ns.isEmpty=false):=by
      cases e:ns with
      | nil=>have:=HMM.out;rw [e] at this;exact absurd this hm0
      | cons _ _=>rfl
     have HV:=hh9 (show Bv=false by rw [HW.out];simp [othB,HNS.out])
     go_wp2_with fail
     go_ret
     exact ⟨by rw [HV.out];exact rfl,HA.out.below⟩
theorem qe6 {d:Nat} (hd:d<=50) (ih:∀ e,d=e+1->zdl e) {x ns:List Int} {lo hi:Int} {kids:List Tree} {w:World} {a c:Option Addr} {ca cc:Nat} {vs:List XV} {q:Int} (hq:q=(d:Int))
  (h0:∀ c∈x,0<=c/\c<=255) (hl:x.length<=9223372036854775807) (h1:RowAny w (.slice a ns.length ca) ns.length (zat ns)) (h2:ze6 w (.slice c kids.length cc) vs kids) :
  Calls Tryz.prog 50 #[.agg #[.int .i64 4,.string (za3 x),.slice a ns.length ca,.int .i64 lo,.int .i64 hi,.slice c kids.length cc],.int .i64 q] w (zam (zax d (.mk 4 x ns lo hi kids)) w):=by
 have HY0:=hh9 (fun (h:kids.all (zau d)=true)=>zcw (d:=d) (k:=4) (x:=x) (ns:=ns) (lo:=lo) (hi:=hi) h)
 have HNOT0:=hh9 (fun (i:Nat) (t:Tree) (h:kids[i]?=some t) (hf:zau d t=false)=>zdb (d:=d) (k:=4) (x:=x) (ns:=ns) (lo:=lo) (hi:=hi) h hf)
 obtain ⟨Bv,hBv⟩:∃ Bv,Bv=zax d (.mk 4 x ns lo hi kids):=⟨_,rfl⟩
 rw [<- hBv]
 have HBV:=hh9 hBv
 have hm:=h1.slice
 have hnk:=h2.1.slice
 obtain ⟨_,_,_,hm⟩:=hm
 obtain ⟨_,_,_,hnk⟩:=hnk
 obtain ⟨n,hnn⟩:∃ n,n=kids.length:=⟨_,rfl⟩
 obtain ⟨m,hmm⟩:∃ m,m=ns.length:=⟨_,rfl⟩
 obtain ⟨S,hS⟩:∃ S,S=za3 x:=⟨_,rfl⟩
 have HSE:Hid (x.isEmpty=true->S.toList.isEmpty=true):=fun h=>by rw [hS];exact zc4 h
 have HSN:Hid (x.isEmpty=false->S.toList.isEmpty=false):=fun h=>by rw [hS];exact zc5 h
 have HNM:=hh9 (fun W=>zdd (x:=x) W h0 hl)
 have HFO:=hh9 (fun W=>zdw (x:=x) W h0 hl)
 have HNU:=hh9 (fun W lo hi (h1':lo<=20000) (h2':hi<=20000) (hb:Below w.heap.size w W)=>zdx (x:=ns) W lo hi h1' h2' (h1.below hb))
 rw [<- hS] at HNM HFO ⊢
 rw [<- hnn] at h2 hnk ⊢
 rw [<- hmm] at h1 hm HNU ⊢
 have HNN:=hh9 hnn
 have HMM:=hh9 hmm
 have HK:=hh9 h2
 have HR1:=hh9 h1
 have HIH:=hh9 ih
 have HQ:=hh9 hq
 have q0:0<=q:=by omega
 have q1:q<=50:=by omega
 have hA:=ArgIn.new w 4 lo hi S (.slice a m ca) (.slice c n cc)
 unfold xobj at hA
 have HA0:=hh9 hA
 clear hBv hnn hmm hS h0 hl h1 h2 ih hq hd hA
 go_enter Tryz.func50,Tryz.ntmps50
 go_wp2_with fail
 go_loopw [5] (fun v wr=>∃ i:Nat,v=.int .i64 i/\i<=n/\Hid (ArgIn w wr 4 lo hi S (.slice a m ca) (.slice c n cc))/\Hid (∀ (j:Nat) (t:Tree),j<i->kids[j]?=some t->zau d t=true)) (fun v _=>n-(intOf v).toNat)
 case atStart=>exact ⟨0,rfl,by omega,HA0,fun j t h=>by omega⟩
 case round =>
  obtain ⟨i,rfl,hi',HA,HALL⟩:=hrel
  obtain ⟨a0,a1,a2,a3,a4,a5⟩:=HA.out.arg.cells
  by_cases hlt:i<n
  ·have hk1:RowAny w (.slice c n cc) n (vs.flatMap XV.cells):=by have:=HK.out.1;rwa [<- HNN.out] at this
   obtain ⟨g,off,rfl,g1,g3,g4⟩:=hk1.at (by omega)
   clear hk1
   obtain ⟨Y,hY⟩:∃ y,vs[i]?=some y:=⟨_,List.getElem?_eq_getElem (by rw [HK.out.2.1,<- HNN.out];exact hlt)⟩
   obtain ⟨t,ht⟩:∃ y,kids[i]?=some y:=⟨_,List.getElem?_eq_getElem (by rw [<- HNN.out];exact hlt)⟩
   have CX:∀ (j:Nat) (u:Value),j<6->Y.cells[j]?=some u->wr.cell? ⟨g,off+(i*6+j),none⟩=some u:=fun j u hj hu =>
    (HA.out.below.cell (p:=⟨g,off+(i*6+j),none⟩) g3).trans (g4 _ u ((zc9 vs i j Y hY hj).trans hu))
   have hYt:=(HK.out.2.2 i Y t hY ht).under HA.out.below
   have HTI:=hh9 ht
   have HCALL:=hh9 (fun e (he:d=e+1)=>HIH.out e he wr Y t (q-1) (by have:=HQ.out;omega) hYt)
   obtain ⟨k',s',nv',lo',hi'',kv'⟩:=Y
   have e0:=CX 0 _ (by omega) rfl
   have e1:=CX 1 _ (by omega) rfl
   have e2:=CX 2 _ (by omega) rfl
   have e3:=CX 3 _ (by omega) rfl
   have e4:=CX 4 _ (by omega) rfl
   have e5:=CX 5 _ (by omega) rfl
   rw [<- Nat.add_assoc] at e0 e1 e2 e3 e4 e5
   rw [Nat.add_zero] at e0
   clear CX hY ht hYt g4
   by_cases hq1:q<1
   ·have HV:=hh9 (show Bv=false by
     rw [HBV.out]
     refine HNOT0.out i t HTI.out ?_
     have:d=0:=by have:=HQ.out;omega
     rw [this];rfl)
    have HB:=hh9 HA.out.below
    go_wp2_with fail
    go_ret
    exact ⟨by rw [HV.out];exact rfl,HB.out⟩
   ·obtain ⟨e,he⟩:∃ e,d=e+1:=⟨d-1,by have:=HQ.out;omega⟩
    have HC:=hh9 (HCALL.out e he)
    have heq:zau d t=zax e t:=by rw [he];rfl
    rw [<- heq] at HC
    clear he heq
    cases hf:zau d t
    ·have HV:=hh9 (show Bv=false by rw [HBV.out];exact HNOT0.out i t HTI.out hf)
     rw [hf] at HC
     clear hf
     go_wp2_with fail
     refine HC.out.mono ?_
     rintro e w' ⟨rfl,hb'⟩
     have HB2:=hh9 (za0 HA.out.below hb')
     clear hb'
     go_wp2_with fail
     go_ret
     exact ⟨by rw [HV.out];exact rfl,HB2.out⟩
    ·have HNX:Hid (∀ (j:Nat) (u:Tree),j<i+1->kids[j]?=some u->zau d u=true):=fun j u hj hu=>by
      by_cases g:j=i
      ·subst g
       rw [HTI.out] at hu
       rw [<- Option.some.inj hu]
       exact hf
      ·exact HALL.out j u (by omega) hu
     rw [hf] at HC
     clear hf
     go_wp2_with fail
     refine HC.out.mono ?_
     rintro e w' ⟨rfl,hb'⟩
     have HA2:=hh9 (HA.out.under hb')
     clear hb' e0 e1 e2 e3 e4 e5 a0 a1 a2 a3 a4 a5
     go_wp2_with fail
     go_roundw
     case rel=>exact ⟨i+1,by go_num,by omega,HA2,HNX⟩
     case measure=>simp [intOf];omega
  ·have HY:Hid (kids.all (zau d)=true):=zde (n:=n) (by rw [HNN.out];exact Nat.le_refl _) (fun j t h hc=>HALL.out j t (by omega) hc)
   have HW:=hh9 (show Bv=(zcj 4 x ns lo hi n&&othB 4 x ns lo hi n) by rw [HBV.out,HY0.out HY.out,HNN.out])
   by_cases hm0:m=0
   ·subst hm0
    have HNS:Hid (ns.isEmpty=true):=by unfold Hid;rw [List.isEmpty_iff];exact List.length_eq_zero_iff.1 HMM.out.symm
    by_cases hlo0:lo=0
    ·subst hlo0
     by_cases hhi0:hi=0
     ·subst hhi0
      by_cases hn0:n=0
      ·subst hn0
       cases hc:zdc x
       all_goals
        have HCC:=hh9 (HNM.out wr)
        rw [hc] at HCC
        have HV:=hh9 (show Bv=zdc x by rw [HW.out];unfold zcj othB;rw [if_neg (by decide),if_neg (by decide),if_pos rfl];simp [HNS.out])
        rw [hc] at HV
        clear hc
        go_wp2_with fail
        refine (HCC.out).mono ?_
        rintro e w2 ⟨rfl,rfl⟩
        go_wp2_with fail
        go_ret
        exact ⟨by rw [HV.out];exact rfl,HA.out.below⟩
      ·have qn:((n:Int)==0)=false:=by simp;omega
       have qn1:decide ((n:Int)=0)=false:=decide_eq_false (by omega)
       have qn2:decide (n=0)=false:=decide_eq_false hn0
       have HV:=hh9 (show Bv=false by rw [HW.out];unfold zcj othB;rw [if_neg (by decide),if_neg (by decide),if_pos rfl];simp [HNS.out,hn0])
       go_wp2_with fail
       go_ret
       exact ⟨by rw [HV.out];exact rfl,HA.out.below⟩
     ·have qhi:(hi==0)=false:=by simp;omega
      have qhi1:(hi != 0)=true:=by simp;omega
      have HV:=hh9 (show Bv=false by rw [HW.out];simp [othB,hhi0])
      clear hhi0
      go_wp2_with fail
      go_ret
      exact ⟨by rw [HV.out];exact rfl,HA.out.below⟩
    ·have qlo:(lo==0)=false:=by simp;omega
     have qlo1:(lo != 0)=true:=by simp;omega
     have HV:=hh9 (show Bv=false by rw [HW.out];simp [othB,hlo0])
     clear hlo0
     go_wp2_with fail
     go_ret
     exact ⟨by rw [HV.out];exact rfl,HA.out.below⟩
   ·have qm:decide ((0:Int)<(m:Int))=true:=decide_eq_true (by omega)
    have qm1:decide (0<m)=true:=decide_eq_true (by omega)
    have HNS:Hid (ns.isEmpty=false):=by
     cases e:ns with
     | nil=>have:=HMM.out;rw [e] at this;exact absurd this hm0
     | cons _ _=>rfl
    have HV:=hh9 (show Bv=false by rw [HW.out];simp [othB,HNS.out])
    go_wp2_with fail
    go_ret
    exact ⟨by rw [HV.out];exact rfl,HA.out.below⟩
theorem qcs {d:Nat} (hd:d<=50) (ih:∀ e,d=e+1->zdl e) {x ns:List Int} {lo hi:Int} {kids:List Tree} {w:World} {a c:Option Addr} {ca cc:Nat} {vs:List XV} {q:Int} (hq:q=(d:Int))
  (h0:∀ c∈x,0<=c/\c<=255) (hl:x.length<=9223372036854775807) (h1:RowAny w (.slice a ns.length ca) ns.length (zat ns)) (h2:ze6 w (.slice c kids.length cc) vs kids) :
  Calls Tryz.prog 50 #[.agg #[.int .i64 5,.string (za3 x),.slice a ns.length ca,.int .i64 lo,.int .i64 hi,.slice c kids.length cc],.int .i64 q] w (zam (zax d (.mk 5 x ns lo hi kids)) w):=by
 have HY0:=hh9 (fun (h:kids.all (zau d)=true)=>zcw (d:=d) (k:=5) (x:=x) (ns:=ns) (lo:=lo) (hi:=hi) h)
 have HNOT0:=hh9 (fun (i:Nat) (t:Tree) (h:kids[i]?=some t) (hf:zau d t=false)=>zdb (d:=d) (k:=5) (x:=x) (ns:=ns) (lo:=lo) (hi:=hi) h hf)
 obtain ⟨Bv,hBv⟩:∃ Bv,Bv=zax d (.mk 5 x ns lo hi kids):=⟨_,rfl⟩
 rw [<- hBv]
 have HBV:=hh9 hBv
 have hm:=h1.slice
 have hnk:=h2.1.slice
 obtain ⟨_,_,_,hm⟩:=hm
 obtain ⟨_,_,_,hnk⟩:=hnk
 obtain ⟨n,hnn⟩:∃ n,n=kids.length:=⟨_,rfl⟩
 obtain ⟨m,hmm⟩:∃ m,m=ns.length:=⟨_,rfl⟩
 obtain ⟨S,hS⟩:∃ S,S=za3 x:=⟨_,rfl⟩
 have HSE:Hid (x.isEmpty=true->S.toList.isEmpty=true):=fun h=>by rw [hS];exact zc4 h
 have HSN:Hid (x.isEmpty=false->S.toList.isEmpty=false):=fun h=>by rw [hS];exact zc5 h
 have HNM:=hh9 (fun W=>zdd (x:=x) W h0 hl)
 have HFO:=hh9 (fun W=>zdw (x:=x) W h0 hl)
 have HNU:=hh9 (fun W lo hi (h1':lo<=20000) (h2':hi<=20000) (hb:Below w.heap.size w W)=>zdx (x:=ns) W lo hi h1' h2' (h1.below hb))
 rw [<- hS] at HNM HFO ⊢
 rw [<- hnn] at h2 hnk ⊢
 rw [<- hmm] at h1 hm HNU ⊢
 have HNN:=hh9 hnn
 have HMM:=hh9 hmm
 have HK:=hh9 h2
 have HR1:=hh9 h1
 have HIH:=hh9 ih
 have HQ:=hh9 hq
 have q0:0<=q:=by omega
 have q1:q<=50:=by omega
 have hA:=ArgIn.new w 5 lo hi S (.slice a m ca) (.slice c n cc)
 unfold xobj at hA
 have HA0:=hh9 hA
 clear hBv hnn hmm hS h0 hl h1 h2 ih hq hd hA
 go_enter Tryz.func50,Tryz.ntmps50
 go_wp2_with fail
 go_loopw [5] (fun v wr=>∃ i:Nat,v=.int .i64 i/\i<=n/\Hid (ArgIn w wr 5 lo hi S (.slice a m ca) (.slice c n cc))/\Hid (∀ (j:Nat) (t:Tree),j<i->kids[j]?=some t->zau d t=true)) (fun v _=>n-(intOf v).toNat)
 case atStart=>exact ⟨0,rfl,by omega,HA0,fun j t h=>by omega⟩
 case round =>
  obtain ⟨i,rfl,hi',HA,HALL⟩:=hrel
  obtain ⟨a0,a1,a2,a3,a4,a5⟩:=HA.out.arg.cells
  by_cases hlt:i<n
  ·have hk1:RowAny w (.slice c n cc) n (vs.flatMap XV.cells):=by have:=HK.out.1;rwa [<- HNN.out] at this
   obtain ⟨g,off,rfl,g1,g3,g4⟩:=hk1.at (by omega)
   clear hk1
   obtain ⟨Y,hY⟩:∃ y,vs[i]?=some y:=⟨_,List.getElem?_eq_getElem (by rw [HK.out.2.1,<- HNN.out];exact hlt)⟩
   obtain ⟨t,ht⟩:∃ y,kids[i]?=some y:=⟨_,List.getElem?_eq_getElem (by rw [<- HNN.out];exact hlt)⟩
   have CX:∀ (j:Nat) (u:Value),j<6->Y.cells[j]?=some u->wr.cell? ⟨g,off+(i*6+j),none⟩=some u:=fun j u hj hu =>
    (HA.out.below.cell (p:=⟨g,off+(i*6+j),none⟩) g3).trans (g4 _ u ((zc9 vs i j Y hY hj).trans hu))
   have hYt:=(HK.out.2.2 i Y t hY ht).under HA.out.below
   have HTI:=hh9 ht
   have HCALL:=hh9 (fun e (he:d=e+1)=>HIH.out e he wr Y t (q-1) (by have:=HQ.out;omega) hYt)
   obtain ⟨k',s',nv',lo',hi'',kv'⟩:=Y
   have e0:=CX 0 _ (by omega) rfl
   have e1:=CX 1 _ (by omega) rfl
   have e2:=CX 2 _ (by omega) rfl
   have e3:=CX 3 _ (by omega) rfl
   have e4:=CX 4 _ (by omega) rfl
   have e5:=CX 5 _ (by omega) rfl
   rw [<- Nat.add_assoc] at e0 e1 e2 e3 e4 e5
   rw [Nat.add_zero] at e0
   clear CX hY ht hYt g4
   by_cases hq1:q<1
   ·have HV:=hh9 (show Bv=false by
     rw [HBV.out]
     refine HNOT0.out i t HTI.out ?_
     have:d=0:=by have:=HQ.out;omega
     rw [this];rfl)
    have HB:=hh9 HA.out.below
    go_wp2_with fail
    go_ret
    exact ⟨by rw [HV.out];exact rfl,HB.out⟩
   ·obtain ⟨e,he⟩:∃ e,d=e+1:=⟨d-1,by have:=HQ.out;omega⟩
    have HC:=hh9 (HCALL.out e he)
    have heq:zau d t=zax e t:=by rw [he];rfl
    rw [<- heq] at HC
    clear he heq
    cases hf:zau d t
    ·have HV:=hh9 (show Bv=false by rw [HBV.out];exact HNOT0.out i t HTI.out hf)
     rw [hf] at HC
     clear hf
     go_wp2_with fail
     refine HC.out.mono ?_
     rintro e w' ⟨rfl,hb'⟩
     have HB2:=hh9 (za0 HA.out.below hb')
     clear hb'
     go_wp2_with fail
     go_ret
     exact ⟨by rw [HV.out];exact rfl,HB2.out⟩
    ·have HNX:Hid (∀ (j:Nat) (u:Tree),j<i+1->kids[j]?=some u->zau d u=true):=fun j u hj hu=>by
      by_cases g:j=i
      ·subst g
       rw [HTI.out] at hu
       rw [<- Option.some.inj hu]
       exact hf
      ·exact HALL.out j u (by omega) hu
     rw [hf] at HC
     clear hf
     go_wp2_with fail
     refine HC.out.mono ?_
     rintro e w' ⟨rfl,hb'⟩
     have HA2:=hh9 (HA.out.under hb')
     clear hb' e0 e1 e2 e3 e4 e5 a0 a1 a2 a3 a4 a5
     go_wp2_with fail
     go_roundw
     case rel=>exact ⟨i+1,by go_num,by omega,HA2,HNX⟩
     case measure=>simp [intOf];omega
  ·have HY:Hid (kids.all (zau d)=true):=zde (n:=n) (by rw [HNN.out];exact Nat.le_refl _) (fun j t h hc=>HALL.out j t (by omega) hc)
   have HW:=hh9 (show Bv=(zcj 5 x ns lo hi n&&othB 5 x ns lo hi n) by rw [HBV.out,HY0.out HY.out,HNN.out])
   by_cases hm0:m=0
   ·subst hm0
    have HNS:Hid (ns.isEmpty=true):=by unfold Hid;rw [List.isEmpty_iff];exact List.length_eq_zero_iff.1 HMM.out.symm
    by_cases hlo0:lo=0
    ·subst hlo0
     by_cases hhi0:hi=0
     ·subst hhi0
      by_cases hn0:n=0
      ·subst hn0
       cases hc:x.all foB
       all_goals
        have HCC:=hh9 (HFO.out wr)
        rw [hc] at HCC
        have HV:=hh9 (show Bv=x.all foB by rw [HW.out];unfold zcj othB;rw [if_neg (by decide),if_neg (by decide),if_neg (by decide),if_pos rfl];simp [HNS.out])
        rw [hc] at HV
        clear hc
        go_wp2_with fail
        refine (HCC.out).mono ?_
        rintro e w2 ⟨rfl,rfl⟩
        go_wp2_with fail
        go_ret
        exact ⟨by rw [HV.out];exact rfl,HA.out.below⟩
      ·have qn:((n:Int)==0)=false:=by simp;omega
       have qn1:decide ((n:Int)=0)=false:=decide_eq_false (by omega)
       have qn2:decide (n=0)=false:=decide_eq_false hn0
       have HV:=hh9 (show Bv=false by rw [HW.out];unfold zcj othB;rw [if_neg (by decide),if_neg (by decide),if_neg (by decide),if_pos rfl];simp [HNS.out,hn0])
       go_wp2_with fail
       go_ret
       exact ⟨by rw [HV.out];exact rfl,HA.out.below⟩
     ·have qhi:(hi==0)=false:=by simp;omega
      have qhi1:(hi != 0)=true:=by simp;omega
      have HV:=hh9 (show Bv=false by rw [HW.out];simp [othB,hhi0])
      clear hhi0
      go_wp2_with fail
      go_ret
      exact ⟨by rw [HV.out];exact rfl,HA.out.below⟩
    ·have qlo:(lo==0)=false:=by simp;omega
     have qlo1:(lo != 0)=true:=by simp;omega
     have HV:=hh9 (show Bv=false by rw [HW.out];simp [othB,hlo0])
     clear hlo0
     go_wp2_with fail
     go_ret
     exact ⟨by rw [HV.out];exact rfl,HA.out.below⟩
   ·have qm:decide ((0:Int)<(m:Int))=true:=decide_eq_true (by omega)
    have qm1:decide (0<m)=true:=decide_eq_true (by omega)
    have HNS:Hid (ns.isEmpty=false):=by
     cases e:ns with
     | nil=>have:=HMM.out;rw [e] at this;exact absurd this hm0
     | cons _ _=>rfl
    have HV:=hh9 (show Bv=false by rw [HW.out];simp [othB,HNS.out])
    go_wp2_with fail
    go_ret
    exact ⟨by rw [HV.out];exact rfl,HA.out.below⟩
theorem qct {d:Nat} (hd:d<=50) (ih:∀ e,d=e+1->zdl e) {x ns:List Int} {lo hi:Int} {kids:List Tree} {w:World} {a c:Option Addr} {ca cc:Nat} {vs:List XV} {q:Int} (hq:q=(d:Int))
  (h0:∀ c∈x,0<=c/\c<=255) (hl:x.length<=9223372036854775807) (h1:RowAny w (.slice a ns.length ca) ns.length (zat ns)) (h2:ze6 w (.slice c kids.length cc) vs kids) :
  Calls Tryz.prog 50 #[.agg #[.int .i64 6,.string (za3 x),.slice a ns.length ca,.int .i64 lo,.int .i64 hi,.slice c kids.length cc],.int .i64 q] w (zam (zax d (.mk 6 x ns lo hi kids)) w):=by
 have HY0:=hh9 (fun (h:kids.all (zau d)=true)=>zcw (d:=d) (k:=6) (x:=x) (ns:=ns) (lo:=lo) (hi:=hi) h)
 have HNOT0:=hh9 (fun (i:Nat) (t:Tree) (h:kids[i]?=some t) (hf:zau d t=false)=>zdb (d:=d) (k:=6) (x:=x) (ns:=ns) (lo:=lo) (hi:=hi) h hf)
 obtain ⟨Bv,hBv⟩:∃ Bv,Bv=zax d (.mk 6 x ns lo hi kids):=⟨_,rfl⟩
 rw [<- hBv]
 have HBV:=hh9 hBv
 have hm:=h1.slice
 have hnk:=h2.1.slice
 obtain ⟨_,_,_,hm⟩:=hm
 obtain ⟨_,_,_,hnk⟩:=hnk
 obtain ⟨n,hnn⟩:∃ n,n=kids.length:=⟨_,rfl⟩
 obtain ⟨m,hmm⟩:∃ m,m=ns.length:=⟨_,rfl⟩
 obtain ⟨S,hS⟩:∃ S,S=za3 x:=⟨_,rfl⟩
 have HSE:Hid (x.isEmpty=true->S.toList.isEmpty=true):=fun h=>by rw [hS];exact zc4 h
 have HSN:Hid (x.isEmpty=false->S.toList.isEmpty=false):=fun h=>by rw [hS];exact zc5 h
 have HNM:=hh9 (fun W=>zdd (x:=x) W h0 hl)
 have HFO:=hh9 (fun W=>zdw (x:=x) W h0 hl)
 have HNU:=hh9 (fun W lo hi (h1':lo<=20000) (h2':hi<=20000) (hb:Below w.heap.size w W)=>zdx (x:=ns) W lo hi h1' h2' (h1.below hb))
 rw [<- hS] at HNM HFO ⊢
 rw [<- hnn] at h2 hnk ⊢
 rw [<- hmm] at h1 hm HNU ⊢
 have HNN:=hh9 hnn
 have HMM:=hh9 hmm
 have HK:=hh9 h2
 have HR1:=hh9 h1
 have HIH:=hh9 ih
 have HQ:=hh9 hq
 have q0:0<=q:=by omega
 have q1:q<=50:=by omega
 have hA:=ArgIn.new w 6 lo hi S (.slice a m ca) (.slice c n cc)
 unfold xobj at hA
 have HA0:=hh9 hA
 clear hBv hnn hmm hS h0 hl h1 h2 ih hq hd hA
 go_enter Tryz.func50,Tryz.ntmps50
 go_wp2_with fail
 go_loopw [5] (fun v wr=>∃ i:Nat,v=.int .i64 i/\i<=n/\Hid (ArgIn w wr 6 lo hi S (.slice a m ca) (.slice c n cc))/\Hid (∀ (j:Nat) (t:Tree),j<i->kids[j]?=some t->zau d t=true)) (fun v _=>n-(intOf v).toNat)
 case atStart=>exact ⟨0,rfl,by omega,HA0,fun j t h=>by omega⟩
 case round =>
  obtain ⟨i,rfl,hi',HA,HALL⟩:=hrel
  obtain ⟨a0,a1,a2,a3,a4,a5⟩:=HA.out.arg.cells
  by_cases hlt:i<n
  ·have hk1:RowAny w (.slice c n cc) n (vs.flatMap XV.cells):=by have:=HK.out.1;rwa [<- HNN.out] at this
   obtain ⟨g,off,rfl,g1,g3,g4⟩:=hk1.at (by omega)
   clear hk1
   obtain ⟨Y,hY⟩:∃ y,vs[i]?=some y:=⟨_,List.getElem?_eq_getElem (by rw [HK.out.2.1,<- HNN.out];exact hlt)⟩
   obtain ⟨t,ht⟩:∃ y,kids[i]?=some y:=⟨_,List.getElem?_eq_getElem (by rw [<- HNN.out];exact hlt)⟩
   have CX:∀ (j:Nat) (u:Value),j<6->Y.cells[j]?=some u->wr.cell? ⟨g,off+(i*6+j),none⟩=some u:=fun j u hj hu =>
    (HA.out.below.cell (p:=⟨g,off+(i*6+j),none⟩) g3).trans (g4 _ u ((zc9 vs i j Y hY hj).trans hu))
   have hYt:=(HK.out.2.2 i Y t hY ht).under HA.out.below
   have HTI:=hh9 ht
   have HCALL:=hh9 (fun e (he:d=e+1)=>HIH.out e he wr Y t (q-1) (by have:=HQ.out;omega) hYt)
   obtain ⟨k',s',nv',lo',hi'',kv'⟩:=Y
   have e0:=CX 0 _ (by omega) rfl
   have e1:=CX 1 _ (by omega) rfl
   have e2:=CX 2 _ (by omega) rfl
   have e3:=CX 3 _ (by omega) rfl
   have e4:=CX 4 _ (by omega) rfl
   have e5:=CX 5 _ (by omega) rfl
   rw [<- Nat.add_assoc] at e0 e1 e2 e3 e4 e5
   rw [Nat.add_zero] at e0
   clear CX hY ht hYt g4
   by_cases hq1:q<1
   ·have HV:=hh9 (show Bv=false by
     rw [HBV.out]
     refine HNOT0.out i t HTI.out ?_
     have:d=0:=by have:=HQ.out;omega
     rw [this];rfl)
    have HB:=hh9 HA.out.below
    go_wp2_with fail
    go_ret
    exact ⟨by rw [HV.out];exact rfl,HB.out⟩
   ·obtain ⟨e,he⟩:∃ e,d=e+1:=⟨d-1,by have:=HQ.out;omega⟩
    have HC:=hh9 (HCALL.out e he)
    have heq:zau d t=zax e t:=by rw [he];rfl
    rw [<- heq] at HC
    clear he heq
    cases hf:zau d t
    ·have HV:=hh9 (show Bv=false by rw [HBV.out];exact HNOT0.out i t HTI.out hf)
     rw [hf] at HC
     clear hf
     go_wp2_with fail
     refine HC.out.mono ?_
     rintro e w' ⟨rfl,hb'⟩
     have HB2:=hh9 (za0 HA.out.below hb')
     clear hb'
     go_wp2_with fail
     go_ret
     exact ⟨by rw [HV.out];exact rfl,HB2.out⟩
    ·have HNX:Hid (∀ (j:Nat) (u:Tree),j<i+1->kids[j]?=some u->zau d u=true):=fun j u hj hu=>by
      by_cases g:j=i
      ·subst g
       rw [HTI.out] at hu
       rw [<- Option.some.inj hu]
       exact hf
      ·exact HALL.out j u (by omega) hu
     rw [hf] at HC
     clear hf
     go_wp2_with fail
     refine HC.out.mono ?_
     rintro e w' ⟨rfl,hb'⟩
     have HA2:=hh9 (HA.out.under hb')
     clear hb' e0 e1 e2 e3 e4 e5 a0 a1 a2 a3 a4 a5
     go_wp2_with fail
     go_roundw
     case rel=>exact ⟨i+1,by go_num,by omega,HA2,HNX⟩
     case measure=>simp [intOf];omega
  ·have HY:Hid (kids.all (zau d)=true):=zde (n:=n) (by rw [HNN.out];exact Nat.le_refl _) (fun j t h hc=>HALL.out j t (by omega) hc)
   have HW:=hh9 (show Bv=(zcj 6 x ns lo hi n&&othB 6 x ns lo hi n) by rw [HBV.out,HY0.out HY.out,HNN.out])
   cases hx:x.isEmpty
   ·have qx:=HSN.out hx
    have HV:=hh9 (show Bv=false by rw [HW.out];simp [othB,hx])
    clear hx
    go_wp2_with fail
    go_ret
    exact ⟨by rw [HV.out];exact rfl,HA.out.below⟩
   ·have qx:=HSE.out hx
    have qx2:S.toList=[]:=List.isEmpty_iff.1 qx
    have HX:=hh9 hx
    clear hx
    by_cases hlo0:lo=0
    ·subst hlo0
     by_cases hhi0:hi=0
     ·subst hhi0
      by_cases hn0:n=0
      ·subst hn0
       cases hc:(ns.all numB&&(decide (1<=m)&&decide (m<=10000)))
       all_goals
        have HCC:=hh9 (HNU.out wr 1 10000 (by omega) (by omega) HA.out.below)
        rw [hc] at HCC
        have HV:=hh9 (show Bv=(ns.all numB&&(decide (1<=m)&&decide (m<=10000))) by rw [HW.out];unfold zcj othB;rw [if_neg (by decide),if_neg (by decide),if_neg (by decide),if_neg (by decide),if_pos rfl];rw [<- HMM.out,HX.out];cases ns.all numB<;>cases decide (1<=m)<;>cases decide (m<=10000)<;>rfl)
        rw [hc] at HV
        clear hc
        go_wp2_with fail
        refine (HCC.out).mono ?_
        rintro e w2 ⟨rfl,rfl⟩
        go_wp2_with fail
        go_ret
        exact ⟨by rw [HV.out];exact rfl,HA.out.below⟩
      ·have qn:((n:Int)==0)=false:=by simp;omega
       have qn1:decide ((n:Int)=0)=false:=decide_eq_false (by omega)
       have qn2:decide (n=0)=false:=decide_eq_false hn0
       have HV:=hh9 (show Bv=false by rw [HW.out];unfold zcj othB;rw [if_neg (by decide),if_neg (by decide),if_neg (by decide),if_neg (by decide),if_pos rfl];simp [HX.out,hn0])
       go_wp2_with fail
       go_ret
       exact ⟨by rw [HV.out];exact rfl,HA.out.below⟩
     ·have qhi:(hi==0)=false:=by simp;omega
      have qhi1:(hi != 0)=true:=by simp;omega
      have HV:=hh9 (show Bv=false by rw [HW.out];simp [othB,hhi0])
      clear hhi0
      go_wp2_with fail
      go_ret
      exact ⟨by rw [HV.out];exact rfl,HA.out.below⟩
    ·have qlo:(lo==0)=false:=by simp;omega
     have qlo1:(lo != 0)=true:=by simp;omega
     have HV:=hh9 (show Bv=false by rw [HW.out];simp [othB,hlo0])
     clear hlo0
     go_wp2_with fail
     go_ret
     exact ⟨by rw [HV.out];exact rfl,HA.out.below⟩
theorem qcu {d:Nat} (hd:d<=50) (ih:∀ e,d=e+1->zdl e) {x ns:List Int} {lo hi:Int} {kids:List Tree} {w:World} {a c:Option Addr} {ca cc:Nat} {vs:List XV} {q:Int} (hq:q=(d:Int))
  (h0:∀ c∈x,0<=c/\c<=255) (hl:x.length<=9223372036854775807) (h1:RowAny w (.slice a ns.length ca) ns.length (zat ns)) (h2:ze6 w (.slice c kids.length cc) vs kids) :
  Calls Tryz.prog 50 #[.agg #[.int .i64 7,.string (za3 x),.slice a ns.length ca,.int .i64 lo,.int .i64 hi,.slice c kids.length cc],.int .i64 q] w (zam (zax d (.mk 7 x ns lo hi kids)) w):=by
 have HY0:=hh9 (fun (h:kids.all (zau d)=true)=>zcw (d:=d) (k:=7) (x:=x) (ns:=ns) (lo:=lo) (hi:=hi) h)
 have HNOT0:=hh9 (fun (i:Nat) (t:Tree) (h:kids[i]?=some t) (hf:zau d t=false)=>zdb (d:=d) (k:=7) (x:=x) (ns:=ns) (lo:=lo) (hi:=hi) h hf)
 obtain ⟨Bv,hBv⟩:∃ Bv,Bv=zax d (.mk 7 x ns lo hi kids):=⟨_,rfl⟩
 rw [<- hBv]
 have HBV:=hh9 hBv
 have hm:=h1.slice
 have hnk:=h2.1.slice
 obtain ⟨_,_,_,hm⟩:=hm
 obtain ⟨_,_,_,hnk⟩:=hnk
 obtain ⟨n,hnn⟩:∃ n,n=kids.length:=⟨_,rfl⟩
 obtain ⟨m,hmm⟩:∃ m,m=ns.length:=⟨_,rfl⟩
 obtain ⟨S,hS⟩:∃ S,S=za3 x:=⟨_,rfl⟩
 have HSE:Hid (x.isEmpty=true->S.toList.isEmpty=true):=fun h=>by rw [hS];exact zc4 h
 have HSN:Hid (x.isEmpty=false->S.toList.isEmpty=false):=fun h=>by rw [hS];exact zc5 h
 have HNM:=hh9 (fun W=>zdd (x:=x) W h0 hl)
 have HFO:=hh9 (fun W=>zdw (x:=x) W h0 hl)
 have HNU:=hh9 (fun W lo hi (h1':lo<=20000) (h2':hi<=20000) (hb:Below w.heap.size w W)=>zdx (x:=ns) W lo hi h1' h2' (h1.below hb))
 rw [<- hS] at HNM HFO ⊢
 rw [<- hnn] at h2 hnk ⊢
 rw [<- hmm] at h1 hm HNU ⊢
 have HNN:=hh9 hnn
 have HMM:=hh9 hmm
 have HK:=hh9 h2
 have HR1:=hh9 h1
 have HIH:=hh9 ih
 have HQ:=hh9 hq
 have q0:0<=q:=by omega
 have q1:q<=50:=by omega
 have hA:=ArgIn.new w 7 lo hi S (.slice a m ca) (.slice c n cc)
 unfold xobj at hA
 have HA0:=hh9 hA
 clear hBv hnn hmm hS h0 hl h1 h2 ih hq hd hA
 go_enter Tryz.func50,Tryz.ntmps50
 go_wp2_with fail
 go_loopw [5] (fun v wr=>∃ i:Nat,v=.int .i64 i/\i<=n/\Hid (ArgIn w wr 7 lo hi S (.slice a m ca) (.slice c n cc))/\Hid (∀ (j:Nat) (t:Tree),j<i->kids[j]?=some t->zau d t=true)) (fun v _=>n-(intOf v).toNat)
 case atStart=>exact ⟨0,rfl,by omega,HA0,fun j t h=>by omega⟩
 case round =>
  obtain ⟨i,rfl,hi',HA,HALL⟩:=hrel
  obtain ⟨a0,a1,a2,a3,a4,a5⟩:=HA.out.arg.cells
  by_cases hlt:i<n
  ·have hk1:RowAny w (.slice c n cc) n (vs.flatMap XV.cells):=by have:=HK.out.1;rwa [<- HNN.out] at this
   obtain ⟨g,off,rfl,g1,g3,g4⟩:=hk1.at (by omega)
   clear hk1
   obtain ⟨Y,hY⟩:∃ y,vs[i]?=some y:=⟨_,List.getElem?_eq_getElem (by rw [HK.out.2.1,<- HNN.out];exact hlt)⟩
   obtain ⟨t,ht⟩:∃ y,kids[i]?=some y:=⟨_,List.getElem?_eq_getElem (by rw [<- HNN.out];exact hlt)⟩
   have CX:∀ (j:Nat) (u:Value),j<6->Y.cells[j]?=some u->wr.cell? ⟨g,off+(i*6+j),none⟩=some u:=fun j u hj hu =>
    (HA.out.below.cell (p:=⟨g,off+(i*6+j),none⟩) g3).trans (g4 _ u ((zc9 vs i j Y hY hj).trans hu))
   have hYt:=(HK.out.2.2 i Y t hY ht).under HA.out.below
   have HTI:=hh9 ht
   have HCALL:=hh9 (fun e (he:d=e+1)=>HIH.out e he wr Y t (q-1) (by have:=HQ.out;omega) hYt)
   obtain ⟨k',s',nv',lo',hi'',kv'⟩:=Y
   have e0:=CX 0 _ (by omega) rfl
   have e1:=CX 1 _ (by omega) rfl
   have e2:=CX 2 _ (by omega) rfl
   have e3:=CX 3 _ (by omega) rfl
   have e4:=CX 4 _ (by omega) rfl
   have e5:=CX 5 _ (by omega) rfl
   rw [<- Nat.add_assoc] at e0 e1 e2 e3 e4 e5
   rw [Nat.add_zero] at e0
   clear CX hY ht hYt g4
   by_cases hq1:q<1
   ·have HV:=hh9 (show Bv=false by
     rw [HBV.out]
     refine HNOT0.out i t HTI.out ?_
     have:d=0:=by have:=HQ.out;omega
     rw [this];rfl)
    have HB:=hh9 HA.out.below
    go_wp2_with fail
    go_ret
    exact ⟨by rw [HV.out];exact rfl,HB.out⟩
   ·obtain ⟨e,he⟩:∃ e,d=e+1:=⟨d-1,by have:=HQ.out;omega⟩
    have HC:=hh9 (HCALL.out e he)
    have heq:zau d t=zax e t:=by rw [he];rfl
    rw [<- heq] at HC
    clear he heq
    cases hf:zau d t
    ·have HV:=hh9 (show Bv=false by rw [HBV.out];exact HNOT0.out i t HTI.out hf)
     rw [hf] at HC
     clear hf
     go_wp2_with fail
     refine HC.out.mono ?_
     rintro e w' ⟨rfl,hb'⟩
     have HB2:=hh9 (za0 HA.out.below hb')
     clear hb'
     go_wp2_with fail
     go_ret
     exact ⟨by rw [HV.out];exact rfl,HB2.out⟩
    ·have HNX:Hid (∀ (j:Nat) (u:Tree),j<i+1->kids[j]?=some u->zau d u=true):=fun j u hj hu=>by
      by_cases g:j=i
      ·subst g
       rw [HTI.out] at hu
       rw [<- Option.some.inj hu]
       exact hf
      ·exact HALL.out j u (by omega) hu
     rw [hf] at HC
     clear hf
     go_wp2_with fail
     refine HC.out.mono ?_
     rintro e w' ⟨rfl,hb'⟩
     have HA2:=hh9 (HA.out.under hb')
     clear hb' e0 e1 e2 e3 e4 e5 a0 a1 a2 a3 a4 a5
     go_wp2_with fail
     go_roundw
     case rel=>exact ⟨i+1,by go_num,by omega,HA2,HNX⟩
     case measure=>simp [intOf];omega
  ·have HY:Hid (kids.all (zau d)=true):=zde (n:=n) (by rw [HNN.out];exact Nat.le_refl _) (fun j t h hc=>HALL.out j t (by omega) hc)
   have HW:=hh9 (show Bv=(zcj 7 x ns lo hi n&&othB 7 x ns lo hi n) by rw [HBV.out,HY0.out HY.out,HNN.out])
   cases hx:x.isEmpty
   ·have qx:=HSN.out hx
    have HV:=hh9 (show Bv=false by rw [HW.out];simp [othB,hx])
    clear hx
    go_wp2_with fail
    go_ret
    exact ⟨by rw [HV.out];exact rfl,HA.out.below⟩
   ·have qx:=HSE.out hx
    have qx2:S.toList=[]:=List.isEmpty_iff.1 qx
    have HX:=hh9 hx
    clear hx
    by_cases hlo0:lo=0
    ·subst hlo0
     by_cases hhi0:hi=0
     ·subst hhi0
      by_cases hn0:n=0
      ·subst hn0
       by_cases hm2:m=2
       ·subst hm2
        obtain ⟨g',off',rfl,f1,f3,f4⟩:=HR1.out.at (by omega)
        match ns,HMM.out with
        | [u,v],_ =>
        have c0:=(HA.out.below.cell (p:=⟨g',off',none⟩) f3).trans (f4 0 _ rfl)
        have c1:=(HA.out.below.cell (p:=⟨g',off'+1,none⟩) f3).trans (f4 1 _ rfl)
        clear f4
        cases hc:[u,v].all numB
        ·have HV:=hh9 (show Bv=false by rw [HW.out];unfold zcj othB;rw [if_neg (by decide),if_neg (by decide),if_neg (by decide),if_neg (by decide),if_neg (by decide),if_pos rfl];rw [hc];simp)
         have HCC:Hid (∀ W,Below w.heap.size w W->Calls Tryz.prog 74 #[.slice (some ⟨g',off',none⟩) 2 ca,.int .i64 2,.int .i64 2] W (fun e w'=>e=.returned (.bool false)/\w'=W)):=fun W hW=>by
          have:=HNU.out W 2 2 (by omega) (by omega) hW
          rw [hc] at this
          exact this.mono fun _ _ ⟨p1,p2⟩=>⟨p1,p2.symm⟩
         clear hc
         go_wp2_with fail
         go_quiet ((go_at_call 74;exact Calls.quiet_of_same (HCC.out _ (za7 HA.out.below _))))
         go_wp2_with fail
         go_ret
         exact ⟨by rw [HV.out];exact rfl,za7 HA.out.below _⟩
        ·have HCC:Hid (∀ W,Below w.heap.size w W->Calls Tryz.prog 74 #[.slice (some ⟨g',off',none⟩) 2 ca,.int .i64 2,.int .i64 2] W (fun e w'=>e=.returned (.bool true)/\w'=W)):=fun W hW=>by
          have:=HNU.out W 2 2 (by omega) (by omega) hW
          rw [hc] at this
          exact this.mono fun _ _ ⟨p1,p2⟩=>⟨p1,p2.symm⟩
         have HC2:=hh9 hc
         clear hc
         by_cases huv:u<=v
         ·have q9:decide (u<=v)=true:=decide_eq_true huv
          have HV:=hh9 (show Bv=true by rw [HW.out];unfold zcj othB;rw [if_neg (by decide),if_neg (by decide),if_neg (by decide),if_neg (by decide),if_neg (by decide),if_pos rfl];rw [HC2.out];simp [HX.out,huv])
          go_wp2_with fail
          go_quiet ((go_at_call 74;exact Calls.quiet_of_same (HCC.out _ (za7 HA.out.below _))))
          go_wp2_with fail
          go_ret
          exact ⟨by rw [HV.out];exact rfl,za7 HA.out.below _⟩
         ·have q9:decide (u<=v)=false:=decide_eq_false huv
          have HV:=hh9 (show Bv=false by rw [HW.out];unfold zcj othB;rw [if_neg (by decide),if_neg (by decide),if_neg (by decide),if_neg (by decide),if_neg (by decide),if_pos rfl];rw [HC2.out];simp [huv])
          go_wp2_with fail
          go_quiet ((go_at_call 74;exact Calls.quiet_of_same (HCC.out _ (za7 HA.out.below _))))
          go_wp2_with fail
          go_ret
          exact ⟨by rw [HV.out];exact rfl,za7 HA.out.below _⟩
       ·have HV:=hh9 (show Bv=false by rw [HW.out];unfold zcj othB;rw [if_neg (by decide),if_neg (by decide),if_neg (by decide),if_neg (by decide),if_neg (by decide),if_pos rfl];rw [<- HMM.out,decide_eq_false hm2];simp)
        have HCC:Hid (∀ W,Below w.heap.size w W->Calls Tryz.prog 74 #[.slice a m ca,.int .i64 2,.int .i64 2] W (fun e w'=>e=.returned (.bool false)/\w'=W)):=fun W hW=>by
         have:=HNU.out W 2 2 (by omega) (by omega) hW
         have e:(ns.all numB&&(decide (2<=m)&&decide (m<=2)))=false:=by
          by_cases g:2<=m
          ·have g2:¬ m<=2:=by omega
           simp [g,g2]
          ·simp [g]
         rw [e] at this
         exact this.mono fun _ _ ⟨p1,p2⟩=>⟨p1,p2.symm⟩
        go_wp2_with fail
        go_quiet ((go_at_call 74;exact Calls.quiet_of_same (HCC.out _ (za7 HA.out.below _))))
        go_wp2_with fail
        go_ret
        exact ⟨by rw [HV.out];exact rfl,za7 HA.out.below _⟩
      ·have qn:((n:Int)==0)=false:=by simp;omega
       have qn1:decide ((n:Int)=0)=false:=decide_eq_false (by omega)
       have qn2:decide (n=0)=false:=decide_eq_false hn0
       have HV:=hh9 (show Bv=false by rw [HW.out];unfold zcj othB;rw [if_neg (by decide),if_neg (by decide),if_neg (by decide),if_neg (by decide),if_neg (by decide),if_pos rfl];simp [HX.out,hn0])
       go_wp2_with fail
       go_quiet (fail)
       go_wp2_with fail
       go_ret
       exact ⟨by rw [HV.out];exact rfl,za7 HA.out.below _⟩
     ·have qhi:(hi==0)=false:=by simp;omega
      have qhi1:(hi != 0)=true:=by simp;omega
      have HV:=hh9 (show Bv=false by rw [HW.out];simp [othB,hhi0])
      clear hhi0
      go_wp2_with fail
      go_ret
      exact ⟨by rw [HV.out];exact rfl,HA.out.below⟩
    ·have qlo:(lo==0)=false:=by simp;omega
     have qlo1:(lo != 0)=true:=by simp;omega
     have HV:=hh9 (show Bv=false by rw [HW.out];simp [othB,hlo0])
     clear hlo0
     go_wp2_with fail
     go_ret
     exact ⟨by rw [HV.out];exact rfl,HA.out.below⟩
theorem qcv {d:Nat} (hd:d<=50) (ih:∀ e,d=e+1->zdl e) {k:Int} (hk:k≠1/\k≠2/\k≠3/\k≠4/\k≠5/\k≠6/\k≠7) {x ns:List Int} {lo hi:Int} {kids:List Tree} {w:World} {a c:Option Addr} {ca cc:Nat} {vs:List XV} {q:Int} (hq:q=(d:Int))
  (h0:∀ c∈x,0<=c/\c<=255) (hl:x.length<=9223372036854775807) (h1:RowAny w (.slice a ns.length ca) ns.length (zat ns)) (h2:ze6 w (.slice c kids.length cc) vs kids) :
  Calls Tryz.prog 50 #[.agg #[.int .i64 k,.string (za3 x),.slice a ns.length ca,.int .i64 lo,.int .i64 hi,.slice c kids.length cc],.int .i64 q] w (zam (zax d (.mk k x ns lo hi kids)) w):=by
 have HY0:=hh9 (fun (h:kids.all (zau d)=true)=>zcw (d:=d) (k:=k) (x:=x) (ns:=ns) (lo:=lo) (hi:=hi) h)
 have HNOT0:=hh9 (fun (i:Nat) (t:Tree) (h:kids[i]?=some t) (hf:zau d t=false)=>zdb (d:=d) (k:=k) (x:=x) (ns:=ns) (lo:=lo) (hi:=hi) h hf)
 obtain ⟨Bv,hBv⟩:∃ Bv,Bv=zax d (.mk k x ns lo hi kids):=⟨_,rfl⟩
 rw [<- hBv]
 have HBV:=hh9 hBv
 have hm:=h1.slice
 have hnk:=h2.1.slice
 obtain ⟨_,_,_,hm⟩:=hm
 obtain ⟨_,_,_,hnk⟩:=hnk
 obtain ⟨n,hnn⟩:∃ n,n=kids.length:=⟨_,rfl⟩
 obtain ⟨m,hmm⟩:∃ m,m=ns.length:=⟨_,rfl⟩
 obtain ⟨S,hS⟩:∃ S,S=za3 x:=⟨_,rfl⟩
 have HSE:Hid (x.isEmpty=true->S.toList.isEmpty=true):=fun h=>by rw [hS];exact zc4 h
 have HSN:Hid (x.isEmpty=false->S.toList.isEmpty=false):=fun h=>by rw [hS];exact zc5 h
 have HNM:=hh9 (fun W=>zdd (x:=x) W h0 hl)
 have HFO:=hh9 (fun W=>zdw (x:=x) W h0 hl)
 have HNU:=hh9 (fun W lo hi (h1':lo<=20000) (h2':hi<=20000) (hb:Below w.heap.size w W)=>zdx (x:=ns) W lo hi h1' h2' (h1.below hb))
 rw [<- hS] at HNM HFO ⊢
 rw [<- hnn] at h2 hnk ⊢
 rw [<- hmm] at h1 hm HNU ⊢
 have HNN:=hh9 hnn
 have HMM:=hh9 hmm
 have HK:=hh9 h2
 have HR1:=hh9 h1
 have HIH:=hh9 ih
 have HQ:=hh9 hq
 have q0:0<=q:=by omega
 have q1:q<=50:=by omega
 have hA:=ArgIn.new w k lo hi S (.slice a m ca) (.slice c n cc)
 unfold xobj at hA
 have HA0:=hh9 hA
 have z1:(k==1)=false:=by simp;omega
 have z2:(k==2)=false:=by simp;omega
 have z3:(k==3)=false:=by simp;omega
 have z4:(k==4)=false:=by simp;omega
 have z5:(k==5)=false:=by simp;omega
 have z6:(k==6)=false:=by simp;omega
 have z7:(k==7)=false:=by simp;omega
 have y3:(k != 3)=true:=by simp;omega
 have HZ:Hid (∀ x ns lo hi n,zcj k x ns lo hi n=false):=fun x ns lo hi n=>by unfold zcj;rw [if_neg (by omega),if_neg (by omega),if_neg (by omega),if_neg (by omega),if_neg (by omega),if_neg (by omega)]
 clear hk
 clear hBv hnn hmm hS h0 hl h1 h2 ih hq hd hA
 go_enter Tryz.func50,Tryz.ntmps50
 go_wp2_with fail
 go_loopw [5] (fun v wr=>∃ i:Nat,v=.int .i64 i/\i<=n/\Hid (ArgIn w wr k lo hi S (.slice a m ca) (.slice c n cc))/\Hid (∀ (j:Nat) (t:Tree),j<i->kids[j]?=some t->zau d t=true)) (fun v _=>n-(intOf v).toNat)
 case atStart=>exact ⟨0,rfl,by omega,HA0,fun j t h=>by omega⟩
 case round =>
  obtain ⟨i,rfl,hi',HA,HALL⟩:=hrel
  obtain ⟨a0,a1,a2,a3,a4,a5⟩:=HA.out.arg.cells
  by_cases hlt:i<n
  ·have hk1:RowAny w (.slice c n cc) n (vs.flatMap XV.cells):=by have:=HK.out.1;rwa [<- HNN.out] at this
   obtain ⟨g,off,rfl,g1,g3,g4⟩:=hk1.at (by omega)
   clear hk1
   obtain ⟨Y,hY⟩:∃ y,vs[i]?=some y:=⟨_,List.getElem?_eq_getElem (by rw [HK.out.2.1,<- HNN.out];exact hlt)⟩
   obtain ⟨t,ht⟩:∃ y,kids[i]?=some y:=⟨_,List.getElem?_eq_getElem (by rw [<- HNN.out];exact hlt)⟩
   have CX:∀ (j:Nat) (u:Value),j<6->Y.cells[j]?=some u->wr.cell? ⟨g,off+(i*6+j),none⟩=some u:=fun j u hj hu =>
    (HA.out.below.cell (p:=⟨g,off+(i*6+j),none⟩) g3).trans (g4 _ u ((zc9 vs i j Y hY hj).trans hu))
   have hYt:=(HK.out.2.2 i Y t hY ht).under HA.out.below
   have HTI:=hh9 ht
   have HCALL:=hh9 (fun e (he:d=e+1)=>HIH.out e he wr Y t (q-1) (by have:=HQ.out;omega) hYt)
   obtain ⟨k',s',nv',lo',hi'',kv'⟩:=Y
   have e0:=CX 0 _ (by omega) rfl
   have e1:=CX 1 _ (by omega) rfl
   have e2:=CX 2 _ (by omega) rfl
   have e3:=CX 3 _ (by omega) rfl
   have e4:=CX 4 _ (by omega) rfl
   have e5:=CX 5 _ (by omega) rfl
   rw [<- Nat.add_assoc] at e0 e1 e2 e3 e4 e5
   rw [Nat.add_zero] at e0
   clear CX hY ht hYt g4
   by_cases hq1:q<1
   ·have HV:=hh9 (show Bv=false by
     rw [HBV.out]
     refine HNOT0.out i t HTI.out ?_
     have:d=0:=by have:=HQ.out;omega
     rw [this];rfl)
    have HB:=hh9 HA.out.below
    go_wp2_with fail
    go_ret
    exact ⟨by rw [HV.out];exact rfl,HB.out⟩
   ·obtain ⟨e,he⟩:∃ e,d=e+1:=⟨d-1,by have:=HQ.out;omega⟩
    have HC:=hh9 (HCALL.out e he)
    have heq:zau d t=zax e t:=by rw [he];rfl
    rw [<- heq] at HC
    clear he heq
    cases hf:zau d t
    ·have HV:=hh9 (show Bv=false by rw [HBV.out];exact HNOT0.out i t HTI.out hf)
     rw [hf] at HC
     clear hf
     go_wp2_with fail
     refine HC.out.mono ?_
     rintro e w' ⟨rfl,hb'⟩
     have HB2:=hh9 (za0 HA.out.below hb')
     clear hb'
     go_wp2_with fail
     go_ret
     exact ⟨by rw [HV.out];exact rfl,HB2.out⟩
    ·have HNX:Hid (∀ (j:Nat) (u:Tree),j<i+1->kids[j]?=some u->zau d u=true):=fun j u hj hu=>by
      by_cases g:j=i
      ·subst g
       rw [HTI.out] at hu
       rw [<- Option.some.inj hu]
       exact hf
      ·exact HALL.out j u (by omega) hu
     rw [hf] at HC
     clear hf
     go_wp2_with fail
     refine HC.out.mono ?_
     rintro e w' ⟨rfl,hb'⟩
     have HA2:=hh9 (HA.out.under hb')
     clear hb' e0 e1 e2 e3 e4 e5 a0 a1 a2 a3 a4 a5
     go_wp2_with fail
     go_roundw
     case rel=>exact ⟨i+1,by go_num,by omega,HA2,HNX⟩
     case measure=>simp [intOf];omega
  ·have HY:Hid (kids.all (zau d)=true):=zde (n:=n) (by rw [HNN.out];exact Nat.le_refl _) (fun j t h hc=>HALL.out j t (by omega) hc)
   have HW:=hh9 (show Bv=(zcj k x ns lo hi n&&othB k x ns lo hi n) by rw [HBV.out,HY0.out HY.out,HNN.out])
   cases hx:x.isEmpty
   ·have qx:=HSN.out hx
    have HV:=hh9 (show Bv=false by rw [HW.out];rw [HZ.out,Bool.false_and])
    clear hx
    go_wp2_with fail
    go_ret
    exact ⟨by rw [HV.out];exact rfl,HA.out.below⟩
   ·have qx:=HSE.out hx
    have qx2:S.toList=[]:=List.isEmpty_iff.1 qx
    have HX:=hh9 hx
    clear hx
    by_cases hm0:m=0
    ·subst hm0
     have HNS:Hid (ns.isEmpty=true):=by unfold Hid;rw [List.isEmpty_iff];exact List.length_eq_zero_iff.1 HMM.out.symm
     by_cases hlo0:lo=0
     ·subst hlo0
      by_cases hhi0:hi=0
      ·subst hhi0
       have HV:=hh9 (show Bv=false by rw [HW.out];rw [HZ.out,Bool.false_and])
       go_wp2_with fail
       go_ret
       exact ⟨by rw [HV.out];exact rfl,HA.out.below⟩
      ·have qhi:(hi==0)=false:=by simp;omega
       have qhi1:(hi != 0)=true:=by simp;omega
       have HV:=hh9 (show Bv=false by rw [HW.out];rw [HZ.out,Bool.false_and])
       clear hhi0
       go_wp2_with fail
       go_ret
       exact ⟨by rw [HV.out];exact rfl,HA.out.below⟩
     ·have qlo:(lo==0)=false:=by simp;omega
      have qlo1:(lo != 0)=true:=by simp;omega
      have HV:=hh9 (show Bv=false by rw [HW.out];rw [HZ.out,Bool.false_and])
      clear hlo0
      go_wp2_with fail
      go_ret
      exact ⟨by rw [HV.out];exact rfl,HA.out.below⟩
    ·have qm:decide ((0:Int)<(m:Int))=true:=decide_eq_true (by omega)
     have qm1:decide (0<m)=true:=decide_eq_true (by omega)
     have HNS:Hid (ns.isEmpty=false):=by
      cases e:ns with
      | nil=>have:=HMM.out;rw [e] at this;exact absurd this hm0
      | cons _ _=>rfl
     have HV:=hh9 (show Bv=false by rw [HW.out];rw [HZ.out,Bool.false_and])
     go_wp2_with fail
     go_ret
     exact ⟨by rw [HV.out];exact rfl,HA.out.below⟩
theorem zky {d:Nat} (hd:d<=50) (ih:∀ e,d=e+1->zdl e):zdl d:=by
 intro w X t q hq h
 cases h with
 | @mk k lo hi nv kv x ns kids vs h0 hl h1 h2 h3 h4 =>
 obtain ⟨a,ca,rfl,_⟩:=h1.slice
 obtain ⟨c,cc,rfl,_⟩:=h2.slice
 have hK:ze6 w (.slice c kids.length cc) vs kids:=⟨h2,h3,h4⟩
 show Calls _ _ #[.agg #[.int .i64 k,.string (za3 x),.slice a ns.length ca,.int .i64 lo,.int .i64 hi,.slice c kids.length cc],.int .i64 q] w _
 by_cases k1:k=1
 ·subst k1;exact qcq hd ih hq h0 hl h1 hK
 by_cases k2:k=2
 ·subst k2;exact qcr hd ih hq h0 hl h1 hK
 by_cases k3:k=3
 ·subst k3;exact qe5 hd ih hq h0 hl h1 hK
 by_cases k4:k=4
 ·subst k4;exact qe6 hd ih hq h0 hl h1 hK
 by_cases k5:k=5
 ·subst k5;exact qcs hd ih hq h0 hl h1 hK
 by_cases k6:k=6
 ·subst k6;exact qct hd ih hq h0 hl h1 hK
 by_cases k7:k=7
 ·subst k7;exact qcu hd ih hq h0 hl h1 hK
 exact qcv hd ih ⟨k1,k2,k3,k4,k5,k6,k7⟩ hq h0 hl h1 hK
theorem zmc:∀ d,d<=50->zdl d
 | 0,_=>zky (by omega) (fun e h=>by omega)
 | d+1,h=>zky h (fun e he=>by cases he;exact zmc d (by omega))
end Go.Proofs.YtekjnfldgjcgeaaGreatDoor
