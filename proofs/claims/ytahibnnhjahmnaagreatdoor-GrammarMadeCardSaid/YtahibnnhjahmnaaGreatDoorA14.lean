/- Part 14 of what the laws of the grammar rest on. -/
import Derived.Test.YtahibnnhjahmnaaGreatDoorA13
import Derived.Laws.AppendOwnNone
set_option linter.all false
set_option maxRecDepth 100000
set_option maxHeartbeats 8000000
namespace Go.Proofs.YtahibnnhjahmnaaGreatDoor
open Go.RowKit
theorem mI{W W':World}{base size n:Nat}{e:TypeId}{v:Value}{xs:List Value}(h:W.ownsRow base e size v n xs)(hb:Below W.heap.size W W'):W'.ownsRow base e size v n xs:=by
 refine⟨h.1,?_⟩;rcases h.2 with hn|⟨g,cap,cur,hv,hb',hg,rest⟩
 ·exact .inl hn
 ·exact .inr ⟨g,cap,cur,hv,hb',(hb.block g (zbD.1 hg).1).trans hg,rest⟩
theorem Ry{w:World}{ops:Array Oper}{rest:List Oper}{o:Oper}{a:Act}{Q:Exit->Act->World->Prop}(hgd:o.guard=none)(sx xx:Operand)
  (ho:o.op=.call { callee:=.builtin .append,args:=#[sx,xx],argTypes:=#[35,35] }) (base b2:Nat) (v v2:Value) (L L2:List (List Int)) (hs:a.eval sx=v) (hx:a.eval xx=v2)
  (h:w.ownsRow base 9 1 v L.length (gy L)) (h2:w.ownsRow b2 9 1 v2 L2.length (gy L2)) (hle:L.length+L2.length<=1000000000) (hbase:base<=w.heap.size)
  (K:∀ v' w',w'.ownsRow base 9 1 v' (L++L2).length (gy (L++L2))->w.grownBy w' v.ownBlock->wpList Tryz.prog ops Q rest (a.put o.dst v') w'):wpList Tryz.prog ops Q (o::rest) a w:=by
 obtain⟨i0,hi0,hz0,hz1,hz2⟩:=info_parts NV;rcases fB h2 with ⟨rfl,h0⟩|⟨g,cap,rfl⟩
 ·have e:L2=[]:=List.length_eq_zero_iff.1 h0;subst e;exact wpList_append_own_none hgd sx xx 35 ho base 9 i0 1 Tryz.underlying35 hi0 v _ _ hs h hx (K v w (by simpa using h) (iq _ _))
 ·refine wpList_append_own_at _ hgd sx xx 35 ho base 9 i0 _ 1 16 Tryz.underlying35 hi0 hz0 hz1 hz2 rfl (by decide) v L.length (gy L) hs h ⟨g,0,none⟩ L2.length cap (gy L2) hx (by rw[XJ];omega) (fun j u hj=>?_) ?_ (by unfold maxLen;omega) (by omega) hbase ?_
  ·have:=eZ h2 hj
   cases j<;>simpa[Addr.add]using this
  ·intro u hu;unfold gy at hu;rw[List.mem_map]at hu;obtain⟨x,_,rfl⟩:=hu;rfl
  ·intro v' w' hown hgrow _ _;have e:gy (L++L2)=gy L++gy L2:=by simp[gy]
   exact K v' w' (by rw[zbG,e];exact hown) hgrow
theorem lD{W:World}{base size n:Nat}{e:TypeId}{v:Value}{xs:List Value}(h:W.ownsRow base e size v n xs):∀ b,v.ownBlock=some b->base<=b:=fun b hb=>by
 rcases fB h with ⟨rfl,_⟩|⟨g',cap,rfl⟩
 ·simp[Value.ownBlock]at hb
 ·have:=(iX h).1;simp[Value.ownBlock]at hb;omega
theorem au.XO{W:World}{c:Option Addr}{n cap:Nat}{xs:List Value}(h:au W (.slice c n cap) n xs)(hn:0<n):∃ g off,c=some ⟨g,off,none⟩/\n<=cap/\g<W.heap.size/\∀ (j:Nat) (u:Value),xs[j]?=some u->W.cell? ⟨g,off+j,none⟩=some u:=by
 rcases h with ⟨h0,_⟩|⟨g,off,cap',hv,h1,_,h3,h4⟩
 ·omega
 ·simp at hv;obtain⟨rfl,rfl⟩:=hv;exact⟨g,off,rfl,h1,h3,h4⟩
theorem aM.J4{W:World}{X:XV}{t:Tree}(h:aM W X t):∃ (x ns:List Int) (kids:List Tree) (vs:List XV),t=.mk X.kind x ns X.lo X.hi kids/\X.text=ak x/\bJ x/\au W X.ks kids.length (vs.flatMap XV.cells)/\vs.length=kids.length/\(∀ (i:Nat) (y:XV) (t:Tree),vs[i]?=some y->kids[i]?=some t->aM W y t)/\X.ns.oneCell'=true:=by
 cases h with
 |mk vs h0 hl h1 h2 h3 h4=>exact⟨_,_,_,vs,rfl,rfl,⟨h0,hl⟩,h2,h3,h4,h1.one⟩
theorem Rz:∀ (k:Nat) (w:World) (X:XV) (t:Tree),aM w X t->t.tw<=k->(bn t).length<=100000000->Calls Tryz.prog 7 #[X.val] w (J3 (bn t) w):=by
 intro k
 induction k using Nat.strongRecOn with
 |_ k ih =>
 intro w X t hE hk hlen;obtain⟨x,ns,kids,vs,rfl,htx,hto,h1,h2,h3,hns⟩:=hE.J4;have nW:Hid ((Tree.mk X.kind x ns X.lo X.hi kids).tw=1+x.length+ns.length+(kids.map Tree.tw).sum):=by unfold Hid;rw[Tree.tw]
 have hnm:=Dr X.kind X.lo X.hi x ns kids;obtain⟨kk,tx,nv,lo,hi,kv⟩:=X;simp only[]at htx hns h1 nW hnm hk hlen;simp only[]at hE;have H2:=hh9 h2;have H3:=hh9 h3;have IH:=hh9 ih;have HK:=hh9 hk;have HLEN:=hh9 hlen;obtain⟨n,hn⟩:∃ n,n=kids.length:=⟨_,rfl⟩
 rw[<- hn]at h1;have HN:=hh9 hn;obtain⟨NM,hNM⟩:∃ NM,NM=bn (Tree.mk kk x ns lo hi kids):=⟨_,rfl⟩
 have iM:=hh9 (hNM.trans hnm);have J5:=hh9 hNM;rw[<- hNM]
 obtain⟨ka,kc,hkv⟩:∃ ka kc,kv=.slice ka n kc:=by
  obtain⟨a,c,h,_⟩:=h1.slice;exact⟨a,c,h⟩
 have J6:n<=9223372036854775807:=by
  obtain⟨_,_,_,h⟩:=h1.slice;exact h
 subst hkv;have HR:=hh9 h1;have kF:=hh9 htx;have hb0:Below w.heap.size w (w.alloc (aB kk lo hi tx nv (.slice ka n kc))):=(zbE _ _).alloc (zbA _) _;have HB0:=hh9 hb0;have HX0:Hid (gK (w.alloc (aB kk lo hi tx nv (.slice ka n kc))) w.heap.size ⟨kk,tx,nv,lo,hi,.slice ka n kc⟩):=zbO w (aB kk lo hi tx nv (.slice ka n kc));clear hE h1 h2 h3 ih hk hlen hn hNM hnm htx hb0;have hlw:(w.alloc (aB kk lo hi tx nv (.slice ka n kc))).heap.size=w.heap.size+1:=by simp
 obtain⟨b0,b1,b2,b3,b4,b5⟩:=HX0.out.cells;simp only[]at b0 b1 b2 b3 b4 b5;show Calls Tryz.prog 7 #[.agg #[.int .i64 kk,.string tx,nv,.int .i64 lo,.int .i64 hi,.slice ka n kc]] w _
 unfold aB at HX0 HB0 b0 b1 b2 b3 b4 b5 hlw;by_cases hk4:kk=4
 ·rw[if_pos hk4]at iM;obtain⟨HD,EW⟩:∃ HD,HD=[x]:=⟨_,rfl⟩
  rw[<- EW]at iM;have sI:=hh9 EW;subst hk4;clear EW
  have J7:Hid (((w.alloc (.cells #[.int .i64 4,.string tx,nv,.int .i64 lo,.int .i64 hi,.slice ka n kc] 29)).alloc (.cells #[.string tx] 9)).ownsRow (w.heap.size+1) 9 1 (.slice (some ⟨w.heap.size+1,0,none⟩) 1 1) HD.length (gy HD)):=by
   rw[sI.out,kF.out];refine bq (cs:=#[.string (ak x)]) (zbA _) ?_ (by unfold maxLen;simp) (by simp);have h:=zbO (w.alloc (.cells #[.int .i64 4,.string (ak x),nv,.int .i64 lo,.int .i64 hi,.slice ka n kc] 29)) (.cells #[.string (ak x)] 9);rw[World.size_alloc]at h;exact h
  go_enter Tryz.func7,Tryz.ntmps7;go_wp2_with (at_builtin;go_loud (refine Ry rfl _ _ rfl (w.heap.size+1) (w.heap.size+1) _ _ [] HD rfl rfl (World.ownsRow_nil _ _ _ _) J7.out (by rw[sI.out];simp) (by simp<;>omega) ?_);intro v' w1 hown hgrow;have HOWN:=hh9 hown;have bF:Hid (World.grownBy _ w1 none):=hgrow;clear hown hgrow)
  have J8:gK w1 w.heap.size ⟨4,tx,nv,lo,hi,.slice ka n kc⟩:=(bF.out.block _ (by simp<;>omega) (fun e=>by cases e)).trans (J2 _ _ HX0.out);have RF:Below w.heap.size w w1:=(HB0.out.alloc (by simp) _).grown bF.out (by simp<;>omega) (fun b hb=>by cases hb);obtain⟨c0,c1,c2,c3,c4,c5⟩:=J8.cells;simp only[]at c0 c1 c2 c3 c4 c5;go_loopw [3,4] (fun s v wr=>∃ (i:Nat) (u:Value),s=u/\v=.int .i64 i/\i<=n/\Hid (wr.ownsRow (w.heap.size+1) 9 1 u (HD++((kids.take i).map bn).flatten).length (gy (HD++((kids.take i).map bn).flatten)))/\Hid (Below w.heap.size w wr)/\Hid (gK wr w.heap.size ⟨4,tx,nv,lo,hi,.slice ka n kc⟩)) (fun _ v _=>n-(intOf v).toNat)
  case atStart=>exact⟨0,_,rfl,rfl,Nat.zero_le _,(by have:=HOWN.out;simpa[Hid]using this),RF,J8⟩
  case round =>
   obtain⟨i,u,rfl,rfl,hi',cO,aA,gL⟩:=hrel;obtain⟨b0,b1,b2,b3,b4,b5⟩:=gL.out.cells;simp only[]at b0 b1 b2 b3 b4 b5;by_cases hlt:i<n
   ·obtain⟨Y,hY⟩:∃ y,vs[i]?=some y:=⟨_,zbC (by rw[H2.out,<- HN.out];exact hlt)⟩
    obtain⟨t,ht⟩:∃ y,kids[i]?=some y:=⟨_,zbC (by rw[<- HN.out];exact hlt)⟩
    obtain⟨g,off,rfl,hnc,hgl,hcs⟩:=HR.out.XO (Nat.lt_of_le_of_lt (Nat.zero_le _) hlt)
    have CX:∀ (j:Nat) (u:Value),j<6->Y.cells[j]?=some u->wr.cell? ⟨g,off+(i*6+j),none⟩=some u:=fun j u hj hu =>
     (aA.out.cell (p:=⟨g,off+(i*6+j),none⟩) hgl).trans (hcs _ u ((pV vs i j Y hY hj).trans hu))
    have x9:=(H3.out i Y t hY ht).under aA.out;have htk:=Rk ht;have hfl:=Rl kids (i+1);rw[htk,zbG]at hfl;have RG:NM.length=HD.length+((kids.map bn).flatten).length:=by rw[iM.out,zbG]
    have yM:=HLEN.out;rw[<- J5.out]at yM;have hmem:t∈kids:=zbI ht;have J9:=Hr hmem;have hki:=HK.out;rw[nW.out]at hki;have bT:=hh9 (IH.out t.tw (by omega) wr Y t x9 (zbA _) (by omega));have Jt:Hid ((HD++((kids.take i).map bn).flatten).length+(bn t).length<=1000000000):=by unfold Hid;rw[zbG];omega
    have wM:Hid (HD++((kids.take (i+1)).map bn).flatten=(HD++((kids.take i).map bn).flatten)++bn t):=by unfold Hid;rw[htk,List.append_assoc]
    obtain⟨k2,s2,XP,lo2,hi2,XQ⟩:=Y;have e0:=CX 0 _ (by omega) rfl;have e1:=CX 1 _ (by omega) rfl;have e2:=CX 2 _ (by omega) rfl;have e3:=CX 3 _ (by omega) rfl;have e4:=CX 4 _ (by omega) rfl;have e5:=CX 5 _ (by omega) rfl;rw[<- Nat.add_assoc]at e0 e1 e2 e3 e4 e5;rw[Nat.add_zero]at e0;simp only[]at e0 e1 e2 e3 e4 e5;unfold XV.val at bT;simp only[]at bT;clear CX hY ht x9 htk hfl RG yM hmem J9 hki hcs hgl
    go_wp2_with (first
     |(go_at_call 7;refine bT.out.mono ?_;rintro e w2 ⟨v2,rfl,hrow2,hb2⟩;have HB2:=hh9 hb2;have HR2:=hh9 hrow2;have yN:=hh9 (mI cO.out hb2);clear hb2 hrow2)
     |(at_builtin;refine Ry rfl _ _ rfl (w.heap.size+1) wr.heap.size _ _ (HD++((kids.take i).map bn).flatten) (bn t) rfl rfl yN.out HR2.out Jt.out (by have h1:=gL.out;have h2:=(zbD.1 h1).1;have h3:=HB2.out.size;omega) ?_;intro v' w3 hown hgrow;have HOWN:=hh9 hown;have bF:=hh9 hgrow;clear hown hgrow))
    have yO:gK w2 w.heap.size ⟨4,tx,nv,lo,hi,.slice (some ⟨g,off,none⟩) n kc⟩:=(HB2.out.block _ (zbD.1 gL.out).1).trans gL.out;have hown2:=lD yN.out;have EX:gK w3 w.heap.size ⟨4,tx,nv,lo,hi,.slice (some ⟨g,off,none⟩) n kc⟩:=(bF.out.block _ (zbD.1 yO).1 (fun e=>by have:=hown2 _ e.symm;omega)).trans yO;go_roundw
    case rel=>exact⟨i+1,v',rfl,by go_num,by omega,by rw[wM.out];exact HOWN,(aJ aA.out HB2.out).grown bF.out (zbH aA.out.size HB2.out.size) (fun b hb=>by have:=hown2 b hb;omega),EX⟩
    case measure=>simp[intOf];omega
   ·obtain rfl:i=n:=by omega
    have aU:=cO.out;rw[List.take_of_length_le (by have:=HN.out;omega),<- iM.out]at aU;go_wp2_with fail
    go_ret;exact⟨_,rfl,wQ aU (by omega),aA.out⟩
 ·rw[if_neg hk4]at iM;obtain⟨HD,EW⟩:∃ HD:List (List Int),HD=[]:=⟨_,rfl⟩
  rw[<- EW]at iM;have sI:=hh9 EW;have hk5:(kk==4)=false:=by simpa using hk4
  clear EW hk4;go_enter Tryz.func7,Tryz.ntmps7;go_wp2_with fail
  go_loopw [3,4] (fun s v wr=>∃ (i:Nat) (u:Value),s=u/\v=.int .i64 i/\i<=n/\Hid (wr.ownsRow (w.heap.size+1) 9 1 u (HD++((kids.take i).map bn).flatten).length (gy (HD++((kids.take i).map bn).flatten)))/\Hid (Below w.heap.size w wr)/\Hid (gK wr w.heap.size ⟨kk,tx,nv,lo,hi,.slice ka n kc⟩)) (fun _ v _=>n-(intOf v).toNat)
  case atStart=>exact⟨0,_,rfl,rfl,Nat.zero_le _,(by rw[sI.out];exact World.ownsRow_nil _ _ _ _),HB0,HX0⟩
  case round =>
   obtain⟨i,u,rfl,rfl,hi',cO,aA,gL⟩:=hrel;obtain⟨b0,b1,b2,b3,b4,b5⟩:=gL.out.cells;simp only[]at b0 b1 b2 b3 b4 b5;by_cases hlt:i<n
   ·obtain⟨Y,hY⟩:∃ y,vs[i]?=some y:=⟨_,zbC (by rw[H2.out,<- HN.out];exact hlt)⟩
    obtain⟨t,ht⟩:∃ y,kids[i]?=some y:=⟨_,zbC (by rw[<- HN.out];exact hlt)⟩
    obtain⟨g,off,rfl,hnc,hgl,hcs⟩:=HR.out.XO (Nat.lt_of_le_of_lt (Nat.zero_le _) hlt)
    have CX:∀ (j:Nat) (u:Value),j<6->Y.cells[j]?=some u->wr.cell? ⟨g,off+(i*6+j),none⟩=some u:=fun j u hj hu =>
     (aA.out.cell (p:=⟨g,off+(i*6+j),none⟩) hgl).trans (hcs _ u ((pV vs i j Y hY hj).trans hu))
    have x9:=(H3.out i Y t hY ht).under aA.out;have htk:=Rk ht;have hfl:=Rl kids (i+1);rw[htk,zbG]at hfl;have RG:NM.length=HD.length+((kids.map bn).flatten).length:=by rw[iM.out,zbG]
    have yM:=HLEN.out;rw[<- J5.out]at yM;have hmem:t∈kids:=zbI ht;have J9:=Hr hmem;have hki:=HK.out;rw[nW.out]at hki;have bT:=hh9 (IH.out t.tw (by omega) wr Y t x9 (zbA _) (by omega));have Jt:Hid ((HD++((kids.take i).map bn).flatten).length+(bn t).length<=1000000000):=by unfold Hid;rw[zbG];omega
    have wM:Hid (HD++((kids.take (i+1)).map bn).flatten=(HD++((kids.take i).map bn).flatten)++bn t):=by unfold Hid;rw[htk,List.append_assoc]
    obtain⟨k2,s2,XP,lo2,hi2,XQ⟩:=Y;have e0:=CX 0 _ (by omega) rfl;have e1:=CX 1 _ (by omega) rfl;have e2:=CX 2 _ (by omega) rfl;have e3:=CX 3 _ (by omega) rfl;have e4:=CX 4 _ (by omega) rfl;have e5:=CX 5 _ (by omega) rfl;rw[<- Nat.add_assoc]at e0 e1 e2 e3 e4 e5;rw[Nat.add_zero]at e0;simp only[]at e0 e1 e2 e3 e4 e5;unfold XV.val at bT;simp only[]at bT;clear CX hY ht x9 htk hfl RG yM hmem J9 hki hcs hgl
    go_wp2_with (first
     |(go_at_call 7;refine bT.out.mono ?_;rintro e w2 ⟨v2,rfl,hrow2,hb2⟩;have HB2:=hh9 hb2;have HR2:=hh9 hrow2;have yN:=hh9 (mI cO.out hb2);clear hb2 hrow2)
     |(at_builtin;refine Ry rfl _ _ rfl (w.heap.size+1) wr.heap.size _ _ (HD++((kids.take i).map bn).flatten) (bn t) rfl rfl yN.out HR2.out Jt.out (by have h1:=gL.out;have h2:=(zbD.1 h1).1;have h3:=HB2.out.size;omega) ?_;intro v' w3 hown hgrow;have HOWN:=hh9 hown;have bF:=hh9 hgrow;clear hown hgrow))
    have yO:gK w2 w.heap.size ⟨kk,tx,nv,lo,hi,.slice (some ⟨g,off,none⟩) n kc⟩:=(HB2.out.block _ (zbD.1 gL.out).1).trans gL.out;have hown2:=lD yN.out;have EX:gK w3 w.heap.size ⟨kk,tx,nv,lo,hi,.slice (some ⟨g,off,none⟩) n kc⟩:=(bF.out.block _ (zbD.1 yO).1 (fun e=>by have:=hown2 _ e.symm;omega)).trans yO;go_roundw
    case rel=>exact⟨i+1,v',rfl,by go_num,by omega,by rw[wM.out];exact HOWN,(aJ aA.out HB2.out).grown bF.out (zbH aA.out.size HB2.out.size) (fun b hb=>by have:=hown2 b hb;omega),EX⟩
    case measure=>simp[intOf];omega
   ·obtain rfl:i=n:=by omega
    have aU:=cO.out;rw[List.take_of_length_le (by have:=HN.out;omega),<- iM.out]at aU;go_wp2_with fail
    go_ret;exact⟨_,rfl,wQ aU (by omega),aA.out⟩
end Go.Proofs.YtahibnnhjahmnaaGreatDoor
namespace Go.Proofs.YtahibnnhjahmnaaGreatDoor
open Go.RowKit Go.Maps
theorem yP:Keyed Tryz.prog 9:=string_keyed Tryz.underlying9
theorem NW(w:World):(zeroValue 3).run Tryz.prog w=.ok (.int .i64 0) w:=by kernel_rfl
def eD(x:List Int):Lit:=.string (ak x).data.toList
theorem Hw{x:List Int}(h:bJ x):keyOf Tryz.prog 9 (.string (ak x))=some (eD x):=WideMaps.keyOf_string_mk Tryz.underlying9 (by rw[eP];unfold maxLen;have:=h.2;omega)
theorem NY{x y:List Int}(hx:bJ x)(hy:bJ y)(h:eD x=eD y):x=y:=by
 unfold eD at h;injection h with h
 refine Rf hx.1 hy.1 ?_;exact ByteArray.ext (Array.toList_inj.1 h)
theorem XR(n:Nat)(h:n<=1000000000):(Lit.int .i64 (n:Int)).wf=true:=by
 simp only[Lit.wf,IntKind.min,IntKind.max,IntKind.signed,IntKind.bits,zbJ,decide_eq_true_eq];constructor<;>simp<;>omega
def p8(D:DataW Unit)(g:List GR):Prop:=∀ x,bJ x->Maps.has D (eD x)=(bI g x).isSome/\∀ i,bI g x=some i->D.atKey (eD x) (.lit (.int .i64 0))=.lit (.int .i64 (i:Int))
theorem p8.start:p8 (.map []) []:=fun x _=>⟨rfl,fun i h=>by simp[bI]at h⟩
theorem p8.push{D:DataW Unit}{g:List GR}{r:GR}(h:p8 D g)(ht:Maps.Tidy D)(hr:bJ r.name)(hno:bI g r.name=none):p8 (D.put (eD r.name) (.lit (.int .i64 (g.length:Int)))) (g++[r]):=by
 have hkl:WideAt.IsKeyLit (eD r.name):=by unfold eD;trivial
 intro x hx;rw[Jy];by_cases e:x=r.name
 ·subst e;rw[hno,Maps.has_put_same ht.isMap hkl,Maps.atKey_put_same ht.isMap hkl];refine⟨by simp[bI],fun i hi=>?_⟩;simp[bI]at hi;rw[<- hi]
 ·have hk:eD x≠eD r.name:=fun h=>e (NY hx hr h)
  rw[Maps.has_put_other hk,Maps.atKey_put_other hk];have h2:=h x hx
  cases hf:bI g x with
  |some i =>
   rw[hf]at h2;exact⟨h2.1,fun j hj=>h2.2 j hj⟩
  |none =>
   rw[hf]at h2;have e2:bI [r] x=none:=by unfold bI;rw[if_neg (fun h=>e h.symm)];rfl
   rw[e2];exact⟨h2.1,fun j hj=>by cases hj⟩
structure pJ (W:World) (base R m:Nat) (v:Value) (ys:List RV) (g:List GR):Prop where
 blk:W.heap[R]?=some (.cells #[v,.map (some m)] 80 (0,0))
 row:W.ownsRow base 33 7 v g.length (ys.flatMap RV.cells)
 len:ys.length=g.length
 map:∃ D:DataW Unit,W.ownsMap Tryz.prog 9 (plainElem Tryz.prog 3) m g.length D/\p8 D g
 name:∀ (i:Nat) (y:RV) (r:GR),ys[i]?=some y->g[i]?=some r->y.name=ak r.name/\bJ r.name
theorem pJ.cells{W:World}{base R m:Nat}{v:Value}{ys:List RV}{g:List GR}(h:pJ W base R m v ys g):W.cell? ⟨R,0,none⟩=some v/\W.cell? ⟨R,1,none⟩=some (.map (some m))/\R<W.heap.size:=by
 have hb:=h.blk;refine⟨?_,?_,(zbD.1 hb).1⟩<;>(unfold World.cell?;simp only[hb];rfl)
theorem pJ.frozen{W:World}{base R m:Nat}{v:Value}{ys:List RV}{g:List GR}(h:pJ W base R m v ys g)(j:Nat):W.frozen? ⟨R,j,none⟩=false:=by
 have hb:=h.blk;simp[World.frozen?,hb]
theorem pJ.below{W W':World}{base R m:Nat}{v:Value}{ys:List RV}{g:List GR}(h:pJ W base R m v ys g)(hb:Below W.heap.size W W'):pJ W' base R m v ys g:=by
 obtain⟨D,h1,h2⟩:=h.map;refine⟨(hb.block R h.cells.2.2).trans h.blk,mI h.row hb,h.len,⟨D,?_,h2⟩,h.name⟩;have hlt:=h1.lt;obtain⟨es,clock,hh,r⟩:=h1;exact⟨es,clock,(hb.block m hlt).trans hh,r⟩
theorem XT{W W':World}{base size n m:Nat}{e:TypeId}{v:Value}{xs:List Value}(h:W.ownsRow base e size v n xs)(hg:W.grownBy W' (some m))(hm:m<base):W'.ownsRow base e size v n xs:=by
 refine⟨h.1,?_⟩;rcases h.2 with hn|⟨g,cap,cur,hv,hb,hg',rest⟩
 ·exact .inl hn
 ·exact .inr ⟨g,cap,cur,hv,hb,(hg.block g (zbD.1 hg').1 (fun e=>by have:=zbB e;omega)).trans hg',rest⟩
theorem RH(w:World)(cs:Array Value)(t:TypeId)(l:List Value)(hl:l=cs.toList):∀ j u,l[j]?=some u->(w.alloc (.cells cs t)).cell? ((⟨w.heap.size,0,none⟩:Addr).add j)=some u:=by
 intro j u hj;subst hl;have h:=zbO w (.cells cs t);have e:(⟨w.heap.size,0,none⟩:Addr).add j=⟨w.heap.size,j,none⟩:=by cases j<;>simp[Addr.add]
 rw[e];unfold World.cell?;simp only[h];simpa using hj
theorem tQ{W W':World}{P:Program}{t:TypeId}{R:Value->Option (DataW Unit × List MemPlace)}{b m:Nat}{D:DataW Unit}(h:W.ownsMap P t R b m D)(hb:W'.heap[b]?=W.heap[b]?):W'.ownsMap P t R b m D:=by
 obtain⟨es,clock,hh,r⟩:=h;exact⟨es,clock,hb.trans hh,r⟩
theorem RJ{W W':World}{row:Option Nat}(hg:W.grownBy W' row)(hr:∀ b,row=some b->∀ c t z,W.heap[b]?=some (.cells c t z)->¬ KT t):zap (fun _=>False) W W' :=
 ⟨hg.size,fun b c t z _ ht hb=>(hg.block b (zbD.1 hb).1 (fun e=>hr b e.symm c t z hb ht)).trans hb⟩
theorem XU(W:World):zap (fun _=>False) W W.drew:=zap.below (dJ (zbE _ _) 1)
theorem XW(W:World)(o:Obj):zap (fun _=>False) W (W.alloc o):=zap.below ((zbE _ _).alloc (zbA _) _)
theorem AB{W:World}{base size n b:Nat}{e:TypeId}{v:Value}{xs:List Value}(h:W.ownsRow base e size v n xs)(hb:v.ownBlock=some b){c:Array Value}{t:TypeId}{z:Nat × Nat}(hc:W.heap[b]?=some (.cells c t z)):t=e:=by
 rcases h.2 with ⟨rfl,_⟩|⟨g,cap,cur,rfl,_,hg,_⟩
 ·simp[Value.ownBlock]at hb
 ·simp[Value.ownBlock]at hb;subst hb;have:=zbB (hc.symm.trans hg);simp at this;exact this.2.1
theorem XZ:(Tryz.prog.info? 33).map (fun i=>(i.zero,i.size,i.bytes))=some (some (.agg #[.string ⟨#[]⟩,.int .i64 0,.string ⟨#[]⟩,.slice none 0 0,.int .i64 0,.int .i64 0,.slice none 0 0]),7,104):=by kernel_rfl
theorem X3{w:World}{base R m:Nat}{v:Value}{ys:List RV}{g:List GR}(h:pJ w base R m v ys g)(hR:R<base)(hm:m<base)(hne:R≠m)(hbase:base<=w.heap.size)(Y:RV)(r:GR)(hn:Y.name=ak r.name/\bJ r.name)(hno:bI g r.name=none)(hlen:g.length<=1000000)
  (h1:Y.expr.ns.oneCell'=true) (h2:Y.expr.ks.oneCell'=true) :
  Calls Tryz.prog 49 #[.pointer (some ⟨R,0,none⟩),Y.val] w
   (fun e w'=>e=.returned (.tuple #[])/\∃ v',pJ w' base R m v' (ys++[Y]) (g++[r])/\zap (fun _=>False) w w'/\(∀ b,b<w.heap.size->b≠R->b≠m->v.ownBlock≠some b->w'.heap[b]?=w.heap[b]?)/\(v'.ownBlock=v.ownBlock\/∃ k,v'.ownBlock=some k/\w.heap.size<=k)/\∀ n0,n0<=R->n0<=m->n0<=base->Below n0 w w'):=by
 obtain⟨nm,⟨k,tx,nv,lo,hi,kv⟩⟩:=Y;obtain⟨D,hD,kU⟩:=h.map;simp only[]at hn h1 h2
 obtain⟨va,vc,rfl⟩:∃ va vc,v=.slice va g.length vc:=by
  rcases fB h.row with ⟨rfl,h0⟩|⟨b,cap,rfl⟩
  ·exact⟨none,0,by rw[h0]⟩
  ·exact⟨_,_,rfl⟩
 obtain⟨hn1,hn2⟩:=hn;subst hn1;have hval:plainElem (H:=Unit) Tryz.prog 3 (.int .i64 (g.length:Int))=some (.lit (.int .i64 (g.length:Int)),[]):=plainElem_int Tryz.underlying3 (XR _ (by omega));have hD1:=(hD.alloc (.cells #[.string (ak r.name),.int .i64 k,.string tx,nv,.int .i64 lo,.int .i64 hi,kv] 33)).drew;obtain⟨w1,hrun,hD2,hg1⟩:=hD1.update yP Tryz.underlying56 (by unfold maxLen;omega) (Hw hn2) hval;obtain⟨c0,c1,hRl⟩:=h.cells;have a0:=jr c0 (.cells #[.string (ak r.name),.int .i64 k,.string tx,nv,.int .i64 lo,.int .i64 hi,kv] 33);have a1:=jr c1 (.cells #[.string (ak r.name),.int .i64 k,.string tx,nv,.int .i64 lo,.int .i64 hi,kv] 33);have hfr:=h.frozen;obtain⟨S,hS⟩:∃ S,S=ak r.name:=⟨_,rfl⟩
 rw[<- hS]at hrun a0 a1 hg1 hD1;show Calls Tryz.prog 49 #[.pointer (some ⟨R,0,none⟩),.agg #[.string (ak r.name),.int .i64 k,.string tx,nv,.int .i64 lo,.int .i64 hi,kv]] w _
 rw[<- hS];have H:=hh9 h;have HD1:=hh9 hD1;have RL:=hh9 kU;have HD2:=hh9 hD2;have aT:=hh9 hg1;have HS:=hh9 hS;clear h hD kU hD1 hD2 hS;go_enter Tryz.func49,Tryz.ntmps49;go_wp2_with fail
 go_region
 have hsz1:(((w.alloc (.cells #[.string S,.int .i64 k,.string tx,nv,.int .i64 lo,.int .i64 hi,kv] 33)).drew).heap.size)=w.heap.size+1:=by simp
 have RN:=hg1.size;rw[hsz1]at RN;have yQ:w1.heap[R]?=some (.cells #[.slice va g.length vc,.map (some m)] 80 (0,0)):=(hg1.block R (by rw[hsz1];omega) (fun e=>by have:=zbB e;omega)).trans ((zbP _ _ _ hRl).trans H.out.blk);have hX1:w1.heap[w.heap.size]?=some (.cells #[.string S,.int .i64 k,.string tx,nv,.int .i64 lo,.int .i64 hi,kv] 33 (0,0)):=(hg1.block w.heap.size (by rw[hsz1];omega) (fun e=>by have:=zbB e;omega)).trans (zbO w _);have r0:w1.cell? ⟨R,0,none⟩=some (.slice va g.length vc):=by unfold World.cell?;simp only[yQ];rfl
 have x0:w1.cell? ⟨w.heap.size,0,none⟩=some (.string S):=by unfold World.cell?;simp only[hX1];rfl
 have x1:w1.cell? ⟨w.heap.size,1,none⟩=some (.int .i64 k):=by unfold World.cell?;simp only[hX1];rfl
 have x2:w1.cell? ⟨w.heap.size,2,none⟩=some (.string tx):=by unfold World.cell?;simp only[hX1];rfl
 have x3:w1.cell? ⟨w.heap.size,3,none⟩=some nv:=by unfold World.cell?;simp only[hX1];rfl
 have x4:w1.cell? ⟨w.heap.size,4,none⟩=some (.int .i64 lo):=by unfold World.cell?;simp only[hX1];rfl
 have x5:w1.cell? ⟨w.heap.size,5,none⟩=some (.int .i64 hi):=by unfold World.cell?;simp only[hX1];rfl
 have x6:w1.cell? ⟨w.heap.size,6,none⟩=some kv:=by unfold World.cell?;simp only[hX1];rfl
 have kV:w1.ownsRow base 33 7 (.slice va g.length vc) g.length (ys.flatMap RV.cells):=XT (mI (mI H.out.row ((zbE _ _).alloc (zbA _) (.cells #[.string S,.int .i64 k,.string tx,nv,.int .i64 lo,.int .i64 hi,kv] 33))) (dJ (zbE _ _) 1)) hg1 hm;have cO:=hh9 (show (((w1.drew).alloc (.cells #[.string S,.int .i64 k,.string tx,nv,.int .i64 lo,.int .i64 hi,kv] 33))).ownsRow base 33 7 (.slice va g.length vc) g.length (ys.flatMap RV.cells) from mI (show w1.drew.ownsRow base 33 7 (.slice va g.length vc) g.length (ys.flatMap RV.cells) from kV) ((zbE _ _).alloc (zbA _) _));have HR1:=hh9 yQ;have RO:=(zbD.1 yQ).1;obtain⟨i0,hi0,hz0,hz1,hz2⟩:=info_parts XZ;have yR:=hh9 (lD kV);clear yQ hX1 kV a0 a1 c0 c1 hrun hfr;go_wp2_with fail
 go_region_law (refine step_append_lies _ (by rfl) _ _ _ (by rfl) base 33 i0 _ 7 104 Tryz.underlying25 hi0 hz0 hz1 hz2 rfl (by omega) (.slice va g.length vc) g.length (ys.flatMap RV.cells) (by rfl) cO.out ⟨w1.heap.size,0,none⟩ 1 1 [.string S,.int .i64 k,.string tx,nv,.int .i64 lo,.int .i64 hi,kv] (by rfl) (by rfl) (RH _ _ _ _ rfl) (by intro u hu;simp at hu;rcases hu with rfl|rfl|rfl|rfl|rfl|rfl|rfl<;>first|rfl|assumption) (by omega) (by unfold maxLen;omega) (by omega) (by simp;omega) (w1.heap.size+1) (by simp) ?_;intro gb cap w3 hown hgrow hat hlt3;have HOWN:=hh9 hown;have bF:=hh9 hgrow;have NZ:w3.heap[R]?=some (.cells #[.slice va g.length vc,.map (some m)] 80 (0,0)):=(hgrow.block R (by simp;omega) (fun e=>by have:=yR.out R e.symm;omega)).trans ((zbP _ _ _ RO).trans HR1.out);have q0:w3.cell? ⟨R,0,none⟩=some (.slice va g.length vc):=(by unfold World.cell?;simp only[NZ];rfl);have q1:w3.frozen? ⟨R,0,none⟩=false:=(by simp[World.frozen?,NZ]);have HR3:=hh9 NZ;clear hown hgrow NZ)
 all_goals
  have wR:∀ b,b<base->b<w1.heap.size->w3.heap[b]?=w1.heap[b]?:=fun b hb hl=>(bF.out.block b (by simp;omega) (fun e=>by have:=yR.out b e.symm;omega)).trans (zbP _ _ _ hl)
  have hm1:m<w1.heap.size:=HD2.out.lt
  have zaD:w1.heap.size+1<=w3.heap.size:=by
   have:=bF.out.size;simpa using this
  go_end0;refine⟨rfl,.slice (some ⟨gb,0,none⟩) (g.length+1) cap,⟨?_,?_,by simp[H.out.len],⟨_,?_,RL.out.push (HD1.out.tidy yP) hn2 hno⟩,?_⟩,?_,?_,hat.elim (fun e=>.inl (by rw[e];rfl)) (fun e=>.inr ⟨gb,rfl,by omega⟩),?_⟩
  ·rw[heap_setCell_same w3 R 0 _ _ _ HR3.out];rfl
  ·have h:=XT HOWN.out (grownBy_setCell' w3 R (.slice (some ⟨gb,0,none⟩) (g.length+1) cap)) hR;simpa[RV.cells]using h
  ·have h:=tQ HD2.out (W':=w3.setCell ⟨R,0,none⟩ (.slice (some ⟨gb,0,none⟩) (g.length+1) cap)) ((heap_setCell_other _ _ _ _ (Ne.symm hne)).trans (wR m hm hm1));simpa using h
  ·intro i y r' hy hr';by_cases hi:i<ys.length
   ·rw[zbK hi]at hy;rw[zbK (by rw[<- H.out.len];exact hi)]at hr';exact H.out.name i y r' hy hr'
   ·have hl:i=ys.length:=by
     have:=(zbF.1 hy).1;simp at this;omega
    subst hl;rw[zbL (zbA _)]at hy;rw[zbL (by rw[H.out.len];exact zbA _),H.out.len]at hr';simp at hy hr';subst hy hr';exact⟨HS.out,hn2⟩
  ·have k1:zap (fun _=>False) w w1:=(XW w _).trans ((XU _).trans (RJ aT.out (fun b e c t z hb=>by
    have e:=zbB e;subst e;obtain⟨es,clock,hh,_⟩:=HD1.out;rw[hh]at hb
    cases hb)))
   refine k1.trans ((XW _ _).trans ((XU _).trans ((RJ bF.out (fun b e c t z hb=>?_)).trans (RJ (grownBy_setCell' w3 R _) (fun b e c t z hb=>?_)))))
   ·have:=AB cO.out e hb;subst this;unfold KT
    decide
   ·have e:=zbB e;subst e;have:=zbB (hb.symm.trans HR3.out);simp at this;rw[this.2.1];unfold KT
    decide
  ·intro b hb hbR hbm hbv;have hb1:b<w1.heap.size:=by omega
   exact(heap_setCell_other _ _ _ _ hbR).trans ((bF.out.block b (by simp;omega) (fun e=>hbv e.symm)).trans ((zbP _ _ _ hb1).trans ((aT.out.block b (by rw[hsz1];omega) (fun e=>hbm (zbB e))).trans (zbP _ _ _ hb))))
  ·intro n0 h1 h2 h3;have b1:Below n0 w w1:=(dJ ((zbE n0 w).alloc (by omega) _) 1).grown aT.out (by show n0<=(w.alloc _).heap.size;simp;omega) (fun b e=>by have:=zbB e;omega);have b3:Below n0 w w3:=(dJ (b1.alloc (by omega) _) 1).grown bF.out (by show n0<=(w1.alloc _).heap.size;simp;omega) (fun b e=>by have:=yR.out b e;omega);exact b3.setCell (p:=⟨R,0,none⟩) h1 _
end Go.Proofs.YtahibnnhjahmnaaGreatDoor
namespace Go.Proofs.YtahibnnhjahmnaaGreatDoor
open Go.RowKit
theorem RP{W:World}{base size n g cap:Nat}{e:TypeId}{xs:List Value}(h:W.ownsRow base e size (.slice (some ⟨g,0,none⟩) n cap) n xs){j:Nat}{u:Value}(hj:xs[j]?=some u):W.cell? ⟨g,j,none⟩=some u:=eZ h hj
theorem AJ{W:World}{base size n g cap:Nat}{e:TypeId}{xs:List Value}(h:W.ownsRow base e size (.slice (some ⟨g,0,none⟩) n cap) n xs)(j:Nat):W.frozen? ⟨g,j,none⟩=false:=by
 obtain⟨hl,h2⟩:=h;rcases h2 with ⟨h2,_⟩|⟨g',cap',cur,hv,_,hh,_,_,hsz,ht⟩
 ·cases h2
 ·obtain rfl:g=g':=by simp at hv;omega
  simp[World.frozen?,hh]
theorem nL{W:World}{base size n g cap:Nat}{e:TypeId}{xs:List Value}(h:W.ownsRow base e size (.slice (some ⟨g,0,none⟩) n cap) n xs)(j:Nat)(u:Value) :
  (W.setCell ⟨g,j,none⟩ u).ownsRow base e size (.slice (some ⟨g,0,none⟩) n cap) n (xs.set j u):=by
 obtain⟨hl,h2⟩:=h;refine⟨by simpa using hl,?_⟩;rcases h2 with ⟨h2,_⟩|⟨g',cap',cur,hv,hb,hh,hc,hm,hsz,ht⟩
 ·cases h2
 ·obtain⟨rfl,rfl⟩:g=g'/\cap=cap':=by simp at hv;omega
  refine .inr ⟨g,cap,cur.setIfInBounds j u,rfl,hb,?_,hc,hm,by simpa using hsz,?_⟩
  ·obtain⟨hlt,hk⟩:=zbD.1 hh;show (W.heap.modify g _)[g]?=_
   rw[Array.getElem?_eq_getElem (by rw[Array.size_modify];exact hlt),Array.getElem_modify_self,hk];rfl
  ·rw[Array.toList_setIfInBounds,List.take_set,ht]
theorem qai(vs:List XV)(i:Nat)(x:XV)(h:i<vs.length) :
  ((((((vs.flatMap XV.cells).set (i*6) (.int .i64 x.kind)).set (i*6+1) (.string x.text)).set (i*6+2) x.ns).set (i*6+3) (.int .i64 x.lo)).set (i*6+4) (.int .i64 x.hi)).set (i*6+5) x.ks=(vs.set i x).flatMap XV.cells:=by
 induction vs generalizing i with
 |nil=>simp at h
 |cons y vs ih =>
  cases i with
  |zero=>simp[XV.cells]
  |succ i =>
   have ih:=ih i (by simpa using h)
   have e:∀ (j:Nat) (l:List Value) (u:Value),(y.cells++l).set ((i+1)*6+j) u=y.cells++l.set (i*6+j) u:=fun j l u=>by
    rw[List.set_append,if_neg (by simp[XV.cells];omega),show (i+1)*6+j-y.cells.length=i*6+j by simp[XV.cells];omega]
   have e0:=e 0;simp only[Nat.add_zero]at e0;simp only[List.flatMap_cons,List.set_cons_succ,e0,e];rw[ih]
def X4(t:TypeId)(size n:Nat)(xs:List Value)(w:World)(e:Ending)(w':World):Prop:=∃ v,e=.returned v/\w'.ownsRow w.heap.size t size v n xs/\Below w.heap.size w w'
theorem qaj:(Tryz.prog.info? 3).map (fun i=>(i.zero,i.size,i.bytes))=some (some (.int .i64 0),1,8):=by kernel_rfl
theorem RQ:(Tryz.prog.info? 29).map (fun i=>(i.zero,i.size,i.bytes))=some (some (.agg #[.int .i64 0,.string ⟨#[]⟩,.slice none 0 0,.int .i64 0,.int .i64 0,.slice none 0 0]),6,88):=by kernel_rfl
theorem zx1{P:Program}(w:World)(d:Nat)(t e:TypeId)(a:Option Addr)(n c n' c':Nat)(h:P.underlying t=some (.slice e)) :
  (Op.equalIn (d+1) t (.slice a n c) (.slice none n' c')).run P w=.ok a.isNone w:=by
 cases a<;>simp[Op.equalIn,run_underlying h]
theorem X5{P:Program}(w:World)(t e:TypeId)(a:Option Addr)(n c n' c':Nat)(h:P.underlying t=some (.slice e)) :
  (binOp .eql t (.slice a n c) (.slice none n' c')).run P w=.ok (.bool a.isNone) w:=by
 simp only[binOp];simp[Op.equal,Op.maxDepth,zx1 w 9999 t e a n c n' c' h]
theorem N7(w:World)(t:TypeId)(size:Nat):(w.alloc (.cells #[] t)).ownsRow w.heap.size t size (.slice (some ⟨w.heap.size,0,none⟩) 0 0) 0 [] :=
 bq (cs:=#[]) (zbA _) (zbO w _) (by unfold maxLen;omega) (by simp)
theorem zud{w:World}{v:Value}{n:Nat}{xs:List Value}(h:au w v n xs)(hl:xs.length=n*6)(h1:∀ u∈xs,u.oneCell'=true)(hn:n<=100000000):Calls Tryz.prog 71 #[v] w (X4 29 6 n xs w):=by
 obtain⟨i0,hi0,hz0,hz1,hz2⟩:=info_parts RQ;have hq:=fun W a n c=>X5 (P:=Tryz.prog) W 27 29 a n c 0 0 Tryz.underlying27
 rcases h with ⟨h0,a,cap,rfl⟩|⟨g,off,cap,rfl,g1,g2,g3,g4⟩
 ·subst h0;obtain rfl:xs=[]:=List.length_eq_zero_iff.1 (by omega)
  cases a with
  |none =>
   go_enter Tryz.func71,Tryz.ntmps71;go_wp2_with fail
   go_ret;exact⟨_,rfl,World.ownsRow_nil _ _ _ _,zbE _ _⟩
  |some a =>
   have HC:∀ (j:Nat) (u:Value),([]:List Value)[j]?=some u->(w.alloc (.cells #[] 29)).cell? (a.add j)=some u:=fun j u hj=>by simp at hj
   go_enter Tryz.func71,Tryz.ntmps71;go_wp2_with (at_builtin;go_loud (refine wpList_append_own_at _ rfl _ _ 27 rfl w.heap.size 29 i0 (.agg #[.int .i64 0,.string ⟨#[]⟩,.slice none 0 0,.int .i64 0,.int .i64 0,.slice none 0 0]) 6 88 Tryz.underlying27 hi0 hz0 hz1 hz2 rfl (by decide) _ 0 [] rfl (N7 w _ _) a 0 cap [] rfl hl HC h1 (by unfold maxLen;omega) (by omega) (by simp) ?_);intro v' w' hown hgrow _ _;have HOWN:=hh9 hown;have HG:Hid (World.grownBy _ w' (some w.heap.size)):=hgrow;clear hown hgrow)
   go_ret;have hb:Below w.heap.size w w':=((zbE _ _).alloc (zbA _) _).grown HG.out (by simp) (fun b e=>by have:=zbB e;omega);have ho:=HOWN.out;rw[Nat.zero_add,List.nil_append]at ho;exact⟨_,rfl,ho,hb⟩
 ·have HC:∀ (j:Nat) (u:Value),xs[j]?=some u->(w.alloc (.cells #[] 29)).cell? ((⟨g,off,none⟩:Addr).add j)=some u:=fun j u hj=>by
   have e:(⟨g,off,none⟩:Addr).add j=⟨g,off+j,none⟩:=by cases j<;>simp[Addr.add]
   rw[e];exact jr (g4 j u hj) _
  go_enter Tryz.func71,Tryz.ntmps71;go_wp2_with (at_builtin;go_loud (refine wpList_append_own_at _ rfl _ _ 27 rfl w.heap.size 29 i0 (.agg #[.int .i64 0,.string ⟨#[]⟩,.slice none 0 0,.int .i64 0,.int .i64 0,.slice none 0 0]) 6 88 Tryz.underlying27 hi0 hz0 hz1 hz2 rfl (by decide) _ 0 [] rfl (N7 w _ _) ⟨g,off,none⟩ n cap xs rfl hl HC h1 (by unfold maxLen;omega) (by omega) (by simp) ?_);intro v' w' hown hgrow _ _;have HOWN:=hh9 hown;have HG:Hid (World.grownBy _ w' (some w.heap.size)):=hgrow;clear hown hgrow)
  go_ret;have hb:Below w.heap.size w w':=((zbE _ _).alloc (zbA _) _).grown HG.out (by simp) (fun b e=>by have:=zbB e;omega);have ho:=HOWN.out;rw[Nat.zero_add,List.nil_append]at ho;exact⟨_,rfl,ho,hb⟩
theorem zx3{w:World}{v:Value}{n:Nat}{xs:List Value}(h:au w v n xs)(hl:xs.length=n*1)(h1:∀ u∈xs,u.oneCell'=true)(hn:n<=100000000):Calls Tryz.prog 70 #[v] w (X4 3 1 n xs w):=by
 obtain⟨i0,hi0,hz0,hz1,hz2⟩:=info_parts qaj;have hq:=fun W a n c=>X5 (P:=Tryz.prog) W 26 3 a n c 0 0 Tryz.underlying26
 rcases h with ⟨h0,a,cap,rfl⟩|⟨g,off,cap,rfl,g1,g2,g3,g4⟩
 ·subst h0;obtain rfl:xs=[]:=List.length_eq_zero_iff.1 (by omega)
  cases a with
  |none =>
   go_enter Tryz.func70,Tryz.ntmps70;go_wp2_with fail
   go_ret;exact⟨_,rfl,World.ownsRow_nil _ _ _ _,zbE _ _⟩
  |some a =>
   have HC:∀ (j:Nat) (u:Value),([]:List Value)[j]?=some u->(w.alloc (.cells #[] 3)).cell? (a.add j)=some u:=fun j u hj=>by simp at hj
   go_enter Tryz.func70,Tryz.ntmps70;go_wp2_with (at_builtin;go_loud (refine wpList_append_own_at _ rfl _ _ 26 rfl w.heap.size 3 i0 (.int .i64 0) 1 8 Tryz.underlying26 hi0 hz0 hz1 hz2 rfl (by decide) _ 0 [] rfl (N7 w _ _) a 0 cap [] rfl hl HC h1 (by unfold maxLen;omega) (by omega) (by simp) ?_);intro v' w' hown hgrow _ _;have HOWN:=hh9 hown;have HG:Hid (World.grownBy _ w' (some w.heap.size)):=hgrow;clear hown hgrow)
   go_ret;have hb:Below w.heap.size w w':=((zbE _ _).alloc (zbA _) _).grown HG.out (by simp) (fun b e=>by have:=zbB e;omega);have ho:=HOWN.out;rw[Nat.zero_add,List.nil_append]at ho;exact⟨_,rfl,ho,hb⟩
 ·have HC:∀ (j:Nat) (u:Value),xs[j]?=some u->(w.alloc (.cells #[] 3)).cell? ((⟨g,off,none⟩:Addr).add j)=some u:=fun j u hj=>by
   have e:(⟨g,off,none⟩:Addr).add j=⟨g,off+j,none⟩:=by cases j<;>simp[Addr.add]
   rw[e];exact jr (g4 j u hj) _
  go_enter Tryz.func70,Tryz.ntmps70;go_wp2_with (at_builtin;go_loud (refine wpList_append_own_at _ rfl _ _ 26 rfl w.heap.size 3 i0 (.int .i64 0) 1 8 Tryz.underlying26 hi0 hz0 hz1 hz2 rfl (by decide) _ 0 [] rfl (N7 w _ _) ⟨g,off,none⟩ n cap xs rfl hl HC h1 (by unfold maxLen;omega) (by omega) (by simp) ?_);intro v' w' hown hgrow _ _;have HOWN:=hh9 hown;have HG:Hid (World.grownBy _ w' (some w.heap.size)):=hgrow;clear hown hgrow)
  go_ret;have hb:Below w.heap.size w w':=((zbE _ _).alloc (zbA _) _).grown HG.out (by simp) (fun b e=>by have:=zbB e;omega);have ho:=HOWN.out;rw[Nat.zero_add,List.nil_append]at ho;exact⟨_,rfl,ho,hb⟩
end Go.Proofs.YtahibnnhjahmnaaGreatDoor
