/- Part 24 of what the laws of the grammar rest on. -/
import Derived.Test.YtahibnnhjahmnaaGreatDoorA23
import Derived.Maps.OwnIn
set_option linter.all false
set_option maxRecDepth 100000
set_option maxHeartbeats 8000000
namespace Go.Proofs.YtahibnnhjahmnaaGreatDoor
open Go.RowKit Go.Shelf
attribute [local go_sem] Oper.semAt_some
def kX(B0:Nat)(Ds:List Nat)(W:World):Prop:=Ds.Nodup/\∀ D∈Ds,B0<=D/\W.heap[D]?=some (.deferred (some []))
theorem kX.nil(B0:Nat)(W:World):kX B0 [] W:=⟨.nil,fun D h=>by cases h⟩
theorem kX.lt{B0:Nat}{Ds:List Nat}{W:World}(h:kX B0 Ds W){D:Nat}(hD:D∈Ds):D<W.heap.size:=(zbD.1 (h.2 D hD).2).1
theorem kX.kept{B0:Nat}{Ds:List Nat}{W W':World}(h:kX B0 Ds W)(hk:∀ D,D<W.heap.size->B0<=D->W.heap[D]?=some (.deferred (some []))->W'.heap[D]?=W.heap[D]?):kX B0 Ds W' :=
 ⟨h.1,fun D hD=>⟨(h.2 D hD).1,(hk D (h.lt hD) (h.2 D hD).1 (h.2 D hD).2).trans (h.2 D hD).2⟩⟩
theorem kX.below{B0:Nat}{Ds:List Nat}{W W':World}(h:kX B0 Ds W)(hb:Below W.heap.size W W'):kX B0 Ds W':=h.kept fun D hl _ _=>hb.block D hl
theorem kX.own{α:Type}{B0 B:Nat}{Ds:List Nat}(hB:∀ D∈Ds,D<B):OwnFrom B (fun (_:α) W=>kX B0 Ds W):=by
 intro s W W' row h hg hr;exact⟨h.1,fun D hD=>⟨(h.2 D hD).1,(hg.block D (h.lt hD) (fun e=>by have:=hB D hD;have:=(hr D e.symm).1;omega)).trans (h.2 D hD).2⟩⟩
theorem kX.push{B0:Nat}{Ds:List Nat}{W:World}{D:Nat}(h:kX B0 Ds W)(hn:∀ E∈Ds,E<D)(h0:B0<=D)(hD:W.heap[D]?=some (.deferred (some []))):kX B0 (D::Ds) W :=
 ⟨List.nodup_cons.2 ⟨fun hm=>by have:=hn D hm;omega,h.1⟩,fun E hE=>by
  rcases List.mem_cons.1 hE with rfl|hE
  ·exact⟨h0,hD⟩
  ·exact h.2 E hE⟩
theorem Zf{F:Fence}{n:Nat}{fn:Func}{tmps:Array Value}{p b B0:Nat}{ty:TypeId}{q:Int}{R:Ending->World->Prop}{Ds:List Nat}{W:World}
  (hr:fn.results=#[.cell p ty]) (hty:∀ U:World,(isAgg ty).run Tryz.prog U=.ok false U) (hp:tmps.getD p undef=.pointer (some ⟨b,0,none⟩)) (hb:Go.Boxed W b ty (.int .i64 q)) (hM:kX B0 Ds W)
  (hR:∀ W':World,W'.os=W.os->W'.tape=W.tape->W'.output=W.output->W'.heap.size=W.heap.size->(∀ k,k ∉ Ds->W'.heap[k]?=W.heap[k]?)->R (.returned (.int .i64 q)) W') :
  LeavesInM F n Tryz.prog fn tmps R (OG Ds) .returning W:=by
 refine Ze Ds W hM.1 (fun D hD=>(hM.2 D hD).2) (fun W' h1 h2 h3 h4 h5=>⟨_,?_,hR W' h1 h2 h3 h4 h5⟩)
 have hbn:b ∉ Ds:=fun hb'=>by
  have h:=(hM.2 b hb').2;rw[show W.heap[b]?=_ from hb]at h
  cases h
 have hb2:Go.Boxed W' b ty (.int .i64 q):=(h5 b hbn).trans hb;have hc:=hb2.cell;have hp':tmps[p]?.getD undef=.pointer (some ⟨b,0,none⟩):=by simpa using hp
 simp[results,hr,go_sem,hp',hc,hty,Result.andThen]
theorem Tj{B0:Nat}{Ds:List Nat}{W W':World}(hM:kX B0 Ds W)(h5:∀ k,k ∉ Ds->W'.heap[k]?=W.heap[k]?){b:Nat}{c:Array Value}{t:TypeId}{z:Nat × Nat}(h:W.heap[b]?=some (.cells c t z)):W'.heap[b]?=W.heap[b]? :=
 h5 b fun hb=>by
  have h':=(hM.2 b hb).2;rw[h]at h'
  cases h'
theorem Tk{B0:Nat}{Ds:List Nat}{W W':World}(hM:kX B0 Ds W)(h5:∀ k,k ∉ Ds->W'.heap[k]?=W.heap[k]?){b:Nat}(h:b<B0):W'.heap[b]?=W.heap[b]? :=
 h5 b fun hb=>by
  have:=(hM.2 b hb).1;omega
theorem Tm{B0 n0:Nat}{Ds:List Nat}{W W':World}(hM:kX B0 Ds W)(h1:W'.os=W.os)(h2:W'.tape=W.tape)(h3:W'.output=W.output)(h4:W'.heap.size=W.heap.size)(h5:∀ k,k ∉ Ds->W'.heap[k]?=W.heap[k]?)(hn:n0<=B0):Below n0 W W' :=
 ⟨h1,h2,h3,by omega,fun k hk=>Tk hM h5 (by omega)⟩
theorem pJ.kept{W W':World}{base R m:Nat}{v:Value}{ys:List RV}{g:List GR}(h:pJ W base R m v ys g)(h1:W'.heap[R]?=W.heap[R]?)(h2:W'.heap[m]?=W.heap[m]?)(h3:∀ b,v.ownBlock=some b->W'.heap[b]?=W.heap[b]?):pJ W' base R m v ys g:=by
 obtain⟨D,hD,kU⟩:=h.map;exact⟨h1.trans h.blk,AY h.row h3,h.len,⟨D,tQ hD h2,kU⟩,h.name⟩
theorem zpn{w wr W':World}{base R m b3 bc:Nat}{vc:Value}{oO:List RV}{v:Value}{ys:List RV}{g:List GR}{Ds:List Nat}(hR:R<w.heap.size)(hm:m<w.heap.size)(h:CS w wr base R m b3 bc vc oO v ys g)
  (hM:kX w.heap.size Ds (wr.setCell ⟨w.heap.size+1,0,none⟩ (.int .i64 0))) (h1:W'.os=wr.os) (h2:W'.tape=wr.tape) (h3:W'.output=wr.output) (h4:W'.heap.size=wr.heap.size)
  (h5:∀ k,k ∉ Ds->W'.heap[k]?=(wr.setCell ⟨w.heap.size+1,0,none⟩ (.int .i64 0)).heap[k]?) :
  (∃ v' ys',pJ W' base R m v' ys' g/\xu W' ys' g)/\∀ n0,n0<=R->n0<=m->n0<=base->n0<=w.heap.size->Below n0 w W':=by
 have other:∀ b,b≠w.heap.size+1->(wr.setCell ⟨w.heap.size+1,0,none⟩ (.int .i64 0)).heap[b]?=wr.heap[b]?:=fun b hb=>heap_setCell_other _ _ _ _ hb
 have hkc:zap (fun _=>False) wr W':=⟨by omega,fun b c t z _ ht hb=>by
  have hne:b≠w.heap.size+1:=fun e=>by
   subst e;have e:=zbB (hb.symm.trans h.res);simp at e;rw[e.2.1]at ht;exact absurd ht (by unfold KT;decide)
  exact((Tj hM h5 ((other b hne).trans hb)).trans (other b hne)).trans hb⟩
 refine⟨⟨v,ys,h.gB.kept ((Tk hM h5 hR).trans (other R (by omega))) ((Tk hM h5 hm).trans (other m (by omega))) (fun b hb=>?_),h.ex.kept hkc⟩,fun n0 a1 a2 a3 a4=>?_⟩
 ·obtain⟨cur,hcur⟩:=ou h.gB.row hb;have hne:=(h.old b hb).2.1;exact(Tj hM h5 ((other b hne).trans hcur)).trans (other b hne)
 ·exact((h.dP n0 a1 a2 a3 a4).setCell (p:=⟨w.heap.size+1,0,none⟩) (by show n0<=w.heap.size+1;omega) _).trans (Tm hM h1 h2 h3 (by simpa using h4) h5 a4)
theorem bW.at{n i:Nat}{g:List GR}{r:GR}{Rr:Option (List GR)}(h:bW n i g Rr)(hr:g[i]?=some r):(jw g (bn r.expr)=none/\Rr=none)\/∃ n' g',n=n'+1/\jw g (bn r.expr)=some g'/\bW n' (i+1) g' Rr:=by
 cases h with
 |done h=>have:=(zbF.1 hr).1;omega
 |fail h1 h2 =>
  rw[hr]at h1;have e:=zbB h1;subst e;exact .inl ⟨h2,rfl⟩
 |step h1 h2 h3 =>
  rw[hr]at h1;have e:=zbB h1;subst e;exact .inr ⟨_,_,rfl,h2,h3⟩
theorem Zg{g:List GR}{xs ys:List (List Int)}(h:xs <+: ys)(hn:jw g xs=none):jw g ys=none:=by
 obtain⟨t,rfl⟩:=h;rw[Nz,hn];rfl
theorem dX.slices{W:World}{P:Nat->Prop}{X:XV}{t:Tree}(hE:dX W P X t):(∃ a n c,X.ns=.slice a n c)/\∃ a n c,X.ks=.slice a n c:=by
 cases hE with
 |mk vs h0 hl h1 h2 h3 h4 =>
  constructor
  ·rcases h1 with ⟨_,a,cap,h⟩|⟨g',o',cap',h,_⟩
   ·exact⟨_,_,_,h⟩
   ·exact⟨_,_,_,h⟩
  ·rcases h2 with ⟨_,a,cap,h⟩|⟨g',o',cap',h,_⟩
   ·exact⟨_,_,_,h⟩
   ·exact⟨_,_,_,h⟩
theorem Tn{B:Nat}{W W':World}(h:Below W.heap.size W W'):KeepsFrom B W W':=⟨h.size,fun k o _ hk _=>(h.block k (zbD.1 hk).1).trans hk⟩
theorem Tp:∀ (i:Nat) (r:GR),fJ[i]?=some r->dep r.expr<=9000/\(bn r.expr).length<=1000000:=fun i r h=>by
 have h:=zbI h;unfold fJ at h;simp only[List.mem_cons,List.not_mem_nil,or_false]at h;rcases h with rfl|rfl|rfl|rfl|rfl|rfl|rfl|rfl|rfl|rfl|rfl|rfl|rfl|rfl|rfl|rfl<;>simp[jh,rP,jK,dH,mX,bZ,dep,bn]
theorem Zh(pre:List NX)(x:NX):NX.vals (pre++[x])=NX.vals pre++[x.1]:=by unfold NX.vals;simp
theorem Tq{g0 g:List GR}{pre:List NX}{x:NX}(h:jw g0 (NX.vals pre)=some g):jw g0 (NX.vals (pre++[x]))=dO g x.1:=by
 rw[Zh,Nz,h];show (dO g x.1).bind _=_
 cases dO g x.1<;>rfl
theorem zri{w:World}{base R m n:Nat}{v:Value}{ys:List RV}{g:List GR}{Rr:Option (List GR)}(hG:pJ w base R m v ys g)(hex:xu w ys g)(hR:R<base)(hm:m<base)(hne:R≠m)(hbase:base<=w.heap.size)(hC:bW n 0 g Rr)(hlen:g.length+pF g<=1000000) :
  CallsIn Fence.wide 6 Tryz.prog 32 #[.pointer (some ⟨R,0,none⟩)] w (Zd base R m Rr w):=by
 have HG:=hh9 hG;have OH:=hh9 hex;have HC:=hh9 hC
 have hvl:∀ b,v.ownBlock=some b->b<w.heap.size:=fun b hb=>by
  obtain⟨cur,hcur⟩:=ou hG.row hb;exact(zbD.1 hcur).1
 have Kc:=hh9 hvl;have HB0:Hid (Below w.heap.size w ((w.alloc (.cells #[.pointer (some ⟨R,0,none⟩)] 97)).alloc (.cells #[.int .i64 0] 49))):=((zbE _ _).alloc (zbA _) _).alloc (by simp) _;have bP:=(Boxed.new w 97 (.pointer (some ⟨R,0,none⟩))).alloc (.cells #[.int .i64 0] 49);have bE:=Boxed.new (w.alloc (.cells #[.pointer (some ⟨R,0,none⟩)] 97)) 49 (.int .i64 0);rw[World.size_alloc]at bE;have HBP:=hh9 bP;have pK:=hh9 bE;clear hG hex hC hvl bP bE;refine callsIn_of_wp_marks Tryz.func32 rfl trivial ?_ rfl;simp only[Tryz.ntmps32,List.size_toArray,List.length_cons,List.length_nil,Nat.reduceAdd,Nat.reduceSub,Array.replicate_succ,Array.replicate_zero,List.push_toArray,List.append_toArray,List.nil_append,List.cons_append]
 gi_wp2_with (refine⟨trivial,?_⟩;gi_at_call 51;refine(callsIn_wide.2 (qax _)).mono ?_;rintro e w1 ⟨vc,oO,rfl,hcr,hb1⟩;obtain⟨gc,vB,rfl⟩:=zrh hcr;have OI:=hh9 hcr;have HB1:=hh9 hb1;clear hcr hb1)
 have hz:((w.alloc (.cells #[.pointer (some ⟨R,0,none⟩)] 97)).alloc (.cells #[.int .i64 0] 49)).heap.size=w.heap.size+2:=by simp
 have hz1:w.heap.size+2<=w1.heap.size:=by
  have:=HB1.out.size;rwa[hz]at this
 have AZ:Below w1.heap.size w1 (w1.alloc (.cells #[.slice (some ⟨gc,0,none⟩) 16 vB] 25)):=(zbE _ _).alloc (zbA _) _;have hB1:=aJ HB0.out HB1.out
 have hstart:CS w (w1.alloc (.cells #[.slice (some ⟨gc,0,none⟩) 16 vB] 25)) base R m w1.heap.size (w.heap.size+2) (.slice (some ⟨gc,0,none⟩) 16 vB) oO v ys g:=by
  have hcr:=OI.out;rw[hz]at hcr;have hgc:=lD hcr.1 gc rfl;have KP:=HB1.out;refine⟨(AZ.block _ (by omega)).trans ((KP.block _ (by rw[hz];omega)).trans HBP.out),(AZ.block _ (by omega)).trans ((KP.block _ (by rw[hz];omega)).trans pK.out),Boxed.new w1 _ _,hcr.below AZ,(HG.out.below hB1).below AZ,(OH.out.kept (zap.below hB1)).kept (zap.below AZ),fun b hb hb'=>?_,fun b hb=>?_,fun n0 _ _ _ h4=>(aJ hB1 AZ).mono h4⟩
  ·have:=Kc.out b hb;have:gc=b:=zbB hb';omega
  ·have:=Kc.out b hb;omega
 have oK:=hh9 hstart;clear AZ hB1 hstart hz;refine wpIn_loop (fun a' wr=>∃ (u4 Ip KQ KR Zi Zj Zk u16 Zl Zm Zn u20 u21 u22 u23 u24 u25 u26 u27:Value) (Ds:List Nat) (i:Nat) (v:Value) (ys:List RV) (g':List GR) (nl:Nat),(u4=.int .i64 i/\nl+i=n/\i<=1000000/\Hid (bW nl i g' Rr)/\g'.length+pF g'<=1000000/\Hid (CS w wr base R m w1.heap.size (w.heap.size+2) (.slice (some ⟨gc,0,none⟩) 16 vB) oO v ys g')/\Hid (kX w.heap.size Ds wr))/\a'={ tmps:=#[.pointer (some ⟨R,0,none⟩),.pointer (some ⟨w.heap.size,0,none⟩),.pointer (some ⟨w.heap.size+1,0,none⟩),.pointer (some ⟨w1.heap.size,0,none⟩),u4,undef,undef,undef,undef,.slice (some ⟨gc,0,none⟩) 16 vB,Ip,KQ,KR,Zi,Zj,Zk,u16,Zl,Zm,Zn,u20,u21,u22,u23,u24,u25,u26,u27,undef,undef,undef,undef,undef,undef,undef,undef,undef,undef,undef,undef,undef,undef,undef,undef,undef,undef,undef,undef,undef,undef],defers:=OG Ds }) (fun a' _=>n-(intOf (a'.tmps.getD 4 undef)).toNat) ?_ ?_
 ·exact⟨.int .i64 0,undef,undef,undef,undef,undef,undef,undef,undef,undef,undef,undef,undef,undef,undef,undef,undef,undef,undef,[],0,v,ys,g,n,⟨rfl,by omega,by omega,HC,hlen,oK,kX.nil _ _⟩,rfl⟩
 ·rintro a' wr ⟨u4,Ip,KQ,KR,Zi,Zj,Zk,u16,Zl,Zm,Zn,u20,u21,u22,u23,u24,u25,u26,u27,Ds,i,v,ys,g',nl,⟨rfl,hnl,Zo,HCM,hlen',rU,HM⟩,rfl⟩;obtain⟨va,KS,rfl⟩:∃ a c,v=.slice a g'.length c:=qG rU.out.gB.row
  have p1:=rU.out.box.cell;obtain⟨c0,c1,hRl⟩:=rU.out.gB.cells;by_cases hlt:i<g'.length
  ·have q1:decide ((i:Int)<(g'.length:Int))=true:=zbN (by omega);obtain⟨Y,hY⟩:∃ y,ys[i]?=some y:=⟨_,zbC (by rw[rU.out.gB.len];exact hlt)⟩
   obtain⟨r,hr⟩:∃ y,g'[i]?=some y:=⟨_,zbC hlt⟩
   obtain⟨hE,ER,Fw⟩:=rU.out.ex i Y r hY hr
   obtain⟨gb,hgb⟩:∃ gb,va=some ⟨gb,0,none⟩:=by
    rcases fB rU.out.gB.row with ⟨_,h0⟩|⟨g1,Fx,h1⟩
    ·omega
    ·injection h1 with h1
     exact⟨_,h1⟩
   subst hgb;have CX:∀ (j:Nat) (u:Value),j<7->Y.cells[j]?=some u->wr.cell? ⟨gb,i*7+j,none⟩=some u:=fun j u hj hu=>eZ rU.out.gB.row ((uI ys i j Y hY hj).trans hu)
   obtain⟨nm,⟨k,tx,nv,lo,hi,kv⟩⟩:=Y;obtain⟨⟨na,nn,nc,hns⟩,ka,kn,kc,hks⟩:=hE.slices;simp only[]at hns hks;have hw3:w.heap.size+2<=wr.heap.size:=by have:=rU.out.res.lt;omega
   subst hns hks;have e1:=CX 1 _ (by omega) rfl;have e2:=CX 2 _ (by omega) rfl;have e3:=CX 3 _ (by omega) rfl;have e4:=CX 4 _ (by omega) rfl;have e5:=CX 5 _ (by omega) rfl;have e6:=CX 6 _ (by omega) rfl;simp only[]at e1 e2 e3 e4 e5 e6;have HX:=hh9 (fun W=>Rv (w:=W) ⟨k,tx,.slice na nn nc,lo,hi,.slice ka kn kc⟩ rfl rfl);have hba:Below wr.heap.size wr (wr.alloc (aB k lo hi tx (.slice na nn nc) (.slice ka kn kc))):=(zbE _ _).alloc (zbA _) _;have bX:gK (wr.alloc (aB k lo hi tx (.slice na nn nc) (.slice ka kn kc))) wr.heap.size ⟨k,tx,.slice na nn nc,lo,hi,.slice ka kn kc⟩:=zbO wr (aB k lo hi tx (.slice na nn nc) (.slice ka kn kc));have hstop:=Ru (Bs:=wr.heap.size) (M:=fun _=>False) (P:=fun _=>True) (fun _ h=>h.elim) (fun _ _ h=>h) (fun h=>h) (hE.kept (P':=fun _=>True) (zap.below (M:=fun _=>False) hba) (fun b hb _=>⟨fun h=>h,trivial⟩)) bX (by omega);have Tt:m<wr.heap.size:=by obtain⟨D,hD,_⟩:=rU.out.gB.map;exact hD.lt
   have iM:Hid (bn r.expr=bn r.expr):=rfl;obtain⟨NM,hNM⟩:∃ NM,NM=bn r.expr:=⟨_,rfl⟩
   rw[<- hNM]at hstop Fw;have HST:=hh9 hstop;have KU:=hh9 hNM;have HR:=hh9 hr;have ow:=hh9 hba;unfold aB at HX HST ow;clear CX bX hE hba hY hr hstop hNM iM
   gi_wp2_with (refine⟨trivial,?_⟩;gi_at_call 14;refine(callsIn_wide.2 (HX.out _)).mono ?_;rintro e w' ⟨rfl,rfl⟩)
   refine wpIn_rangeFunc_ownG rfl (by omega) (gf:=22) (lb:=#[.pointer (some ⟨wr.heap.size,0,none⟩)]) rfl trivial (enters_of Tryz.func22 (by kernel_rfl) rfl)
    HST.out Rw (fun W l o o' _ h ho _=>zap.put W l o o' h ho) (zbE _ _) (fun _=>rfl)
    (fun pre W=>KN w base R m w1.heap.size (w.heap.size+2) (.slice (some ⟨gc,0,none⟩) 16 vB) oO g' pre W/\kX w.heap.size Ds W)
    (fun c pre W=>KO w R m base g' c pre W/\kX w.heap.size Ds W)
    (OwnFrom.and (qet (by simp;omega) (by have:=ow.out.size;omega)) (kX.own (fun D hD=>by have:=HM.out.lt hD;simp;omega)))
    (fun c=>OwnFrom.and (qeu (by have:=ow.out.size;omega) c) (kX.own (fun D hD=>by have:=HM.out.lt hD;simp;omega)))
    ⟨⟨_,_,_,rfl,rU.out.below ow.out⟩,HM.out.below ow.out⟩
    ?a1 ?assign ?body ?done ?stop
   case assign =>
    intro l x W K hK;gi_wp2;exact hK
   case body =>
    rintro l pre ⟨x,hx⟩ W ⟨⟨v2,ys2,g2,ha,sP⟩,hM2⟩ hlt2;have vC:=hh9 sP;have tK:=hh9 hM2;have HA:=hh9 ha;have b1:=sP.box.cell;have b3:=sP.core.cell;have b4:=sP.gB.cells.2.1;obtain⟨D,hD,kU⟩:=sP.gB.map;have hkey:=Hw hx;have hhas:=(kU x hx).1;have wL:=hh9 hx;clear sP hM2 ha kU
    cases hf:bI g2 x with
    |some j =>
     rw[hf]at hhas;change Maps.has D (eD x)=true at hhas
     gi_wp2_with (gi_at_lookup;refine wpListIn_lookup_own_ok_int _ rfl _ _ 56 rfl 9 3 .i64 yP Tryz.underlying56 Tryz.underlying3 (NW _) m g2.length D rfl hD _ _ rfl hkey ?_;intro c KW hcw;rw[hhas])
     refine⟨KeepsFrom.refl _ _,zap.refl _ _,⟨_,ys2,g2,?_,vC.out⟩,tK.out⟩;rw[Tq HA.out];unfold dO;rw[show bI g2 x=some j from hf]
    |none =>
     rw[hf]at hhas;change Maps.has D (eD x)=false at hhas;have OJ:=hh9 (fun U (h:qF U (.slice (some ⟨gc,0,none⟩) 16 vB) oO fJ)=>Zb (w:=U) h hx);obtain⟨S,hS⟩:∃ S,S=ak x:=⟨_,rfl⟩
     cases hcf:bI fJ x with
     |none =>
      rw[ED hcf]at OJ
      gi_wp2_with (first
       |(gi_at_lookup;refine wpListIn_lookup_own_ok_int _ rfl _ _ 56 rfl 9 3 .i64 yP Tryz.underlying56 Tryz.underlying3 (NW _) m g2.length D rfl hD _ _ rfl hkey ?_;intro c KW hcw;rw[hhas])
       |(refine⟨trivial,?_⟩;gi_at_call 17;refine(CallsIn.inRound l (callsIn_wide.2 (OJ.out _ vC.out.cr.rules))).mono ?_;rintro e W1 ⟨rfl,hb⟩;have oP:=hh9 (vC.out.below hb);have HB1:=hh9 hb;have b5:=oP.out.res.frozen;have b6:=oP.out.res.cell;clear hb))
      have hB3:w.heap.size+1<(wr.alloc (.cells #[.int .i64 k,.string tx,.slice na nn nc,.int .i64 lo,.int .i64 hi,.slice ka kn kc] 29)).heap.size:=by simp;omega
      have hM4:kX w.heap.size Ds (W1.setCell ⟨w.heap.size+1,0,none⟩ (.int .i64 40)):=(tK.out.below HB1.out).kept fun D hl h0 hD=>heap_setCell_other _ _ _ _ (fun e=>by
       subst e;rw[show W1.heap[w.heap.size+1]?=_ from oP.out.res]at hD
       cases hD)
      refine⟨(Tn HB1.out).trans (KeepsFrom.of_grownBy (grownBy_setCell' W1 (w.heap.size+1) _) (fun b e=>by have:=zbB e;omega)),⟨rfl,?_,oP.out.res.set _,fun n0 a1 a2 a3 a4=>(oP.out.dP n0 a1 a2 a3 a4).setCell (p:=⟨w.heap.size+1,0,none⟩) (by show n0<=w.heap.size+1;omega) _⟩,hM4⟩;rw[Tq HA.out];unfold dO;rw[show bI g2 x=none from hf];show (match bI fJ x with|none=>none|some c=>(fJ[c]?).map fun r=>g2++[r])=none
      rw[hcf]
     |some j =>
      obtain⟨⟨rc,hrc,hrn⟩,_⟩:=tN.1 hcf;rw[Dq hcf]at OJ;have hj:j<16:=Qn hcf;have q2:decide ((j:Int)<0)=false:=zbM (by omega);obtain⟨Yc,Zp⟩:∃ y,oO[j]?=some y:=⟨_,zbC (by rw[vC.out.cr.2.1];exact hj)⟩
      have zaG:Tryz.prog.follows .mixedOrders=true:=by kernel_rfl
      gi_wp2_with (first
       |(gi_at_lookup;refine wpListIn_lookup_own_ok_int _ rfl _ _ 56 rfl 9 3 .i64 yP Tryz.underlying56 Tryz.underlying3 (NW _) m g2.length D rfl hD _ _ rfl hkey ?_;intro c KW hcw;rw[hhas])
       |(refine⟨trivial,?_⟩;gi_at_call 17;refine(CallsIn.inRound l (callsIn_wide.2 (OJ.out _ vC.out.cr.rules))).mono ?_;rintro e W1 ⟨rfl,hb⟩;have oP:=hh9 (vC.out.below hb);have HB1:=hh9 hb;clear hb))
      have Fy:Below W1.heap.size W1 W1.drew:=dJ (zbE _ _) 1;have zy:=hh9 (oP.out.below Fy);have hbW:Below W.heap.size W W1.drew:=aJ HB1.out Fy;have hsz1:=HB1.out.size;have hwW:=vC.out.res.lt;have hm4:m<W1.heap.size:=by obtain⟨D,hD,_⟩:=oP.out.gB.map;exact hD.lt
      obtain⟨hyn,Zq,DX⟩:=zy.out.cr.2.2 j Yc rc Zp hrc;have hok:=Y3 j rc hrc;have KX:dX W1.drew (fun _=>True) Yc.expr rc.expr/\dep rc.expr<=9000/\(bn rc.expr).length<=1000000:=⟨DX.kept (M:=fun _=>False) (zap.refl _ _) (fun b hb _=>⟨id,trivial⟩),Tp j rc hrc⟩
      have h16:fJ.length=16:=by decide +kernel
      have hrow:=oP.out.cr.1;rw[h16]at hrow;have CX:∀ (q:Nat) (u:Value),q<7->Yc.cells[q]?=some u->W1.cell? ⟨gc,j*7+q,none⟩=some u:=fun q u hq hu=>eZ hrow ((uI oO j q Yc Zp hq).trans hu)
      have hs1:=DX.slices;obtain⟨nmc,⟨kk,txc,nvc,loc,hic,kvc⟩⟩:=Yc;obtain⟨⟨na',nn',nc',hns⟩,ka',kn',kc',hks⟩:=hs1;simp only[]at hns hks;subst hns hks;have f0:=CX 0 _ (by omega) rfl;have f1:=CX 1 _ (by omega) rfl;have f2:=CX 2 _ (by omega) rfl;have f3:=CX 3 _ (by omega) rfl;have f4:=CX 4 _ (by omega) rfl;have f5:=CX 5 _ (by omega) rfl;have f6:=CX 6 _ (by omega) rfl;rw[Nat.add_zero]at f0;simp only[]at f0 f1 f2 f3 f4 f5 f6;have d1:=oP.out.box.cell;have d3:=oP.out.core.cell;have Tv:g2.length<=1000000:=by have:=Jz HA.out;omega
      have sQ:=hh9 (X3 (w:=W1.drew) zy.out.gB hR hm hne (by show base<=W1.heap.size;omega) ⟨nmc,⟨kk,txc,.slice na' nn' nc',loc,hic,.slice ka' kn' kc'⟩⟩ rc ⟨hyn,Zq⟩ (by rw[hrn];exact hf) Tv rfl rfl);unfold RV.val RV.arr at sQ;simp only[]at sQ;have Fz:=hh9 KX;have vW:=hh9 hbW;clear CX hrow DX KX Fy hbW hyn Zq hok
      gi_region_with_o (first|(refine⟨trivial,?_⟩;gi_at_call 49;refine(CallsIn.inRound l (callsIn_wide.2 sQ.out)).mono ?_;rintro e W2 ⟨rfl,v3,hG3,hK3,ho3,KY,hb3⟩)|(gi_at_call 49;refine(CallsIn.inRound l (callsIn_wide.2 sQ.out)).mono ?_;rintro e W2 ⟨rfl,v3,hG3,hK3,ho3,KY,hb3⟩))
      all_goals
       gi_wp2;refine⟨⟨?_,?_⟩,(zap.below vW.out).trans hK3,⟨_,_,_,?_,zy.out.added (by omega) (by omega) (by omega) (by omega) Fz.out hG3 hK3 ho3 KY hb3⟩,?_⟩
       ·have:=hK3.1;have:=vW.out.size;omega
       ·intro q o hq ho hoc;have hql:=(zbD.1 ho).1;have h1:=(vW.out.block q hql).trans ho;refine(ho3 q (by show q<W1.heap.size;omega) (by simp at hq;omega) (by simp at hq;omega) (fun e=>?_)).trans h1;obtain⟨cur,hcur⟩:=ou zy.out.gB.row e;rw[hcur]at h1;have e:=zbB h1;subst e
        cases hoc
       ·rw[Tq HA.out];unfold dO;rw[show bI g2 x=none from hf];show (match bI fJ x with|none=>none|some c=>(fJ[c]?).map fun r=>g2++[r])=_
        rw[hcf];show (fJ[j]?).map _=_
        rw[hrc];rfl
       ·refine(tK.out.below vW.out).kept (fun D hl h0 hD=>ho3 D hl (by omega) (by omega) (fun e=>?_));obtain⟨cur,hcur⟩:=ou zy.out.gB.row e;rw[hcur]at hD
        cases hD
   case done =>
    rintro D xs W hD hxs ⟨⟨v2,ys2,g2,ha,sP⟩,hM2⟩ hK;rw[hxs,KU.out]at ha;obtain⟨n',g3,rfl,OL,OM⟩:=(HCM.out.at HR.out).resolve_left (fun h=>by rw[ha]at h;cases h.1);have e:=zbB (OL.symm.trans ha);subst e;have hbd:=Jz ha;have Cv:=hM2.push (D:=D) (fun E hE=>by have:=HM.out.lt hE;simp at hD;omega) (by have:=ow.out.size;simp at hD;omega) hK;gi_wp2;refine⟨⟨_,_,_,_,_,_,_,_,_,_,_,_,_,_,_,_,_,_,_,D::Ds,i+1,v2,ys2,_,n',⟨by go_num,by omega,by omega,hh9 OM,by omega,hh9 sP,hh9 Cv⟩,rfl⟩,?_⟩;simp[intOf];omega
   case stop =>
    rintro D c pre W hD hpre ⟨⟨rfl,hnone,ru,hbel⟩,hM2⟩ hK;have Cv:=hM2.push (D:=D) (fun E hE=>by have:=HM.out.lt hE;simp at hD;omega) (by have:=ow.out.size;simp at hD;omega) hK
    have hRn:Rr=none:=by
     rw[KU.out]at hpre;rcases HCM.out.at HR.out with h|⟨n',g3,_,OL,_⟩
     ·exact h.2
     ·rw[Zg hpre hnone]at OL
      cases OL
    gi_wp2;refine Zf (Ds:=D::Ds) rfl (fun U=>by kernel_rfl) rfl ru Cv (fun W' h1 h2 h3 h4 h5=>⟨fun _=>rfl,fun g1 hg1=>by(rw[hRn]at hg1;cases hg1),fun n0 a1 a2 a3 a4=>(hbel n0 a1 a2 a3 a4).trans (Tm Cv h1 h2 h3 h4 h5 a4)⟩)
  ·have hfin:nl=0/\Rr=some g':=by
    cases HCM.out with
    |done h=>exact⟨rfl,rfl⟩
    |fail h1=>have:=(zbF.1 h1).1;omega
    |step h1=>have:=(zbF.1 h1).1;omega
   have p2:=rU.out.res.cell;have f2:=rU.out.res.frozen;have q1:decide ((i:Int)<(g'.length:Int))=false:=zbM (by omega);gi_wp2
   have Cv:kX w.heap.size Ds (wr.setCell ⟨w.heap.size+1,0,none⟩ (.int .i64 0)):=HM.out.kept fun D hl h0 hD=>heap_setCell_other _ _ _ _ (fun e=>by
    subst e;rw[show wr.heap[w.heap.size+1]?=_ from rU.out.res]at hD
    cases hD)
   refine Zf rfl (fun U=>by kernel_rfl) rfl (rU.out.res.set _) Cv (fun W' h1 h2 h3 h4 h5=>?_);obtain⟨z1,z2⟩:=zpn (by omega) (by omega) rU.out Cv h1 h2 h3 (by simpa using h4) h5;exact⟨fun h=>by(rw[hfin.2]at h;cases h),fun g1 hg1=>by(rw[hfin.2]at hg1;have e:=zbB hg1;subst e;exact⟨rfl,z1⟩),z2⟩
theorem zpp{w:World}{base R m n:Nat}{v:Value}{ys:List RV}{g:List GR}{Rr:Option (List GR)}(hG:pJ w base R m v ys g)(hex:xu w ys g)(hR:R<base)(hm:m<base)(hne:R≠m)(hbase:base<=w.heap.size)(hC:bW n 0 g Rr)(hlen:g.length+pF g<=1000000) :
  Calls Tryz.prog 32 #[.pointer (some ⟨R,0,none⟩)] w (Zd base R m Rr w):=(callsIn_wide (n:=6)).1 (zri hG hex hR hm hne hbase hC hlen)
end Go.Proofs.YtahibnnhjahmnaaGreatDoor
