/- Part 30 of what the laws of the grammar rest on. -/
import Derived.Test.YtahibnnhjahmnaaGreatDoorA24
set_option linter.all false
set_option maxRecDepth 100000
set_option maxHeartbeats 8000000
namespace Go.Proofs.YtahibnnhjahmnaaGreatDoor
open Go.RowKit Go.Shelf Go.Maps
attribute [local go_sem] Oper.semAt_some
def wu:Nat->List GR->List (Nat × List Int)
 |_,[]=>[]
 |k,r::g=>(k,r.name)::wu (k+1) g
theorem O9:∀ (k:Nat) (g:List GR),(wu k g).length=g.length
 |_,[]=>rfl
 |k,r::g=>by simp[wu,O9 (k+1) g]
theorem zt9:∀ (k:Nat) (g:List GR) (i:Nat) (r:GR),g[i]?=some r->(wu k g)[i]?=some (k+i,r.name)
 |_,[],i,r,h=>by simp at h
 |k,u::g,0,r,h=>by
  simp at h;subst h;rfl
 |k,u::g,i+1,r,h=>by
  simp at h;have:=zt9 (k+1) g i r h;simp only[wu,List.getElem?_cons_succ,this]
  congr 2
  omega
def Eb(l:List (Nat × List Int)):DataW Unit:=l.foldl (fun D x=>D.put (eD x.2) (.lit (.int .i64 (x.1:Int)))) (.map [])
theorem zn3(l:List (Nat × List Int))(x:Nat × List Int):Eb (l++[x])=(Eb l).put (eD x.2) (.lit (.int .i64 (x.1:Int))):=by simp[Eb]
theorem Pb(x:List Int):WideAt.IsKeyLit (eD x):=by unfold eD;trivial
theorem zyf{D:DataW Unit}(h:IsMap D)(k:Lit)(d:DataW Unit):IsMap (D.put k d):=by
 obtain⟨l,rfl⟩:=h;exact⟨_,rfl⟩
theorem zli(l:List (Nat × List Int)):IsMap (Eb l):=by
 unfold Eb
 have:∀ (l:List (Nat × List Int)) (D:DataW Unit),IsMap D->IsMap (l.foldl (fun D x=>D.put (eD x.2) (.lit (.int .i64 (x.1:Int)))) D):=fun l=>by
  induction l with
  |nil=>exact fun D h=>h
  |cons x l ih=>exact fun D h=>ih _ (zyf h _ _)
 exact this l _ ⟨[],rfl⟩
theorem zq3:∀ (g:List GR) (k:Nat),(∀ r∈g,bJ r.name)->∀ x,bJ x->Maps.has (Eb ((wu k g).reverse)) (eD x)=(bI g x).isSome/\∀ i,bI g x=some i->(Eb ((wu k g).reverse)).atKey (eD x) (.lit (.int .i64 0))=.lit (.int .i64 ((k+i:Nat):Int))
 |[],k,_,x,hx=>⟨rfl,fun i h=>by simp[bI]at h⟩
 |r::g,k,hg,x,hx=>by
  have ih:=zq3 g (k+1) (fun u hu=>hg u (by simp[hu])) x hx;have e:(wu k (r::g)).reverse=(wu (k+1) g).reverse++[(k,r.name)]:=by simp[wu]
  rw[e,zn3];by_cases h:r.name=x
  ·subst h;rw[Maps.has_put_same (zli _) (Pb _),Maps.atKey_put_same (zli _) (Pb _)];simp only[bI,if_pos];refine⟨rfl,fun i hi=>?_⟩;have:=zbB hi;subst this;rfl
  ·have hk:eD x≠eD r.name:=fun h2=>h (NY hx (hg r (by simp)) h2).symm
   rw[Maps.has_put_other hk,Maps.atKey_put_other hk];simp only[bI,if_neg h];refine⟨by rw[ih.1];cases bI g x<;>rfl,fun i hi=>?_⟩
   cases hf:bI g x with
   |none=>rw[hf]at hi;cases hi
   |some j =>
    rw[hf]at hi;have:=zbB hi;subst this;rw[ih.2 j hf]
    congr 2
    push_cast
    omega
abbrev FX:={ x:Nat × RV × List Int // x.2.1.name=ak x.2.2/\bJ x.2.2/\x.1<=1000000/\(∃ a n c,x.2.1.expr.ns=.slice a n c)/\∃ a n c,x.2.1.expr.ks=.slice a n c }
def FX.keys(l:List FX):List (Nat × List Int):=l.map fun x=>(x.1.1,x.1.2.2)
def FX.enc(x:FX):Array Value:=#[.int .i64 x.1.1,x.1.2.1.val]
def zP(n0 Bs:Nat)(W W':World):Prop:=Below n0 W W'/\∀ (c:Array Value) (t:TypeId) (z:Nat × Nat),W.heap[Bs]?=some (.cells c t z)->W'.heap[Bs]?=some (.cells c t z)
theorem zP.t{n0 Bs:Nat}{A B C:World}(h:zP n0 Bs A B)(k:zP n0 Bs B C):zP n0 Bs A C:=⟨h.1.trans k.1,fun c t z hb=>k.2 c t z (h.2 c t z hb)⟩
theorem zP.put{n0 Bs:Nat}{w:World}(hn:n0<=w.heap.size)(W:World)(l:Nat)(o o':Obj)(hl:w.heap.size<=l)(ho:W.heap[l]?=some o)(hc:o.isCells=false)(hw:o.isWalk=false):zP n0 Bs W (W.putObj l o') :=
 ⟨belowK_b hn W l o o' hl ho hc hw,fun c t z hb=>by
  rw[World.putObj_heap_other (fun e=>by
   subst e;rw[ho]at hb;have e:=zbB hb;subst e
   cases hc)]
  exact hb⟩
theorem zq4{l Bs n0:Nat}{w:World}{v:Value}{ys:List RV}{g:List GR}(h:qF w v ys g)(xI:g.length<=1000000)(hn0:w.heap.size<=n0){J Jx:List FX->World->Prop}
  (hY:∀ pre (x:FX) W,J pre W->pre.length<g.length->YieldAt Fence.wide 4 Tryz.prog l (FX.enc x) W fun e W'=>(e=.returned (.bool true)/\J (pre++[x]) W'/\zP n0 Bs W W')\/(e=.returned (.bool false)/\Jx (pre++[x]) W'))
  (W:World) (hW:Below w.heap.size w W) (BQ:Go.Boxed W Bs 25 v) (h0:J [] W) :
  CallsIn Fence.wide 5 Tryz.prog 59 #[.func (.yield l) #[] #[],.pointer (some ⟨Bs,0,none⟩)] W (fun e W'=>(∃ v,e=.returned v)/\((∃ xs,FX.keys xs=(wu 0 g).reverse/\J xs W')\/(∃ p,True/\Jx p W'))):=by
 obtain⟨h1,h2,h3⟩:=h;have H2:=hh9 h2;have H3:=hh9 h3;have HY:=hh9 hY;obtain⟨n,hn⟩:∃ n,n=g.length:=⟨_,rfl⟩
 rw[<- hn]at h1 xI;have HN:=hh9 hn;have c0:=BQ.cell;clear h2 h3 hn hY;rcases h1 with ⟨rfl,a,cap,rfl⟩|⟨b,off,cap,rfl,g1,g2,g3,g4⟩
 ·obtain rfl:g=[]:=List.length_eq_zero_iff.1 HN.out.symm;refine callsIn_of_wp Tryz.func59 rfl trivial ?_ rfl;simp only[Tryz.ntmps59,List.size_toArray,List.length_cons,List.length_nil,Nat.reduceAdd,Nat.reduceSub,Array.replicate_succ,Array.replicate_zero,List.push_toArray,List.append_toArray,List.nil_append,List.cons_append];gi_wp2
  gi_loopw [3] (fun i wr=>i=.int .i64 (-1)/\J [] wr) (fun _ _=>0)
  case atStart=>exact⟨rfl,h0⟩
  case round =>
   obtain⟨rfl,hJs⟩:=hrel;gi_wp2;go_end0;exact⟨⟨_,rfl⟩,.inl ⟨[],rfl,hJs⟩⟩
 ·unfold maxLen at g2;have G4:=hh9 g4;clear g4;refine callsIn_of_wp Tryz.func59 rfl trivial ?_ rfl;simp only[Tryz.ntmps59,List.size_toArray,List.length_cons,List.length_nil,Nat.reduceAdd,Nat.reduceSub,Array.replicate_succ,Array.replicate_zero,List.push_toArray,List.append_toArray,List.nil_append,List.cons_append];gi_wp2
  gi_loopw [3] (fun i wr=>∃ (k:Nat) (xs:List FX),k<=n/\i=.int .i64 ((k:Int)-1)/\Hid (FX.keys xs=((wu 0 g).drop k).reverse)/\Hid (J xs wr)/\Hid (zP n0 Bs W wr)) (fun i _=>(intOf i+1).toNat)
  case atStart=>exact⟨n,[],zbA _,by go_num,by(rw[List.drop_of_length_le (by rw[O9,<- HN.out];exact zbA _)];exact rfl),h0,zbE _ _,fun _ _ _ h=>h⟩
  case round =>
   obtain⟨k,xs,hk,rfl,HX,HJ,HK⟩:=hrel;have c1:=(show Go.Boxed wr Bs 25 (.slice (some ⟨b,off,none⟩) n cap) from HK.out.2 _ _ _ BQ).cell;by_cases hlt:0<k
   ·obtain⟨i,rfl⟩:∃ i,k=i+1:=⟨k-1,by omega⟩
    have hi1:((i+1:Nat):Int)-1=i:=by omega
    rw[hi1];obtain⟨Y,hY⟩:∃ y,ys[i]?=some y:=⟨_,zbC (by rw[H2.out,<- HN.out];omega)⟩
    obtain⟨r,hr⟩:∃ y,g[i]?=some y:=⟨_,zbC (by rw[<- HN.out];omega)⟩
    obtain⟨e1,e2,e3⟩:=H3.out i Y r hY hr;obtain⟨_,_,_,_,_,_,_,r1,r2,_⟩:=e3.forms;obtain⟨a1,d1,s1,_⟩:=r1.slice;obtain⟨a2,d2,s2,_⟩:=r2.slice
    have CX:∀ (j:Nat) (u:Value),j<7->Y.cells[j]?=some u->wr.cell? ⟨b,off+(i*7+j),none⟩=some u:=fun j u hj hu =>
     (HK.out.1.cell (p:=⟨b,off+(i*7+j),none⟩) (by show b<n0;omega)).trans ((hW.cell (p:=⟨b,off+(i*7+j),none⟩) g3).trans (G4.out _ u ((uI ys i j Y hY hj).trans hu)))
    have HXP:Hid (FX.keys (xs++[(⟨(i,Y,r.name),e1,e2,by show i<=1000000;omega,⟨_,_,_,s1⟩,⟨_,_,_,s2⟩⟩:FX)])=((wu 0 g).drop i).reverse):=by
     have h1:=HX.out;have hq:=zt9 0 g i r hr;unfold Hid;rw[List.drop_eq_getElem_cons (zbF.1 hq).1,(zbF.1 hq).2,List.reverse_cons,<- h1];simp[FX.keys]
    have hlx:xs.length<g.length:=by
     have h1:=congrArg List.length HX.out;simp[FX.keys,O9]at h1;have:=HN.out;omega
    obtain⟨fn,tmps,assign,body,hy,hR⟩:=HY.out xs ⟨(i,Y,r.name),e1,e2,by show i<=1000000;omega,⟨_,_,_,s1⟩,⟨_,_,_,s2⟩⟩ wr HJ.out hlx;have HR:=hh9 hR;obtain⟨nm,⟨kk,tx,nv,lo,hi2,kv⟩⟩:=Y;simp only[]at s1 s2;subst s1 s2;unfold FX.enc RV.val RV.arr at hy
    dsimp only at hy
    have f0:=CX 0 _ (by omega) rfl;have f1:=CX 1 _ (by omega) rfl;have f2:=CX 2 _ (by omega) rfl;have f3:=CX 3 _ (by omega) rfl;have f4:=CX 4 _ (by omega) rfl;have f5:=CX 5 _ (by omega) rfl;have f6:=CX 6 _ (by omega) rfl;rw[<- Nat.add_assoc]at f0 f1 f2 f3 f4 f5 f6;rw[Nat.add_zero]at f0;simp only[]at f0 f1 f2 f3 f4 f5 f6;have q1:decide ((i:Int) ≥ 0)=true:=zbN (by omega);clear CX hR e3 r1 r2 hY hr hi1;gi_wp2;refine HR.out.mono ?_;rintro e W3 (⟨rfl,hJ3,hk3⟩|⟨rfl,hJx3⟩)
    ·gi_wp2;go_roundw
     case rel=>exact⟨i,_,by omega,by go_num,HXP,hJ3,HK.out.t hk3⟩
     case measure=>(simp[intOf]<;>omega)
    ·gi_wp2;refine bodyPost_ret (results_none rfl _ _ _) rfl ?_;exact⟨⟨_,rfl⟩,.inr ⟨_,trivial,hJx3⟩⟩
   ·obtain rfl:k=0:=by omega
    gi_wp2;go_end0;exact⟨⟨_,rfl⟩,.inl ⟨xs,HX.out,HJ.out⟩⟩
theorem zro{w:World}{a:Option Addr}{n c:Nat}:CallsIn Fence.wide 5 Tryz.prog 39 #[.slice a n c] w (fun e w'=>e=.returned (.func (.func 59) #[] #[.pointer (some ⟨w.heap.size,0,none⟩)])/\w'=w.alloc (.cells #[.slice a n c] 25)):=by
 refine callsIn_of_wp Tryz.func39 rfl trivial ?_ rfl;simp only[Tryz.ntmps39,List.size_toArray,List.length_cons,List.length_nil,Nat.reduceAdd,Nat.reduceSub,Array.replicate_succ,Array.replicate_zero,List.push_toArray,List.append_toArray,List.nil_append,List.cons_append];gi_wp2;go_ret;exact⟨rfl,rfl⟩
theorem zly{w0 w:World}{Bs n0:Nat}{v:Value}{ys:List RV}{g:List GR}(h:qF w v ys g)(xI:g.length<=1000000)(hn0:w.heap.size<=n0)(hw:Below w.heap.size w w0)(hB:Go.Boxed w0 Bs 25 v) :
  SeqStopsK Fence.wide 5 Tryz.prog 59 #[.pointer (some ⟨Bs,0,none⟩)] FX.enc (zP n0 Bs) (fun xs=>FX.keys xs=(wu 0 g).reverse) (fun _=>True) g.length w0 :=
 fun l J Jx W hW hJ _ hY hJ0=>zq4 h xI hn0 hY W (hw.trans (hW.mono hw.size)) ((hW.block _ hB.lt).trans hB) hJ0
def Pf(w:World)(pre:List FX)(W:World):Prop :=
 (Go.Boxed W (w.heap.size+1) 56 (.map (some w.heap.size))/\W.ownsMap Tryz.prog 9 (plainElem Tryz.prog 3) w.heap.size pre.length (Eb (FX.keys pre)))/\Below w.heap.size w W
def zlj(g:List GR)(w:World)(e:Ending)(w':World):Prop :=
 ∃ D:DataW Unit,e=.returned (.map (some w.heap.size))/\w'.ownsMap Tryz.prog 9 (plainElem Tryz.prog 3) w.heap.size g.length D/\p8 D g/\Below w.heap.size w w'
theorem zq5(w:World)(n:Int):(Instr.makeMap 56 (some (.int .i64 n))).run Tryz.prog w=.ok (.map (some w.heap.size)) (w.alloc (.map #[] 0)):=by
 simp[Instr.makeMap,run_underlying (P:=Tryz.prog) (t:=56) Tryz.underlying56,asInt,asIntOf,Result.andThen]
theorem zv3{w:World}{B:Nat}(hB:w.heap.size+2<=B):OwnFrom B (Pf w):=by
 intro pre W W' row ⟨⟨hb,hm⟩,hbel⟩ hg hr
 exact⟨⟨(hg.block _ hb.lt (fun e=>by have:=(hr _ e.symm).1;omega)).trans hb,tQ hm (hg.block _ hm.lt (fun e=>by have:=(hr _ e.symm).1;omega))⟩,
  hbel.trans ⟨hg.os,hg.tape,hg.output,hg.size,fun k hk=>hg.block k (by have:=hbel.size;omega) (fun e=>by have:=(hr k e.symm).1;omega)⟩⟩
theorem zq6{w W W':World}{pre:List FX}(h:Pf w pre W)(hb:Below W.heap.size W W'):Pf w pre W' :=
 ⟨⟨(hb.block _ h.1.1.lt).trans h.1.1,tQ h.1.2 (hb.block _ h.1.2.lt)⟩,aJ h.2 hb⟩
attribute [local go_sem] FX.enc RV.val RV.arr
def zyg(w:World)(v fv:Value)(n:Nat)(x:FX)(a':Act)(W:World):Prop :=
 ∃ b,W.heap[b]?=some (.cells x.1.2.1.arr 33 (0,0))/\a'={ tmps:=#[v,undef,.map none,.pointer (some ⟨w.heap.size+1,0,none⟩),.int .i64 x.1.1,.pointer (some ⟨b,0,none⟩),v,.int .i64 n,.map (some w.heap.size),v,fv,.int .i64 x.1.1,x.1.2.1.val,undef,undef,undef,undef,undef],defers:=[] }
theorem zrp{w:World}{v fv:Value}{n B:Nat}(x:FX)(a':Act):OwnFrom B (fun (_:Unit) W=>zyg w v fv n x a' W):=by
 intro _ W W' row ⟨b,h1,h2⟩ hg hr;refine⟨b,(hg.block b (zbD.1 h1).1 (fun e=>?_)).trans h1,h2⟩;obtain⟨_,o,ho,hoc⟩:=hr b e.symm;rw[h1]at ho;have e:=zbB ho;subst e
 cases hoc
theorem zyh{w:World}{v:Value}{ys:List RV}{g:List GR}(h:qF w v ys g)(xI:g.length<=1000000)(hto:∀ r∈g,bJ r.name) :
  CallsIn Fence.wide 6 Tryz.prog 20 #[v] w (zlj g w):=by
 obtain⟨a,n,c,rfl,hn⟩:∃ a n c,v=.slice a n c/\n=g.length:=by
  obtain⟨a,c,h,_⟩:=h.1.slice;exact⟨a,_,c,h,rfl⟩
 have hmk:=zq5 w n;have bH:=hh9 hn;have HH:=hh9 h;clear hn h;refine callsIn_of_wp_marks Tryz.func20 rfl trivial ?_ rfl;simp only[Tryz.ntmps20,List.size_toArray,List.length_cons,List.length_nil,Nat.reduceAdd,Nat.reduceSub,Array.replicate_succ,Array.replicate_zero,List.push_toArray,List.append_toArray,List.nil_append,List.cons_append]
 gi_wp2_with (refine⟨trivial,?_⟩;gi_at_call 39;refine zro.mono ?_;rintro e w' ⟨rfl,rfl⟩)
 have hb3:Below w.heap.size w (((w.alloc (.map #[] 0)).alloc (.cells #[.map (some w.heap.size)] 56)).alloc (.cells #[.slice a n c] 25)):=((((zbE _ _).alloc (zbA _) _).alloc (by simp) _).alloc (by simp;omega) _)
 have hs3:(((w.alloc (.map #[] 0)).alloc (.cells #[.map (some w.heap.size)] 56)).alloc (.cells #[.slice a n c] 25)).heap.size=w.heap.size+3:=by simp
 have bM:=(Boxed.new (w.alloc (.map #[] 0)) 56 (.map (some w.heap.size))).alloc (.cells #[.slice a n c] 25);rw[World.size_alloc]at bM;have bS:=Boxed.new ((w.alloc (.map #[] 0)).alloc (.cells #[.map (some w.heap.size)] 56)) 25 (.slice a n c);rw[World.size_alloc,World.size_alloc]at bS;have hm0:=((World.ownsMap_made w Tryz.prog 9 (plainElem (H:=Unit) Tryz.prog 3)).alloc (.cells #[.map (some w.heap.size)] 56)).alloc (.cells #[.slice a n c] 25);have Uq:=zly (n0:=w.heap.size) HH.out xI (zbA _) hb3 bS;refine wpIn_rangeFunc_ownH rfl (by omega) (gf:=59) (lb:=#[.pointer (some ⟨w.heap.size+2,0,none⟩)]) rfl trivial (enters_of Tryz.func59 (by kernel_rfl) rfl)
  Uq (fun h k=>zP.t h k) (zP.put (by rw[hs3];omega)) (zbE _ _) (fun _=>rfl)
  (Pf w) (fun _ _ _=>False) (zv3 (by rw[hs3];omega)) (fun _ _ _ _ _ hs _ _=>hs)
  ⟨⟨bM,hm0⟩,hb3⟩
  (zyg w (.slice a n c) (.func (.func 59) #[] #[.pointer (some ⟨w.heap.size+2,0,none⟩)]) n) zrp ?assign ?body ?done ?stop
 case assign =>
  rintro l pre ⟨⟨i,⟨nm,⟨k,tx,nv,lo,hi,kv⟩⟩,x⟩,hx1,hx2,hx3,⟨a1,n1,c1,hx4⟩,⟨a2,n2,c2,hx5⟩⟩ W K hI hK;simp only[]at hx4 hx5;subst hx4 hx5;have Pg:Below W.heap.size W (W.alloc (.cells #[.string nm,.int .i64 k,.string tx,.slice a1 n1 c1,.int .i64 lo,.int .i64 hi,.slice a2 n2 c2] 33)):=(zbE _ _).alloc (zbA _) _;gi_wp2;refine hK _ _ (Tn Pg) ⟨Pg.mono hI.2.size,fun c' t' z' hb=>(Pg.block _ (zbD.1 hb).1).trans hb⟩ (zq6 hI Pg) ⟨W.heap.size,zbO W _,rfl⟩
 case body =>
  rintro l pre ⟨⟨i,⟨nm,⟨k,tx,nv,lo,hi,kv⟩⟩,x⟩,hx1,hx2,hx3,⟨a1,n1,c1,hx4⟩,⟨a2,n2,c2,hx5⟩⟩ a' W _ _ hI ⟨b,hb,rfl⟩ hlt;simp only[]at hx1 hx2 hx3 hx4 hx5 hb;subst hx1 hx4 hx5;have hbM:=hI.1.1.cell;have hbx:W.cell? ⟨b,0,none⟩=some (.string (ak x)):=by unfold World.cell?;simp only[hb];rfl
  have hval:plainElem (H:=Unit) Tryz.prog 3 (.int .i64 (i:Int))=some (.lit (.int .i64 (i:Int)),[]):=plainElem_int Tryz.underlying3 (XR _ (by omega));have hkey:=Hw hx2;have hI2:=hI.1.2;have HI:=hh9 hI;clear hI
  gi_wp2_with (gi_at_mapUpdate;refine wpListIn_mapUpdate_own _ rfl _ _ _ 56 rfl 9 3 yP Tryz.underlying56 _ w.heap.size pre.length _ rfl hI2 (by unfold maxLen;omega) _ _ (eD x) rfl rfl hkey _ [] hval ?_;intro w1 hm1 hg1)
  have hM1:Go.Boxed w1 (w.heap.size+1) 56 (.map (some w.heap.size)):=(hg1.block _ HI.out.1.1.lt (fun e=>by have:=zbB e;omega)).trans HI.out.1.1;have hBW:Below w.heap.size W w1:=⟨hg1.os,hg1.tape,hg1.output,by have:=hg1.size;have:=HI.out.2.size;omega,fun q hq=>hg1.block q (by have:=HI.out.2.size;omega) (fun e=>by have:=zbB e;omega)⟩
  refine⟨⟨hg1.size,fun q o hq ho hoc=>?_⟩,⟨hBW,fun c' t' z' hc'=>?_⟩,⟨⟨hM1,?_⟩,HI.out.2.trans hBW⟩⟩
  ·exact(hg1.block q (zbD.1 ho).1 (fun e=>by have:=zbB e;simp at hq;omega)).trans ho
  ·exact(hg1.block _ (zbD.1 hc').1 (fun e=>by have:=zbB e;omega)).trans hc'
  ·have e:FX.keys (pre++[(⟨(i,⟨ak x,⟨k,tx,.slice a1 n1 c1,lo,hi,.slice a2 n2 c2⟩⟩,x),rfl,hx2,hx3,⟨a1,n1,c1,rfl⟩,⟨a2,n2,c2,rfl⟩⟩:FX)])=FX.keys pre++[(i,x)]:=by simp[FX.keys]
   rw[e,zn3,zbG];exact hm1
 case done =>
  rintro D xs W hD hxs ⟨⟨hbM,hmM⟩,hB⟩ hK;have hc:=hbM.cell
  have hlx:xs.length=g.length:=by
   have h1:=congrArg List.length hxs;simpa[FX.keys,O9]using h1
  rw[hxs,hlx]at hmM;gi_wp2;refine⟨by simp,.inl ⟨_,_,rfl,run_takeDeferred hK,?_⟩⟩;have Wi:D≠w.heap.size:=by simp at hD;omega
  refine⟨_,results_tmp rfl _ _ _,_,rfl,tQ hmM (World.putObj_heap_other (Ne.symm Wi)),fun x hx=>?_,hB.trans (belowK_b (w:=w) (zbA _) W D _ _ (by simp at hD;omega) hK rfl rfl)⟩;have:=zq3 g 0 hto x hx;simpa using this
 case stop =>
  rintro D c pre W _ _ h _;exact h.elim
theorem zv4{w:World}{v:Value}{ys:List RV}{g:List GR}(h:qF w v ys g)(xI:g.length<=1000000)(hto:∀ r∈g,bJ r.name) :
  Calls Tryz.prog 20 #[v] w (zlj g w):=(callsIn_wide (n:=6)).1 (zyh h xI hto)
end Go.Proofs.YtahibnnhjahmnaaGreatDoor
namespace Go.Proofs.YtahibnnhjahmnaaGreatDoor
def dh:List (List Int)->List (List Int)->List (List Int)
 |out,[]=>out
 |out,x::xs=>dh (if x∈out then out else out++[x]) xs
theorem Ur:∀ (xs ys out:List (List Int)),dh out (xs++ys)=dh (dh out xs) ys
 |[],ys,out=>rfl
 |x::xs,ys,out=>Ur xs ys _
theorem Ph:∀ (xs out:List (List Int)),∃ t,dh out xs=out++t/\(out.Nodup->(dh out xs).Nodup)/\(∀ x∈xs,x∈dh out xs)/\(∀ x∈dh out xs,x∈out\/x∈xs)
 |[],out=>⟨[],by simp[dh],id,(fun x h=>by cases h),fun x h=>.inl h⟩
 |x::xs,out=>by
  by_cases hx:x∈out
  ·obtain⟨t,e,h1,h2,h3⟩:=Ph xs out;refine⟨t,by simp only[dh,if_pos hx];exact e,by simp only[dh,if_pos hx];exact h1,fun y hy=>?_,fun y hy=>?_⟩
   ·simp only[dh,if_pos hx];rcases List.mem_cons.1 hy with rfl|hy
    ·rw[e];simp[hx]
    ·exact h2 y hy
   ·simp only[dh,if_pos hx]at hy;rcases h3 y hy with h|h
    ·exact .inl h
    ·exact .inr (by simp[h])
  ·obtain⟨t,e,h1,h2,h3⟩:=Ph xs (out++[x]);refine⟨[x]++t,by simp only[dh,if_neg hx];rw[e,List.append_assoc],fun hn=>?_,fun y hy=>?_,fun y hy=>?_⟩
   ·simp only[dh,if_neg hx];refine h1 ?_;rw[List.nodup_append];exact⟨hn,by simp,fun a ha b hb=>by simp at hb;subst hb;exact fun e=>hx (e ▸ ha)⟩
   ·simp only[dh,if_neg hx];rcases List.mem_cons.1 hy with rfl|hy
    ·rw[e];simp
    ·exact h2 y hy
   ·simp only[dh,if_neg hx]at hy;rcases h3 y hy with h|h
    ·rcases List.mem_append.1 h with h|h
     ·exact .inl h
     ·simp at h;exact .inr (by simp[h])
    ·exact .inr (by simp[h])
def rW(g:List GR)(x:List Int):List (List Int):=match bI g x with
 |none=>[]
 |some k=>match g[k]? with
  |none=>[]
  |some r=>bn r.expr
inductive Reaches (g:List GR):Nat->Nat->List (List Int)->List (List Int)->Prop
 |done {i:Nat} {out:List (List Int)}:out.length<=i->Reaches g 0 i out out
 |step {n i:Nat} {x:List Int} {out R:List (List Int)}:out[i]?=some x->Reaches g n (i+1) (dh out (rW g x)) R->Reaches g (n+1) i out R
theorem Reaches.one{g:List GR}{n i:Nat}{out R:List (List Int)}(h:Reaches g n i out R):∀ {n':Nat} {R':List (List Int)},Reaches g n' i out R'->n=n'/\R=R':=by
 induction h with
 |done h =>
  intro n' R' h'
  cases h' with
  |done=>exact⟨rfl,rfl⟩
  |step h1=>have:=(zbF.1 h1).1;omega
 |step h1 _ ih =>
  intro n' R' h'
  cases h' with
  |done h=>have:=(zbF.1 h1).1;omega
  |step h3 h4 =>
   have e:=zbB (h1.symm.trans h3);subst e;obtain⟨a,b⟩:=ih h4;exact⟨by rw[a],b⟩
def rX(U out:List (List Int)):Nat:=(U.filter fun x=>decide (x ∉ out)).length
theorem Pj(U:List (List Int)):∀ (xs out:List (List Int)),(∀ x∈xs,x∈U)->(dh out xs).length+rX U (dh out xs)<=out.length+rX U out
 |[],out,_=>zbA _
 |x::xs,out,h=>by
  have h1:=Pj U xs (if x∈out then out else out++[x]) (fun y hy=>h y (by simp[hy]));refine zbH h1 ?_;by_cases hx:x∈out
  ·rw[if_pos hx];exact zbA _
  ·rw[if_neg hx]
   have:rX U (out++[x])<rX U out:=by
    unfold rX;refine Qs (fun y=>decide (y ∉ out)) (fun y=>decide (y ∉ out++[x])) (fun y hy=>?_) U x (h x (by simp)) (by simpa using hx) (by simp);simp at hy ⊢;exact hy.1
   simp;omega
def lZ(g:List GR):List (List Int):=(g.map fun r=>bn r.expr).flatten
theorem zta{g:List GR}{x y:List Int}(h:y∈rW g x):y∈lZ g:=by
 unfold rW at h
 cases hf:bI g x with
 |none=>rw[hf]at h;cases h
 |some k =>
  rw[hf]at h;simp only[]at h
  cases hr:g[k]? with
  |none=>rw[hr]at h;cases h
  |some r =>
   rw[hr]at h;unfold lZ;exact List.mem_flatten.2 ⟨bn r.expr,List.mem_map.2 ⟨r,zbI hr,rfl⟩,h⟩
theorem Reaches.is(g:List GR):∀ (k i:Nat) (out:List (List Int)),out.length+rX (lZ g) out<=i+k->∃ n R,Reaches g n i out R
 |0,i,out,h=>⟨0,_,.done (by omega)⟩
 |k+1,i,out,h=>by
  by_cases hi:out.length<=i
  ·exact⟨0,_,.done hi⟩
  ·have hx:out[i]?=some out[i]:=zbC (by omega);have hb:=Pj (lZ g) (rW g out[i]) out (fun y hy=>zta hy);obtain⟨n,R,h'⟩:=Reaches.is g k (i+1) (dh out (rW g out[i])) (by omega);exact⟨n+1,R,.step hx h'⟩
def Ec(g:List GR)(x:List Int)(R:List (List Int)):Prop:=(bI g x=none/\R=[])\/(bI g x≠none/\∃ n,Reaches g n 0 [x] R)
theorem Ec.is(g:List GR)(x:List Int):∃ R,Ec g x R:=by
 by_cases h:bI g x=none
 ·exact⟨[],.inl ⟨h,rfl⟩⟩
 ·obtain⟨n,R,hr⟩:=Reaches.is g ([x].length+rX (lZ g) [x]) 0 [x] (by omega);exact⟨R,.inr ⟨h,n,hr⟩⟩
theorem Ec.one{g:List GR}{x:List Int}{R R':List (List Int)}(h:Ec g x R)(h':Ec g x R'):R=R':=by
 rcases h with ⟨a,rfl⟩|⟨a,n,b⟩<;>rcases h' with ⟨a',rfl⟩|⟨a',n',b'⟩
 ·rfl
 ·exact absurd a a'
 ·exact absurd a' a
 ·exact(b.one b').2
theorem Reaches.gives{g:List GR}{n i:Nat}{out R:List (List Int)}(h:Reaches g n i out R):(∃ t,R=out++t)/\(out.Nodup->R.Nodup)/\∀ (j:Nat) (x:List Int),i<=j->R[j]?=some x->∀ y∈rW g x,y∈R:=by
 induction h with
 |done h=>exact⟨⟨[],by simp⟩,id,fun j x hj hx=>by have:=(zbF.1 hx).1;omega⟩
 |@step n i x out R h1 _ ih =>
  obtain⟨⟨t,e⟩,hn,hc⟩:=ih;obtain⟨t',e',hn',hm,_⟩:=Ph (rW g x) out;refine⟨⟨t'++t,by rw[e,e',List.append_assoc]⟩,fun h=>hn (hn' h),fun j y hj hy=>?_⟩;by_cases hji:j=i
  ·subst hji;have hl:=(zbF.1 h1).1;rw[e,e',List.append_assoc,zbK hl,h1]at hy;have e3:=zbB hy;subst e3;intro z hz;rw[e];exact List.mem_append.2 (.inl (hm z hz))
  ·exact hc j y (by omega) hy
end Go.Proofs.YtahibnnhjahmnaaGreatDoor
