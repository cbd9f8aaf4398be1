/- Part 15 of what the laws of the grammar rest on. -/
import Derived.Test.YtahibnnhjahmnaaGreatDoorA14
set_option linter.all false
set_option maxRecDepth 100000
set_option maxHeartbeats 8000000
namespace Go.Proofs.YtahibnnhjahmnaaGreatDoor
open Go.RowKit
theorem DK{W W':World}{base size n m:Nat}{e:TypeId}{v:Value}{xs:List Value}(h:W.ownsRow base e size v n xs)(hg:W.grownBy W' (some m))(hm:v.ownBlock≠some m):W'.ownsRow base e size v n xs:=by
 refine⟨h.1,?_⟩;rcases h.2 with hn|⟨g,cap,cur,hv,hb,hg',rest⟩
 ·exact .inl hn
 ·exact .inr ⟨g,cap,cur,hv,hb,(hg.block g (zbD.1 hg').1 (fun e=>hm (by rw[hv];exact e))).trans hg',rest⟩
def oJ(W:World)(base:Nat)(X:XV)(t:Tree):Prop :=
 ∃ (x ns:List Int) (kids:List Tree) (vs:List XV),t=.mk X.kind x ns X.lo X.hi kids/\X.text=ak x/\bJ x/\W.ownsRow base 3 1 X.ns ns.length (dA ns)/\W.ownsRow base 29 6 X.ks kids.length (vs.flatMap XV.cells)/\vs.length=kids.length /\
  ∀ (i:Nat) (y:XV) (u:Tree),vs[i]?=some y->kids[i]?=some u->dX W (fun b=>base<=b/\some b≠X.ks.ownBlock) y u
theorem dX.weak{W:World}{P P':Nat->Prop}{X:XV}{t:Tree}(h:dX W P X t)(hp:∀ b,P b->b<W.heap.size->P' b):dX W P' X t:=h.kept (M:=fun _=>False) (zap.refl _ _) (fun b hb hl=>⟨id,hp b hb hl⟩)
theorem oJ.tree{W:World}{base:Nat}{X:XV}{t:Tree}(h:oJ W base X t):dX W (fun b=>base<=b) X t:=by
 obtain⟨x,ns,kids,vs,rfl,htx,hto,h1,h2,h3,h4⟩:=h;obtain⟨k,tx,nv,lo,hi,kv⟩:=X;simp only[]at htx;subst htx;exact .mk vs hto.1 hto.2 (iL.oI (.inr (.inl rfl)) h1 (lD h1)) (iL.oI (.inl rfl) h2 (lD h2)) h3 (fun i y u hy hu=>(h4 i y u hy hu).weak (fun b hb _=>hb.1))
structure iD (w wr:World) (X:XV) (ns:List Int) (kids:List Tree) (vs p9:List XV) (i:Nat):Prop where
 box:wr.heap[w.heap.size]?=some (.cells X.arr 29 (0,0))
 res:wr.heap[w.heap.size+1]?=some (.cells yx 29 (0,0))
 nums:wr.ownsRow (w.heap.size+2) 3 1 X.ns ns.length (dA ns)
 row:wr.ownsRow (w.heap.size+2) 29 6 X.ks kids.length (p9.flatMap XV.cells)
 len:p9.length=kids.length
 old:∀ (j:Nat) (y:XV) (u:Tree),j<i->p9[j]?=some y->kids[j]?=some u->dX wr (fun b=>w.heap.size+2<=b/\some b≠X.ks.ownBlock) y u
 new:∀ j,i<=j->p9[j]?=vs[j]?
 below:Below w.heap.size w wr
theorem iD.under{w wr W:World}{X:XV}{ns:List Int}{kids:List Tree}{vs p9:List XV}{i:Nat}(h:iD w wr X ns kids vs p9 i)(hb:Below wr.heap.size wr W):iD w W X ns kids vs p9 i :=
 ⟨(hb.block _ (zbD.1 h.box).1).trans h.box,(hb.block _ (zbD.1 h.res).1).trans h.res,mI h.nums hb,mI h.row hb,h.len,
  fun j y u hj hy hu=>(h.old j y u hj hy hu).kept (M:=fun _=>False) (zap.below hb) (fun b hb _=>⟨id,hb⟩),h.new,aJ h.below hb⟩
theorem iD.cells{w wr:World}{X:XV}{ns:List Int}{kids:List Tree}{vs p9:List XV}{i:Nat}(h:iD w wr X ns kids vs p9 i):wr.cell? ⟨w.heap.size,5,none⟩=some X.ks/\w.heap.size<wr.heap.size/\w.heap.size+1<wr.heap.size:=by
 have hb:=h.box;refine⟨?_,(zbD.1 hb).1,(zbD.1 h.res).1⟩;unfold World.cell?;simp only[hb];rfl
theorem uJ(W:World)(g o:Nat)(v:Value):W.grownBy (W.setCell ⟨g,o,none⟩ v) (some g):=⟨rfl,rfl,rfl,by simp[World.setCell],fun i _ hi=>zbQ _ _ _ _ (fun e=>hi (by rw[e]))⟩
def ni(W:World)(g o:Nat)(x:XV):World :=
 (((((W.setCell ⟨g,o,none⟩ (.int .i64 x.kind)).setCell ⟨g,o+1,none⟩ (.string x.text)).setCell ⟨g,o+2,none⟩ x.ns).setCell ⟨g,o+3,none⟩ (.int .i64 x.lo)).setCell ⟨g,o+4,none⟩ (.int .i64 x.hi)).setCell ⟨g,o+5,none⟩ x.ks
theorem Hy(W:World)(g o:Nat)(x:XV):W.grownBy (ni W g o x) (some g) :=
 ((((((uJ W g o _).trans (uJ _ g _ _)).trans (uJ _ g _ _)).trans (uJ _ g _ _)).trans (uJ _ g _ _)).trans (uJ _ g _ _))
theorem iD.step{w W6:World}{X X':XV}{ns:List Int}{kids:List Tree}{vs p9:List XV}{i g cap B:Nat}{u:Tree}(h:iD w W6 X ns kids vs p9 i)(hv:X.ks=.slice (some ⟨g,0,none⟩) kids.length cap)(hi:i<kids.length)(hu:kids[i]?=some u)(hX:dX W6 (fun b=>B<=b) X' u)(hg:g<B)(hB:w.heap.size+2<=B) :
  iD w (ni W6 g (i*6) X') X ns kids vs (p9.set i X') (i+1):=by
 have hgr:=Hy W6 g (i*6) X';have hrow:=h.row;rw[hv]at hrow;have hgb:=(iX hrow).1;have Ca:X.ks.ownBlock=some g:=by rw[hv];rfl
 have hK:zap (fun b=>b=g) W6 (ni W6 g (i*6) X'):=⟨hgr.size,fun b c t z hm _ hb=>(hgr.block b (zbD.1 hb).1 (fun e=>hm (zbB e))).trans hb⟩
 refine⟨(hgr.block _ h.cells.2.1 (fun e=>by have:=zbB e;omega)).trans h.box,(hgr.block _ h.cells.2.2 (fun e=>by have:=zbB e;omega)).trans h.res,DK h.nums hgr (fun e=>?_),?_,by rw[List.length_set];exact h.len,fun j y t hj hy ht=>?_,fun j hj=>?_,h.below.grown hgr (by have:=h.cells.2.1;omega) (fun b e=>by have:=zbB e;omega)⟩
 ·obtain⟨c,t,z,hc⟩:∃ c t z,W6.heap[g]?=some (.cells c t z):=by
   rcases hrow.2 with ⟨hn,_⟩|⟨g',cap',cur,hv',_,hblk,_⟩
   ·cases hn
   ·simp at hv';obtain⟨rfl,_⟩:=hv';exact⟨_,_,_,hblk⟩
  have e1:=AB h.nums e hc;have e2:=AB hrow (b:=g) rfl hc;rw[e1]at e2;revert e2
  decide
 ·have h6:=nL (nL (nL (nL (nL (nL hrow (i*6) (.int .i64 X'.kind)) (i*6+1) (.string X'.text)) (i*6+2) X'.ns) (i*6+3) (.int .i64 X'.lo)) (i*6+4) (.int .i64 X'.hi)) (i*6+5) X'.ks;rw[qai p9 i X' (by rw[h.len];exact hi)]at h6;rw[hv];exact h6
 ·by_cases hji:j=i
  ·subst hji;rw[List.getElem?_set_self (by rw[h.len];exact hi)]at hy;rw[hu]at ht;have e1:=zbB hy;have e2:=zbB ht;subst e1 e2;exact hX.kept hK (fun b hb _=>⟨by omega,by omega,fun e=>by rw[Ca]at e;have:=zbB e;omega⟩)
  ·rw[List.getElem?_set_ne (by omega)]at hy;exact(h.old j y t (by omega) hy ht).kept hK (fun b hb _=>⟨fun e=>hb.2 (by rw[Ca,e]),hb⟩)
 ·rw[List.getElem?_set_ne (by omega)];exact h.new j (by omega)
theorem RU:∀ l:List Tree,l.length<=(l.map Tree.tw).sum
 |[]=>by simp
 |t::l=>by
  have:=RU l
  have h:1<=t.tw:=by
   obtain⟨k,x,ns,lo,hi,kids⟩:=t;rw[Tree.tw];omega
  simp only[List.map_cons,List.sum_cons,List.length_cons]at *;omega
def qej(X:XV)(t:Tree)(w:World)(e:Ending)(w':World):Prop:=∃ X':XV,e=.returned X'.val/\oJ w' w.heap.size X' t/\Below w.heap.size w w'
theorem qG{W:World}{base size n:Nat}{e:TypeId}{v:Value}{xs:List Value}(h:W.ownsRow base e size v n xs):∃ a c,v=.slice a n c:=by
 rcases fB h with ⟨rfl,h0⟩|⟨g,cap,rfl⟩
 ·exact⟨none,0,by rw[h0]⟩
 ·exact⟨_,_,rfl⟩
theorem aM.forms{W:World}{X:XV}{t:Tree}(h:aM W X t):∃ (x ns:List Int) (kids:List Tree) (vs:List XV),t=.mk X.kind x ns X.lo X.hi kids/\X.text=ak x/\bJ x/\au W X.ns ns.length (dA ns)/\au W X.ks kids.length (vs.flatMap XV.cells)/\vs.length=kids.length/\(∀ (i:Nat) (y:XV) (u:Tree),vs[i]?=some y->kids[i]?=some u->aM W y u):=by
 cases h with
 |mk vs h0 hl h1 h2 h3 h4=>exact⟨_,_,_,vs,rfl,rfl,⟨h0,hl⟩,h1,h2,h3,h4⟩
theorem aM.RY{W:World}{X:XV}{t:Tree}(h:aM W X t):∀ u∈X.cells,u.oneCell'=true:=by
 obtain⟨h1,h2⟩:=h.ones;intro u hu;simp[XV.cells]at hu;rcases hu with rfl|rfl|rfl|rfl|rfl|rfl
 all_goals first|rfl|assumption
theorem X7{W:World}{kids:List Tree}{vs:List XV}(hl:vs.length=kids.length)(h:∀ (i:Nat) (y:XV) (u:Tree),vs[i]?=some y->kids[i]?=some u->aM W y u):∀ u∈vs.flatMap XV.cells,u.oneCell'=true:=by
 intro u hu;obtain⟨y,hy,Ka⟩:=List.mem_flatMap.1 hu;obtain⟨i,hi⟩:=List.getElem?_of_mem hy;have hlt:=(zbF.1 hi).1;exact(h i y _ hi (zbC (by omega))).RY u Ka
theorem RZ{W:World}{base:Nat}{X:XV}{t:Tree}(h:oJ W base X t):∃ k tx nv lo hi kv a1 n1 c1 a2 n2 c2,nv=Value.slice a1 n1 c1/\kv=Value.slice a2 n2 c2/\X=⟨k,tx,nv,lo,hi,kv⟩:=by
 obtain⟨x,ns,kids,vs,rfl,htx,hto,h1,h2,h3,h4⟩:=h;obtain⟨k,tx,nv,lo,hi,kv⟩:=X;obtain⟨a1,c1,e1⟩:=qG h1;obtain⟨a2,c2,e2⟩:=qG h2;exact⟨k,tx,nv,lo,hi,kv,_,_,_,_,_,_,e1,e2,rfl⟩
theorem X8:∀ (k:Nat) (w:World) (X:XV) (t:Tree),aM w X t->t.tw<=k->k<=100000000->Calls Tryz.prog 48 #[X.val] w (qej X t w):=by
 intro k
 induction k using Nat.strongRecOn with
 |_ k ih =>
 intro w X t hE hk hk2;obtain⟨x,ns,kids,vs,rfl,htx,hto,hr1,hr2,hvl,hks⟩:=hE.forms;have sH:(Tree.mk X.kind x ns X.lo X.hi kids).tw=1+x.length+ns.length+(kids.map Tree.tw).sum:=by rw[Tree.tw]
 have hkl:kids.length<=(kids.map Tree.tw).sum:=RU kids;obtain⟨kk,tx,nv,lo,hi,kv⟩:=X;simp only[]at htx hr1 hr2 sH hk;have HKS:=hh9 hks;have Kc:=hh9 hvl;have Ke:=hh9 hto;have kF:=hh9 htx;have IH:=hh9 ih;have nW:=hh9 sH;have HKK:=hh9 hk
 obtain⟨na,nc,AL⟩:∃ na nc,nv=.slice na ns.length nc:=by
  obtain⟨a,c,h,_⟩:=hr1.slice;exact⟨a,c,h⟩
 obtain⟨ka,kc,hkv⟩:∃ ka kc,kv=.slice ka kids.length kc:=by
  obtain⟨a,c,h,_⟩:=hr2.slice;exact⟨a,c,h⟩
 subst AL hkv;have N8:=hh9 (fun (W:World) (hb:Below w.heap.size w W)=>zx3 (hr1.below hb) (by simp[dA]) (by intro u hu;unfold dA at hu;obtain⟨z,_,rfl⟩:=List.mem_map.1 hu;rfl) (by omega));have sG:=hh9 (fun (W:World) (hb:Below w.heap.size w W)=>zud (hr2.below hb) (by rw[Qe,hvl]) (X7 hvl hks) (by omega));have HB0:Hid (Below w.heap.size w ((w.alloc (aB kk lo hi tx (.slice na ns.length nc) (.slice ka kids.length kc))).alloc (.cells yx 29))):=((zbE _ _).alloc (zbA _) _).alloc (by simp) _;have hE1:=zbO w (aB kk lo hi tx (.slice na ns.length nc) (.slice ka kids.length kc));have Az:Hid (((w.alloc (aB kk lo hi tx (.slice na ns.length nc) (.slice ka kids.length kc))).alloc (.cells yx 29)).heap[w.heap.size]?=some (aB kk lo hi tx (.slice na ns.length nc) (.slice ka kids.length kc))):=J2 _ _ hE1
 have HE2:Hid (((w.alloc (aB kk lo hi tx (.slice na ns.length nc) (.slice ka kids.length kc))).alloc (.cells yx 29)).heap[w.heap.size+1]?=some (.cells yx 29 (0,0))):=by
  have h:=zbO (w.alloc (aB kk lo hi tx (.slice na ns.length nc) (.slice ka kids.length kc))) (.cells yx 29);rw[World.size_alloc]at h;exact h
 show Calls Tryz.prog 48 #[.agg #[.int .i64 kk,.string tx,.slice na ns.length nc,.int .i64 lo,.int .i64 hi,.slice ka kids.length kc]] w _
 clear hE hks hvl hto htx ih sH hk hr1 hr2 hE1;unfold aB yx at HB0 Az HE2;go_enter Tryz.func48,Tryz.ntmps48
 go_wp2_with (first
  |(go_at_call 70;refine(N8.out _ HB0.out).mono ?_;rintro e w1 ⟨v1,rfl,hown1,hb1⟩;obtain⟨a1,c1,rfl⟩:=qG hown1;have hX1:w1.heap[w.heap.size]?=some (.cells #[.int .i64 kk,.string tx,.slice na ns.length nc,.int .i64 lo,.int .i64 hi,.slice ka kids.length kc] 29 (0,0)):=(hb1.block _ (by simp;omega)).trans Az.out;have Kg:=(zbD.1 hX1).1;have q2:w1.cell? ⟨w.heap.size,2,none⟩=some (.slice na ns.length nc):=(by unfold World.cell?;simp only[hX1];rfl);have q5:w1.cell? ⟨w.heap.size,5,none⟩=some (.slice ka kids.length kc):=(by unfold World.cell?;simp only[hX1];rfl);have qf:w1.frozen? ⟨w.heap.size,2,none⟩=false:=(by simp[World.frozen?,hX1]);have Kh:=hh9 hX1;have jv:=hh9 hown1;have HB1:=hh9 (aJ HB0.out hb1);have Ki:=hh9 hb1;clear hown1 hb1 hX1)
  |(go_at_call 71;refine(sG.out _ (HB1.out.setCell (p:=⟨w.heap.size,2,none⟩) (zbA _) (.slice a1 ns.length c1))).mono ?_;rintro e w2 ⟨v2,rfl,hown2,hb2⟩;obtain⟨a2,c2,rfl⟩:=qG hown2;have hX2:w2.heap[w.heap.size]?=some (.cells #[.int .i64 kk,.string tx,.slice a1 ns.length c1,.int .i64 lo,.int .i64 hi,.slice ka kids.length kc] 29 (0,0)):=(hb2.block _ (by simpa using Kg)).trans (heap_setCell_same w1 w.heap.size 2 _ _ _ Kh.out);have p5:w2.cell? ⟨w.heap.size,5,none⟩=some (.slice ka kids.length kc):=(by unfold World.cell?;simp only[hX2];rfl);have pf:w2.frozen? ⟨w.heap.size,5,none⟩=false:=(by simp[World.frozen?,hX2]);have wL:=hh9 hX2;have Aj:=hh9 hown2;have HB2:=hh9 hb2;clear hown2 hb2 hX2))
 have hs2:w1.heap.size<=w2.heap.size:=by
  have:=HB2.out.size;simpa using this
 have hs1:=Ki.out.size;have hs0:((w.alloc (.cells #[.int .i64 kk,.string tx,.slice na ns.length nc,.int .i64 lo,.int .i64 hi,.slice ka kids.length kc] 29)).alloc (.cells #[.int .i64 0,.string ⟨#[]⟩,.slice none 0 0,.int .i64 0,.int .i64 0,.slice none 0 0] 29)).heap.size=w.heap.size+2:=by simp
 rw[hs0]at hs1
 have EY:w2.heap[w.heap.size+1]?=some (.cells yx 29 (0,0)) :=
  (HB2.out.block _ (by simp;omega)).trans ((heap_setCell_other _ _ _ _ (by show w.heap.size+1≠w.heap.size;omega)).trans ((Ki.out.block _ (by rw[hs0];omega)).trans HE2.out))
 have hstart:iD w (w2.setCell ⟨w.heap.size,5,none⟩ (.slice a2 kids.length c2)) ⟨kk,tx,.slice a1 ns.length c1,lo,hi,.slice a2 kids.length c2⟩ ns kids vs vs 0:=by
  have hg:=uJ w2 w.heap.size 5 (.slice a2 kids.length c2);have ho1:=jv.out;rw[hs0]at ho1;have ho2:=wQ Aj.out (base':=w.heap.size+2) (by simp;omega);refine⟨heap_setCell_same w2 w.heap.size 5 _ _ _ wL.out,(hg.block _ (zbD.1 EY).1 (fun e=>by have:=zbB e;omega)).trans EY,?_,DK ho2 hg (fun e=>by have:=lD ho2 _ e;omega),Kc.out,fun j y u hj=>by omega,fun j _=>rfl,?_⟩
  ·refine DK (mI (DK ho1 (uJ w1 w.heap.size 2 _) (fun e=>by have:=lD ho1 _ e;omega)) HB2.out) hg (fun e=>by have:=lD ho1 _ e;omega)
  ·exact(aJ (HB1.out.setCell (p:=⟨w.heap.size,2,none⟩) (zbA _) (.slice a1 ns.length c1)) HB2.out).setCell (p:=⟨w.heap.size,5,none⟩) (zbA _) _
 have oK:=hh9 hstart;have J6:kids.length<=100000000:=by have:=nW.out;have:=HKK.out;omega
 clear hstart EY Kg q2 q5 qf p5 pf hs1 hs2 hs0;go_loopw [16] (fun v wr=>∃ (i:Nat) (p9:List XV),v=.int .i64 i/\i<=kids.length/\Hid (iD w wr ⟨kk,tx,.slice a1 ns.length c1,lo,hi,.slice a2 kids.length c2⟩ ns kids vs p9 i)) (fun v _=>kids.length-(intOf v).toNat)
 case atStart=>exact⟨0,vs,rfl,Nat.zero_le _,oK⟩
 case round =>
  obtain⟨i,p9,rfl,hi',HC⟩:=hrel;by_cases hlt:i<kids.length
  ·have hrow:=HC.out.row;simp only[]at hrow
   obtain⟨gb,rfl⟩:∃ gb,a2=some ⟨gb,0,none⟩:=by
    rcases fB hrow with ⟨hn,h0⟩|⟨g,cap,h⟩
    ·omega
    ·simp at h;exact⟨g,h.1⟩
   obtain⟨Y,hY⟩:∃ y,vs[i]?=some y:=⟨_,zbC (by rw[Kc.out];exact hlt)⟩
   obtain⟨u,hu⟩:∃ y,kids[i]?=some y:=⟨_,zbC hlt⟩
   have R3:=(HC.out.new i (zbA _)).trans hY;have x9:=(HKS.out i Y u hY hu).under HC.out.below;have hmem:u∈kids:=zbI hu;have J9:=Hr hmem;have CX:∀ (j:Nat) (z:Value),j<6->Y.cells[j]?=some z->wr.cell? ⟨gb,i*6+j,none⟩=some z:=fun j z hj hz=>RP hrow ((pV p9 i j Y R3 hj).trans hz)
   obtain⟨hbx,hwl,zaE⟩:=HC.out.cells;have hgl:=iX hrow
   obtain⟨b1,m1,d1,b5,m5,d5,hb1,hb5⟩:∃ b1 m1 d1 b5 m5 d5,Y.ns=.slice b1 m1 d1/\Y.ks=.slice b5 m5 d5:=by
    obtain⟨_,_,_,_,_,_,_,h1,h2,_⟩:=x9.forms;obtain⟨_,_,h1,_⟩:=h1.slice;obtain⟨_,_,h2,_⟩:=h2.slice;exact⟨_,_,_,_,_,_,h1,h2⟩
   obtain⟨k2,s2,XP,lo2,hi2,XQ⟩:=Y;simp only[]at hb1 hb5;subst hb1 hb5;have yS:Below wr.heap.size wr ((wr.alloc (.cells #[.int .i64 k2,.string s2,.slice b1 m1 d1,.int .i64 lo2,.int .i64 hi2,.slice b5 m5 d5] 29)).drew):=dJ ((zbE _ _).alloc (zbA _) _) 1;have HI:=hh9 (IH.out u.tw (by have:=nW.out;have:=HKK.out;omega) _ _ u (x9.under yS) (zbA _) (by have:=nW.out;have:=HKK.out;omega));have Dz:=hh9 (HC.out.under yS);have e0:=CX 0 _ (by omega) rfl;have e1:=CX 1 _ (by omega) rfl;have e2:=CX 2 _ (by omega) rfl;have e3:=CX 3 _ (by omega) rfl;have e4:=CX 4 _ (by omega) rfl;have e5:=CX 5 _ (by omega) rfl;rw[Nat.add_zero]at e0;simp only[]at e0 e1 e2 e3 e4 e5;have EZ:=Dz.out.cells.1;simp only[]at EZ;unfold XV.val at HI;simp only[]at HI;have HU:=hh9 hu;have N9:=hh9 hgl;have HYI:=hh9 R3;clear CX hY R3 x9 hmem J9 hrow yS hu hgl;have X9:(wr.alloc (.cells #[.int .i64 k2,.string s2,.slice b1 m1 d1,.int .i64 lo2,.int .i64 hi2,.slice b5 m5 d5] 29)).cell? ⟨w.heap.size,5,none⟩=some (.slice (some ⟨gb,0,none⟩) kids.length c2):=EZ
   have Hz:Hid (∀ (W:World),iD w W ⟨kk,tx,.slice a1 ns.length c1,lo,hi,.slice (some ⟨gb,0,none⟩) kids.length c2⟩ ns kids vs p9 i->∀ (j:Nat) (z:Value),([.int .i64 k2,.string s2,.slice b1 m1 d1,.int .i64 lo2,.int .i64 hi2,.slice b5 m5 d5]:List Value)[j]?=some z->W.cell? ⟨gb,i*6+j,none⟩=some z/\W.frozen? ⟨gb,i*6+j,none⟩=false):=fun W hCW j z hj=>by
    have hr:=hCW.row;simp only[]at hr;have hjl:j<6:=(zbF.1 hj).1;exact⟨RP hr ((pV p9 i j _ HYI.out hjl).trans hj),AJ hr _⟩
   clear EZ;go_wp2_with fail
   go_region_law (first
    |((try go_simp);go_at_call 48;(with_reducible (refine HI.out.mono ?_));rintro e w6 ⟨X',rfl,hT,hb6⟩;have DL:=hh9 (Dz.out.under hb6);obtain⟨k',rz,pI,lo',Kj,kv',p1,p2,p3,p5,p6,p7,rfl,rfl,hX'⟩:=RZ hT;have HT:=hh9 hT;have sJ:=hh9 hb6;have z5:=DL.out.cells.1;(simp only[]at z5);have y0:=(Hz.out w6 DL.out 0 _ rfl);have y1:=(Hz.out w6 DL.out 1 _ rfl);have y2:=(Hz.out w6 DL.out 2 _ rfl);have y3:=(Hz.out w6 DL.out 3 _ rfl);have y4:=(Hz.out w6 DL.out 4 _ rfl);have y5:=(Hz.out w6 DL.out 5 _ rfl);rw[Nat.add_zero]at y0;obtain⟨y0,x0⟩:=y0;obtain⟨y1,x1⟩:=y1;obtain⟨y2,x2⟩:=y2;obtain⟨y3,x3⟩:=y3;obtain⟨y4,x4⟩:=y4;obtain⟨y5,x5⟩:=y5;subst hX';(try unfold XV.val);(try simp only[]);clear hT hb6)
    |fail)
   all_goals
    have hS:=DL.out.step (X':=⟨k',rz,.slice p1 p2 p3,lo',Kj,.slice p5 p6 p7⟩) (cap:=c2) rfl hlt HU.out HT.out.tree (by have:=N9.out.2.2.2;simp;omega) (by simp;omega);unfold ni at hS;have HS:=hh9 hS;clear hS;go_wp2_with fail
    go_roundw
    case rel=>exact⟨i+1,p9.set i ⟨k',rz,.slice p1 p2 p3,lo',Kj,.slice p5 p6 p7⟩,by go_num,by omega,HS⟩
    case measure=>simp[intOf];omega
  ·obtain rfl:i=kids.length:=by omega
   have hbx:=HC.out.box;unfold XV.arr at hbx;have f0:wr.cell? ⟨w.heap.size,0,none⟩=some (.int .i64 kk):=by unfold World.cell?;simp only[hbx];rfl
   have f1:wr.cell? ⟨w.heap.size,1,none⟩=some (.string tx):=by unfold World.cell?;simp only[hbx];rfl
   have f2:wr.cell? ⟨w.heap.size,2,none⟩=some (.slice a1 ns.length c1):=by unfold World.cell?;simp only[hbx];rfl
   have f3:wr.cell? ⟨w.heap.size,3,none⟩=some (.int .i64 lo):=by unfold World.cell?;simp only[hbx];rfl
   have f4:wr.cell? ⟨w.heap.size,4,none⟩=some (.int .i64 hi):=by unfold World.cell?;simp only[hbx];rfl
   have f5:wr.cell? ⟨w.heap.size,5,none⟩=some (.slice a2 kids.length c2):=by unfold World.cell?;simp only[hbx];rfl
   have aV:Hid (bg wr (w.heap.size+1)):=⟨yx,rfl,HC.out.res⟩
   have hgr:wr.grownBy (wr.setRow (w.heap.size+1) (XV.arr ⟨kk,tx,.slice a1 ns.length c1,lo,hi,.slice a2 kids.length c2⟩)) (some (w.heap.size+1)):=⟨rfl,rfl,rfl,by simp[World.setRow],fun k hk hne=>setRow_other _ _ _ _ (fun e=>hne (by rw[e]))⟩
   have hk1:zap (fun b=>b=w.heap.size+1) wr (wr.setRow (w.heap.size+1) (XV.arr ⟨kk,tx,.slice a1 ns.length c1,lo,hi,.slice a2 kids.length c2⟩)):=⟨hgr.size,fun b c t z hm _ hb=>(hgr.block b (zbD.1 hb).1 (fun e=>hm (zbB e))).trans hb⟩
   have hn1:=HC.out.nums;have hr1:=HC.out.row;simp only[]at hn1 hr1
   have HT0:Hid (oJ (wr.setRow (w.heap.size+1) (XV.arr ⟨kk,tx,.slice a1 ns.length c1,lo,hi,.slice a2 kids.length c2⟩)) w.heap.size ⟨kk,tx,.slice a1 ns.length c1,lo,hi,.slice a2 kids.length c2⟩ (.mk kk x ns lo hi kids)) :=
    ⟨x,ns,kids,p9,rfl,kF.out,Ke.out,wQ (DK hn1 hgr (fun e=>by have:=lD hn1 _ e;omega)) (by omega),wQ (DK hr1 hgr (fun e=>by have:=lD hr1 _ e;omega)) (by omega),HC.out.len,
     fun j y u hy hu=>((HC.out.old j y u (by have:=(zbF.1 hu).1;omega) hy hu).kept hk1 (fun b hb _=>⟨by have:=hb.1;omega,hb⟩)).weak (fun b hb _=>⟨by have:=hb.1;omega,hb.2⟩)⟩
   have pK:Hid (Below w.heap.size w (wr.setRow (w.heap.size+1) (XV.arr ⟨kk,tx,.slice a1 ns.length c1,lo,hi,.slice a2 kids.length c2⟩))):=HC.out.below.grown hgr (by have:=HC.out.cells.2.1;omega) (fun b e=>by have:=zbB e;omega);clear hbx hgr hk1 hn1 hr1;go_wp2_with (refine bA rfl _ _ rfl (w.heap.size+1) ⟨kk,tx,.slice a1 ns.length c1,lo,hi,.slice a2 kids.length c2⟩ rfl rfl aV.out rfl rfl ?_)
   exact bodyPost_ret_by (zag rfl _ _ (w.heap.size+1) ⟨kk,tx,.slice a1 ns.length c1,lo,hi,.slice a2 kids.length c2⟩ rfl aV.out) rfl ⟨_,rfl,HT0.out,pK.out⟩
end Go.Proofs.YtahibnnhjahmnaaGreatDoor
