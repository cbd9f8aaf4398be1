/- Part 25 of what the laws of the grammar rest on. -/
import Derived.Test.YtahibnnhjahmnaaGreatDoorA24
set_option linter.all false
set_option maxRecDepth 100000
set_option maxHeartbeats 8000000
namespace Go.Proofs.YtahibnnhjahmnaaGreatDoor
open Go.RowKit Go.Shelf
def rG(W:World)(base:Nat)(S:Nat->Prop)(X:XV)(t:Tree):Prop :=
 ∃ (x ns:List Int) (kids:List Tree) (vs:List XV),t=.mk X.kind x ns X.lo X.hi kids/\X.text=ak x/\bJ x/\W.ownsRow base 3 1 X.ns ns.length (dA ns)/\W.ownsRow base 29 6 X.ks kids.length (vs.flatMap XV.cells)/\vs.length=kids.length /\
  (∀ b,X.ns.ownBlock=some b->¬ S b)/\(∀ b,X.ks.ownBlock=some b->¬ S b) /\
  ∀ (i:Nat) (y:XV) (u:Tree),vs[i]?=some y->kids[i]?=some u->dX W (fun b=>base<=b/\some b≠X.ks.ownBlock/\¬ S b) y u
theorem rG.tree{W:World}{base:Nat}{S:Nat->Prop}{X:XV}{t:Tree}(h:rG W base S X t):dX W (fun b=>base<=b/\¬ S b) X t:=by
 obtain⟨x,ns,kids,vs,rfl,htx,hto,h1,h2,h3,h4,h5,h6⟩:=h;obtain⟨k,tx,nv,lo,hi,kv⟩:=X;simp only[]at htx;subst htx;exact .mk vs hto.1 hto.2 (iL.oI (.inr (.inl rfl)) h1 (fun b hb=>⟨lD h1 b hb,h4 b hb⟩)) (iL.oI (.inl rfl) h2 (fun b hb=>⟨lD h2 b hb,h5 b hb⟩)) h3 (fun i y u hy hu=>(h6 i y u hy hu).weak (fun b hb _=>⟨hb.1,hb.2.2⟩))
theorem rG.kept{W W':World}{base:Nat}{S S' M:Nat->Prop}{X:XV}{t:Tree}(h:rG W base S X t)(hk:zap M W W')(hn:∀ b,X.ns.ownBlock=some b->W'.heap[b]?=W.heap[b]?)(hks:∀ b,X.ks.ownBlock=some b->W'.heap[b]?=W.heap[b]?)
  (hS:∀ b,b<W.heap.size->¬ S b->¬ M b/\¬ S' b):rG W' base S' X t:=by
 obtain⟨x,ns,kids,vs,ht,htx,hto,h1,h2,h3,h4,h5,h6⟩:=h
 have lt:∀ {size n b:Nat} {e:TypeId} {v:Value} {xs:List Value},W.ownsRow base e size v n xs->v.ownBlock=some b->b<W.heap.size:=fun hr hb=>by
  obtain⟨cur,hcur⟩:=ou hr hb;exact(zbD.1 hcur).1
 exact⟨x,ns,kids,vs,ht,htx,hto,AY h1 hn,AY h2 hks,h3,fun b hb=>(hS b (lt h1 hb) (h4 b hb)).2,fun b hb=>(hS b (lt h2 hb) (h5 b hb)).2,
  fun i y u hy hu=>(h6 i y u hy hu).kept hk (fun b hb hl=>⟨(hS b hl hb.2.2).1,hb.1,hb.2.1,(hS b hl hb.2.2).2⟩)⟩
theorem oJ.Tw{W:World}{base base':Nat}{S:Nat->Prop}{X:XV}{t:Tree}(h:oJ W base' X t)(hb:base<=base')(hS:∀ b,base'<=b->¬ S b):rG W base S X t:=by
 obtain⟨x,ns,kids,vs,ht,htx,hto,h1,h2,h3,h4⟩:=h;exact⟨x,ns,kids,vs,ht,htx,hto,wQ h1 hb,wQ h2 hb,h3,fun b e=>hS b (lD h1 b e),fun b e=>hS b (lD h2 b e),fun i y u hy hu=>(h4 i y u hy hu).weak (fun b hb' _=>⟨by omega,hb'.2,hS b hb'.1⟩)⟩
def FB(ys:List RV)(i b:Nat):Prop:=∃ (q:Nat) (z:RV),q≠i/\ys[q]?=some z/\z.expr.ks.ownBlock=some b
structure TS (W:World) (base R m:Nat) (v:Value) (ys:List RV) (g:List GR):Prop where
 gB:pJ W base R m v ys g
 top:∀ (i:Nat) (y:RV) (r:GR),ys[i]?=some y->g[i]?=some r->rG W base (FB ys i) y.expr r.expr
theorem TS.under{W W':World}{base R m:Nat}{v:Value}{ys:List RV}{g:List GR}(h:TS W base R m v ys g)(hb:Below W.heap.size W W'):TS W' base R m v ys g:=by
 refine⟨h.gB.below hb,fun i y r hy hr=>?_⟩;have ht:=h.top i y r hy hr
 have lt:∀ {base size n b:Nat} {e:TypeId} {v:Value} {xs:List Value},W.ownsRow base e size v n xs->v.ownBlock=some b->b<W.heap.size:=fun hr hb=>by
  obtain⟨cur,hcur⟩:=ou hr hb;exact(zbD.1 hcur).1
 obtain⟨_,_,_,_,_,_,_,h1,h2,_⟩:=ht;exact(h.top i y r hy hr).kept (M:=fun _=>False) (zap.below hb) (fun b e=>hb.block b (lt h1 e)) (fun b e=>hb.block b (lt h2 e)) (fun b _ hn=>⟨id,hn⟩)
theorem TS.lt{W:World}{base R m:Nat}{v:Value}{ys:List RV}{g:List GR}(h:TS W base R m v ys g){i b:Nat}{y:RV}(hy:ys[i]?=some y)(hb:y.expr.ks.ownBlock=some b):b<W.heap.size:=by
 obtain⟨r,hr⟩:∃ r,g[i]?=some r:=⟨_,zbC (by rw[<- h.gB.len];exact(zbF.1 hy).1)⟩
 obtain⟨_,_,_,_,_,_,_,h1,h2,_⟩:=h.top i y r hy hr;obtain⟨cur,hcur⟩:=ou h2 hb;exact(zbD.1 hcur).1
theorem TS.exprs{W:World}{base R m:Nat}{v:Value}{ys:List RV}{g:List GR}(h:TS W base R m v ys g)(hs:∀ r∈g,dep r.expr<=9000/\(bn r.expr).length<=1000000):xu W ys g :=
 fun i y r hy hr=>⟨(h.top i y r hy hr).tree.weak (fun _ _ _=>trivial),hs r (zbI hr)⟩
theorem Zr(vs:List RV)(i:Nat)(y:RV)(x:XV)(h:vs[i]?=some y) :
  ((((((vs.flatMap RV.cells).set (i*7+1) (.int .i64 x.kind)).set (i*7+1+1) (.string x.text)).set (i*7+1+2) x.ns).set (i*7+1+3) (.int .i64 x.lo)).set (i*7+1+4) (.int .i64 x.hi)).set (i*7+1+5) x.ks=(vs.set i ⟨y.name,x⟩).flatMap RV.cells:=by
 have hl:=(zbF.1 h).1;have h7:=Y2 vs i ⟨y.name,x⟩ hl;have e0:=uI vs i 0 y h (by omega);rw[Nat.add_zero]at e0
 have e1:(vs.flatMap RV.cells).set (i*7) (.string y.name)=vs.flatMap RV.cells:=by
  apply List.ext_getElem?;intro k;by_cases hk:k=i*7
  ·subst hk;rw[List.getElem?_set_self (by have:=(zbF.1 (e0.trans (show y.cells[0]?=some _ from rfl))).1;exact this),e0];rfl
  ·rw[List.getElem?_set_ne (fun e=>hk e.symm)]
 simp only[]at h7;rw[e1]at h7;exact h7
theorem zxw{g:List GR}{i:Nat}{r:GR}(hr:g[i]?=some r)(t:Tree)(x:List Int):bI (g.set i ⟨r.name,t⟩) x=bI g x:=by
 induction g generalizing i with
 |nil=>rfl
 |cons u g ih =>
  cases i with
  |zero =>
   simp at hr;subst hr;simp[bI]
  |succ i =>
   simp at hr;simp only[List.set_cons_succ,bI];rw[ih hr]
theorem TS.pushed{W0 W W':World}{base R m n:Nat}{v v':Value}{ys:List RV}{g:List GR}{Y:RV}{r:GR}(h:TS W0 base R m v ys g)(hb0:Below W0.heap.size W0 W)(hn:W0.heap.size<=n)(hbn:base<=n)(hY:oJ W n Y.expr r.expr)
  (hR:R<base) (hm:m<base) (hg:pJ W' base R m v' (ys++[Y]) (g++[r])) (hk:zap (fun _=>False) W W') (ho:∀ b,b<W.heap.size->b≠R->b≠m->v.ownBlock≠some b->W'.heap[b]?=W.heap[b]?):TS W' base R m v' (ys++[Y]) (g++[r]):=by
 have hrow:=(h.gB.below hb0).row
 have keep:∀ {base' size k b:Nat} {e:TypeId} {u:Value} {xs:List Value},W.ownsRow base' e size u k xs->base<=base'->e≠33->u.ownBlock=some b->W'.heap[b]?=W.heap[b]?:=fun hr hbb he hb=>by
  obtain⟨cur,hcur⟩:=ou hr hb;have hle:=lD hr _ hb;exact ho _ (zbD.1 hcur).1 (by omega) (by omega) (fun e'=>he (AB hrow e' hcur))
 have hlt:∀ {base' size k b:Nat} {e:TypeId} {u:Value} {xs:List Value},W0.ownsRow base' e size u k xs->u.ownBlock=some b->b<W0.heap.size:=fun hr hb=>by
  obtain⟨cur,hcur⟩:=ou hr hb;exact(zbD.1 hcur).1
 have hYl:∀ b,Y.expr.ks.ownBlock=some b->n<=b:=fun b hb=>by
  obtain⟨_,_,_,_,_,_,_,h1,h2,_⟩:=hY;exact lD h2 b hb
 have last:∀ (q:Nat) (z:RV),(ys++[Y])[q]?=some z->(q<ys.length/\ys[q]?=some z)\/(q=ys.length/\z=Y):=fun q z hz=>by
  by_cases hq:q<ys.length
  ·rw[zbK hq]at hz;exact .inl ⟨hq,hz⟩
  ·have:=(zbF.1 hz).1;simp at this;rw[zbL (by omega),show q-ys.length=0 by omega]at hz;simp at hz;exact .inr ⟨by omega,hz.symm⟩
 refine⟨hg,fun i y r' hy hr'=>?_⟩;rcases last i y hy with ⟨hi,hy'⟩|⟨hi,rfl⟩
 ·rw[zbK (by rw[<- h.gB.len];exact hi)]at hr';have ht:=h.top i y r' hy' hr';obtain⟨_,_,_,vs,_,_,_,h1,h2,_⟩:=ht;refine(h.top i y r' hy' hr').kept ((zap.below hb0).trans hk) (fun b hb=>?_) (fun b hb=>?_) (fun b hb hn'=>⟨id,fun ⟨q,z,hq,hz,hzb⟩=>?_⟩)
  ·exact(keep (mI h1 hb0) (zbA _) (by decide) hb).trans (hb0.block b (hlt h1 hb))
  ·exact(keep (mI h2 hb0) (zbA _) (by decide) hb).trans (hb0.block b (hlt h2 hb))
  ·rcases last q z hz with ⟨hq2,hz'⟩|⟨hq2,rfl⟩
   ·exact hn' ⟨q,z,hq,hz',hzb⟩
   ·have:=hYl b hzb;omega
 ·rw[zbL (by rw[<- h.gB.len];omega),show i-g.length=0 by rw[<- h.gB.len];omega]at hr';simp at hr';subst hr'
  have hS:∀ b,n<=b->¬ FB (ys++[y]) i b:=fun b hb ⟨q,z,hq,hz,hzb⟩=>by
   rcases last q z hz with ⟨_,hz'⟩|⟨hq2,_⟩
   ·have:=h.lt hz' hzb;omega
   ·omega
  have hY2:=hY;obtain⟨_,_,_,vs,_,_,_,h1,h2,_⟩:=hY2;exact(hY.Tw hbn hS).kept hk (fun b hb=>keep h1 hbn (by decide) hb) (fun b hb=>keep h2 hbn (by decide) hb) (fun b _ hn'=>⟨id,hn'⟩)
theorem TS.merged{W0 wB wX w9:World}{base R m n i gr cap:Nat}{vP v':Value}{ys:List RV}{g:List GR}{y:RV}{r:GR}{te:Tree}{nu qo:List XV}(h:TS W0 base R m (.slice (some ⟨gr,0,none⟩) g.length cap) ys g)(hb0:Below W0.heap.size W0 wB)(hn:W0.heap.size<=n)(hnB:n<=wB.heap.size)(hbn:base<=n)
  (hR:R<base) (hm:m<base) (hy:ys[i]?=some y) (hr:g[i]?=some r) (hX:Below wB.heap.size wB wX)
  (Tx:vP.ownBlock=y.expr.ks.ownBlock\/∃ k,vP.ownBlock=some k/\wB.heap.size<=k) (KZ:nu.length=(fO r.expr).length) (hPe:∀ (j:Nat) (Z:XV) (u:Tree),nu[j]?=some Z->(fO r.expr)[j]?=some u->dX W0 (fun b=>base<=b/\some b≠vP.ownBlock/\¬ FB ys i b) Z u)
  (OO:qo.length=(fO te).length) (hEe:∀ (j:Nat) (Z:XV) (u:Tree),qo[j]?=some Z->(fO te)[j]?=some u->dX wB (fun b=>n<=b) Z u)
  (hown:w9.ownsRow base 29 6 v' (nu++qo).length ((nu++qo).flatMap XV.cells)) (hgrow:wX.grownBy w9 vP.ownBlock) (hat:v'.ownBlock=vP.ownBlock\/v'.ownBlock=some wX.heap.size) (hty:∀ b,vP.ownBlock=some b->∃ c z,wX.heap[b]?=some (.cells c 29 z)) :
  TS (ni w9 gr (i*7+1) ⟨1,⟨#[]⟩,.slice none 0 0,0,0,v'⟩) base R m (.slice (some ⟨gr,0,none⟩) g.length cap) (ys.set i ⟨y.name,⟨1,⟨#[]⟩,.slice none 0 0,0,0,v'⟩⟩) (g.set i ⟨r.name,uD r.expr te⟩):=by
 have hy0:=h.top i y r hy hr;have je:=h.gB.row;have hgr:=iX je;have hs0:=hb0.size;have hsX:=hX.size;have hg9:=hgrow.size;have hRl:=h.gB.cells.2.2
 have hlt:∀ {base' size k b:Nat} {e:TypeId} {u:Value} {xs:List Value},W0.ownsRow base' e size u k xs->u.ownBlock=some b->b<W0.heap.size:=fun hr hb=>by
  obtain⟨cur,hcur⟩:=ou hr hb;exact(zbD.1 hcur).1
 obtain⟨cg,hcg⟩:=ou je (b:=gr) rfl
 have hK:∀ b,b<wB.heap.size->vP.ownBlock=some b->y.expr.ks.ownBlock=some b:=fun b hb e=>by
  rcases Tx with e'|⟨k,e',hk⟩
  ·rw[<- e'];exact e
  ·rw[e']at e;have:=zbB e;omega
 have FC:∀ b,y.expr.ks.ownBlock=some b->b<W0.heap.size/\base<=b/\¬ FB ys i b/\∃ cur,W0.heap[b]?=some (.cells cur 29 (0,0)):=fun b hb=>by
  obtain⟨_,_,_,_,_,_,_,h1,h2,_,_,h5,_⟩:=hy0;exact⟨hlt h2 hb,lD h2 b hb,h5 b hb,ou h2 hb⟩
 have hv':∀ b,b<wB.heap.size->v'.ownBlock=some b->vP.ownBlock=some b:=fun b hb e=>by
  rcases hat with e'|e'
  ·rw[<- e'];exact e
  ·rw[e']at e;have:=zbB e;omega
 have zA:vP.ownBlock≠some gr:=fun e=>by
  obtain⟨_,_,_,cur,hcur⟩:=FC gr (hK gr (by omega) e);rw[hcg]at hcur;have e:=zbB hcur;simp at e
 have sg:=Hy w9 gr (i*7+1) ⟨1,⟨#[]⟩,.slice none 0 0,0,0,v'⟩
 have DY:∀ b,b<wB.heap.size->vP.ownBlock≠some b->b≠gr->(ni w9 gr (i*7+1) ⟨1,⟨#[]⟩,.slice none 0 0,0,0,v'⟩).heap[b]?=wB.heap[b]?:=fun b hb h1 h2 =>
  (sg.block b (by omega) (fun e=>h2 (zbB e))).trans ((hgrow.block b (by omega) (fun e=>h1 e.symm)).trans (hX.block b hb))
 have vX:∀ b,b<W0.heap.size->vP.ownBlock≠some b->b≠gr->(ni w9 gr (i*7+1) ⟨1,⟨#[]⟩,.slice none 0 0,0,0,v'⟩).heap[b]?=W0.heap[b]?:=fun b hb h1 h2=>(DY b (by omega) h1 h2).trans (hb0.block b hb)
 have kB:zap (fun b=>vP.ownBlock=some b) wB (ni w9 gr (i*7+1) ⟨1,⟨#[]⟩,.slice none 0 0,0,0,v'⟩):=by
  refine⟨by have:=sg.size;omega,fun b c t z hM ht hb=>?_⟩;refine(DY b (zbD.1 hb).1 hM (fun e=>?_)).trans hb;subst e;rw[hb0.block b (by omega),hcg]at hb;have e:=zbB hb;simp at e;rw[<- e.2.1]at ht;revert ht;unfold KT
  decide
 have k0:=(zap.below (M:=fun b=>vP.ownBlock=some b) hb0).trans kB
 have hoth:∀ b,FB (ys.set i ⟨y.name,⟨1,⟨#[]⟩,.slice none 0 0,0,0,v'⟩⟩) i b ↔ FB ys i b:=fun b=>by
  constructor
  ·rintro⟨q,z,hq,hz,hzb⟩;rw[List.getElem?_set_ne (by omega)]at hz;exact⟨q,z,hq,hz,hzb⟩
  ·rintro⟨q,z,hq,hz,hzb⟩;exact⟨q,z,hq,by rw[List.getElem?_set_ne (by omega)];exact hz,hzb⟩
 have hil:=(zbF.1 hy).1;have K4:=(zbF.1 hr).1;refine⟨⟨?_,?_,by simpa using h.gB.len,?_,?_⟩,fun q z u hz hu=>?_⟩
 ·exact(vX R hRl (fun e=>by have:=(FC R (hK R (by omega) e)).2.1;omega) (by omega)).trans h.gB.blk
 ·have h9:w9.ownsRow base 33 7 (.slice (some ⟨gr,0,none⟩) g.length cap) g.length (ys.flatMap RV.cells):=AY je (fun b hb=>by
   have e:gr=b:=zbB hb;subst e;exact(hgrow.block gr (by omega) (fun e=>zA e.symm)).trans ((hX.block gr (by omega)).trans (hb0.block gr (by omega))))
  have h6:=nL (nL (nL (nL (nL (nL h9 (i*7+1) (.int .i64 1)) (i*7+1+1) (.string ⟨#[]⟩)) (i*7+1+2) (.slice none 0 0)) (i*7+1+3) (.int .i64 0)) (i*7+1+4) (.int .i64 0)) (i*7+1+5) v';have e:=Zr ys i y ⟨1,⟨#[]⟩,.slice none 0 0,0,0,v'⟩ hy;simp only[]at e;rw[e]at h6;rw[List.length_set];exact h6
 ·obtain⟨D,hD,kU⟩:=h.gB.map;rw[List.length_set];exact⟨D,tQ hD (vX m hD.lt (fun e=>by have:=(FC m (hK m (by have:=hD.lt;omega) e)).2.1;omega) (by omega)),fun x hx=>by rw[zxw hr];exact kU x hx⟩
 ·intro q z u hz hu;by_cases hq:q=i
  ·subst hq;rw[List.getElem?_set_self hil]at hz;rw[List.getElem?_set_self K4]at hu;have e1:=zbB hz;have e2:=zbB hu;subst e1 e2;exact h.gB.name q y r hy hr
  ·rw[List.getElem?_set_ne (by omega)]at hz hu;exact h.gB.name q z u hz hu
 ·by_cases hq:q=i
  ·subst hq;rw[List.getElem?_set_self hil]at hz;rw[List.getElem?_set_self K4]at hu;have e1:=zbB hz;have e2:=zbB hu;subst e1 e2;have hl:(nu++qo).length=(fO r.expr++fO te).length:=by simp[KZ,OO]
   refine⟨[],[],fO r.expr++fO te,nu++qo,rfl,rfl,⟨by simp,by simp⟩,World.ownsRow_nil _ _ _ _,?_,hl,fun b hb=>by simp[Value.ownBlock]at hb,fun b hb=>?_,fun j Z t hZ ht=>?_⟩
   ·rw[<- hl];refine DK hown sg (fun e=>?_);exact zA (hv' gr (by omega) e)
   ·intro ho;have ho':=(hoth b).1 ho;have hbl:b<W0.heap.size:=by obtain⟨q',z',_,hz',xw⟩:=ho';exact h.lt hz' xw
    exact(FC b (hK b (by omega) (hv' b (by omega) hb))).2.2.1 ho'
   ·by_cases hj:j<nu.length
    ·rw[zbK hj]at hZ;rw[zbK (by omega)]at ht;exact(hPe j Z t hZ ht).kept k0 (fun b hb hbl=>⟨fun e=>hb.2.1 e.symm,hb.1,fun e=>hb.2.1 (hv' b (by omega) e.symm).symm,fun ho=>hb.2.2 ((hoth b).1 ho)⟩)
    ·rw[zbL (by omega)]at hZ;rw[zbL (by omega),<- KZ]at ht;refine(hEe _ Z t hZ ht).kept kB (fun b hb hbl=>⟨fun e=>?_,by omega,fun e=>?_,fun ho=>?_⟩)
     ·have:=(FC b (hK b hbl e)).1;omega
     ·have:=(FC b (hK b hbl (hv' b hbl e.symm))).1;omega
     ·obtain⟨q',z',_,hz',xw⟩:=(hoth b).1 ho;have:=h.lt hz' xw;omega
  ·rw[List.getElem?_set_ne (by omega)]at hz hu;have ht:=h.top q z u hz hu;obtain⟨_,_,_,_,_,_,_,h1,h2,_,_,h5,_⟩:=ht;have hM:∀ b,b<W0.heap.size->¬ FB ys q b->vP.ownBlock≠some b:=fun b hb hn' e=>hn' ⟨i,y,by omega,hy,hK b (by omega) e⟩
   refine(h.top q z u hz hu).kept k0 (fun b hb=>?_) (fun b hb=>?_) (fun b hb hn'=>⟨hM b hb hn',fun ⟨q',z',hq',hz',xw⟩=>?_⟩)
   ·refine vX b (hlt h1 hb) (fun e=>?_) (fun e=>?_)
    ·obtain⟨_,_,_,cur,hcur⟩:=FC b (hK b (by have:=hlt h1 hb;omega) e);have:=AB h1 hb hcur;revert this
     decide
    ·subst e;have:=AB h1 hb hcg;revert this
     decide
   ·refine vX b (hlt h2 hb) (hM b (hlt h2 hb) (h5 b hb)) (fun e=>?_);subst e;have:=AB h2 hb hcg;revert this
    decide
   ·by_cases hqi:q'=i
    ·subst hqi;rw[List.getElem?_set_self hil]at hz';have e:=zbB hz';subst e;exact hM b hb hn' (hv' b (by omega) xw)
    ·rw[List.getElem?_set_ne (by omega)]at hz';exact hn' ⟨q',z',hq',hz',xw⟩
end Go.Proofs.YtahibnnhjahmnaaGreatDoor
namespace Go.Proofs.YtahibnnhjahmnaaGreatDoor
def Once(g:List GR):Prop:=(g.map GR.name).Nodup
def xA(g:List GR)(xs:List (List Int)):Prop:=∀ x∈xs,bI g x≠none
theorem Zt{g:List GR}{r:GR}(h:Once g)(hn:bI g r.name=none):Once (g++[r]):=by
 unfold Once at *;rw[List.map_append,List.nodup_append];refine⟨h,by simp,fun a ha b hb=>?_⟩;simp at hb;subst hb;obtain⟨u,hu,rfl⟩:=List.mem_map.1 ha;exact Ny.1 hn u hu
theorem qay{g:List GR}{i:Nat}{r:GR}{e:Tree}(h:Once g)(hr:g[i]?=some r):Once (g.set i ⟨r.name,e⟩):=by
 unfold Once at *
 have e1:(g.set i ⟨r.name,e⟩).map GR.name=g.map GR.name:=by
  rw[List.map_set];apply List.ext_getElem?;intro j;by_cases hj:j=i
  ·subst hj;have hl:=(zbF.1 hr).1;rw[List.getElem?_set_self (by simpa using hl),List.getElem?_map,hr];rfl
  ·rw[List.getElem?_set_ne (by omega)]
 rw[e1];exact h
theorem zxx{g g':List GR}{l:Rule}(h:Once g)(ht:jQ g l=some g'):Once g':=by
 unfold jQ at ht
 cases hf:bI g l.name with
 |none =>
  rw[hf]at ht;simp only[]at ht;split at ht
  ·cases ht
  ·have e:=zbB ht;subst e;exact Zt h hf
 |some i =>
  rw[hf]at ht;simp only[]at ht;split at ht
  ·obtain⟨⟨r,h1,h2⟩,_⟩:=tN.1 hf;rw[h1]at ht;have e:=zbB ht;subst e;exact qay h h1
  ·cases ht
theorem Zu:∀ {ls:List Rule} {g g':List GR},Once g->lg g ls=some g'->Once g'
 |[],g,g',h,ht=>by
  have e:=zbB ht;subst e;exact h
 |l::ls,g,g',h,ht=>by
  rw[Al]at ht
  cases hm:jQ g l with
  |none=>rw[hm]at ht;cases ht
  |some g1 =>
   rw[hm]at ht;exact Zu (zxx h hm) ht
theorem qaz{g g':List GR}{x:List Int}(h:dO g x=some g'):∃ t,g'=g++t/\(Once g->Once g')/\bI g' x≠none:=by
 unfold dO at h
 cases hf:bI g x with
 |some i =>
  rw[hf]at h;have e:=zbB h;subst e;exact⟨[],by simp,id,by rw[hf];simp⟩
 |none =>
  rw[hf]at h;simp only[]at h
  cases hc:bI fJ x with
  |none=>rw[hc]at h;cases h
  |some c =>
   rw[hc]at h;obtain⟨⟨r,h1,h2⟩,_⟩:=tN.1 hc;simp only[h1,Option.map_some]at h;have e:=zbB h;subst e;refine⟨[r],rfl,fun ho=>Zt ho (by rw[h2];exact hf),?_⟩;rw[Jy,hf];simp[bI,h2]
theorem Zv{g t:List GR}{x:List Int}(h:bI g x≠none):bI (g++t) x≠none:=by
 rw[Jy]
 cases hf:bI g x with
 |none=>exact absurd hf h
 |some i=>simp
theorem Zw:∀ {xs:List (List Int)} {g g':List GR},jw g xs=some g'->∃ t,g'=g++t/\(Once g->Once g')/\xA g' xs
 |[],g,g',h=>by
  have e:=zbB h;subst e;exact⟨[],by simp,id,fun x hx=>by cases hx⟩
 |x::xs,g,g',h=>by
  change (dO g x).bind (fun g'=>jw g' xs)=some g' at h
  cases hm:dO g x with
  |none=>rw[hm]at h;cases h
  |some g1 =>
   rw[hm]at h;obtain⟨t1,e1,o1,f1⟩:=qaz hm;obtain⟨t2,e2,o2,f2⟩:=Zw (xs:=xs) (g:=g1) (g':=g') h;subst e2;refine⟨t1++t2,by rw[e1,List.append_assoc],fun h=>o2 (o1 h),fun y hy=>?_⟩;rcases List.mem_cons.1 hy with rfl|hy
   ·exact Zv f1
   ·exact f2 y hy
theorem bW.gives{n i:Nat}{g:List GR}{R:Option (List GR)}(h:bW n i g R):∀ g',R=some g'->∃ t,g'=g++t/\(Once g->Once g')/\∀ (j:Nat) (r:GR),i<=j->g'[j]?=some r->xA g' (bn r.expr):=by
 induction h with
 |done h =>
  intro g' e;have e:=zbB e;subst e;exact⟨[],by simp,id,fun j r hj hr=>by have:=(zbF.1 hr).1;omega⟩
 |fail=>intro g' e;cases e
 |@step n i g g1 r R h1 h2 _ ih =>
  intro g' e;obtain⟨t1,e1,o1,f1⟩:=Zw h2;obtain⟨t2,e2,o2,f2⟩:=ih g' e;refine⟨t1++t2,by rw[e2,e1,List.append_assoc],fun h=>o2 (o1 h),fun j r' hj hr'=>?_⟩;by_cases hji:j=i
  ·subst hji;have hl:=(zbF.1 h1).1;rw[e2,e1,List.append_assoc,zbK hl,h1]at hr';have e3:=zbB hr';subst e3;intro x hx;rw[e2];exact Zv (f1 x hx)
  ·exact f2 j r' (by omega) hr'
def FD(g:List GR):List Rule:=g.map fun r=>⟨r.name,false,r.expr⟩
theorem Zx:∀ (h g:List GR),Once (g++h)->lg g (FD h)=some (g++h)
 |[],g,_=>by simp[FD,lg]
 |r::h,g,ho=>by
  have hn:bI g r.name=none:=Ny.2 fun u hu e=>by
   unfold Once at ho;rw[List.map_append,List.nodup_append]at ho;exact ho.2.2 u.name (List.mem_map_of_mem hu) r.name (by simp) e
  have e1:jQ g ⟨r.name,false,r.expr⟩=some (g++[r]):=by
   unfold jQ;simp only[hn];rfl
  show lg g (⟨r.name,false,r.expr⟩::FD h)=_
  rw[Al,e1];have:=Zx h (g++[r]) (by rw[List.append_assoc];exact ho);simpa using this
theorem Zy:∀ {xs:List (List Int)} {g:List GR},xA g xs->jw g xs=some g
 |[],g,_=>rfl
 |x::xs,g,h=>by
  have h1:dO g x=some g:=by
   unfold dO
   cases hf:bI g x with
   |none=>exact absurd hf (h x (by simp))
   |some i=>rfl
  show (dO g x).bind (fun g'=>jw g' xs)=some g
  rw[h1];exact Zy (fun y hy=>h y (by simp[hy]))
theorem bW.again:∀ (k i:Nat) (g:List GR),g.length<=i+k->(∀ (j:Nat) (r:GR),g[j]?=some r->xA g (bn r.expr))->∃ n,bW n i g (some g)
 |0,i,g,h,_=>⟨0,.done (by omega)⟩
 |k+1,i,g,h,ha=>by
  by_cases hi:g.length<=i
  ·exact⟨0,.done hi⟩
  ·have hr:g[i]?=some g[i]:=zbC (by omega);obtain⟨n,hc⟩:=bW.again k (i+1) g (by omega) ha;exact⟨n+1,.step hr (Zy (ha i _ hr)) hc⟩
theorem qR.whole{l:List Rule}{g:List GR}(h:qR l g 0):Once g/\(∀ (j:Nat) (r:GR),g[j]?=some r->xA g (bn r.expr))/\((FD g).all (fun r=>mF r.name&&dK 50 r.expr)=true->qR (FD g) g 0):=by
 rcases h with ⟨_,_,e⟩|⟨_,⟨_,_,e⟩|⟨g0,n,R,h1,h2,⟨_,_,e⟩|⟨h3,_⟩⟩⟩
 ·cases e
 ·cases e
 ·cases e
 ·obtain⟨t,e1,o1,f1⟩:=h2.gives g h3;have ho:=o1 (Zu (by unfold Once;simp) h1);have hh:∀ (j:Nat) (r:GR),g[j]?=some r->xA g (bn r.expr):=fun j r hr=>f1 j r (Nat.zero_le _) hr
  refine⟨ho,hh,fun ha=>.inr ⟨ha,.inr ?_⟩⟩;obtain⟨n',hc⟩:=bW.again g.length 0 g (by omega) hh;exact⟨g,n',some g,by simpa using Zx g [] (by simpa using ho),hc,.inr ⟨rfl,rfl⟩⟩
end Go.Proofs.YtahibnnhjahmnaaGreatDoor
namespace Go.Proofs.YtahibnnhjahmnaaGreatDoor
def lY(g:List GR):Nat:=(g.map fun r=>r.expr.tw).sum
def ko(l:List Rule):Nat:=(l.map fun r=>r.expr.tw+1).sum
theorem Iq(k lo hi:Int)(x ns:List Int)(kids:List Tree):(Tree.mk k x ns lo hi kids).tw=1+x.length+ns.length+(kids.map Tree.tw).sum:=by rw[Tree.tw]
theorem Ir(k lo hi:Int)(x ns:List Int)(kids:List Tree):fO (.mk k x ns lo hi kids)=if k=1 then kids else [.mk k x ns lo hi kids]:=rfl
theorem zur(a b:Tree):fO (uD a b)=fO a++fO b:=by
 unfold uD;rw[Ir,if_pos rfl]
theorem Tz(t:Tree):((fO t).map Tree.tw).sum<=t.tw:=by
 obtain⟨k,x,ns,lo,hi,kids⟩:=t;rw[Ir];by_cases h:k=1
 ·rw[if_pos h,Iq];omega
 ·rw[if_neg h];simp
theorem qb0(a b:Tree):(uD a b).tw<=a.tw+b.tw+1:=by
 unfold uD;rw[Iq,List.map_append,List.sum_append];have:=Tz a;have:=Tz b;simp;omega
theorem Zz(g:List GR)(r:GR):lY (g++[r])=lY g+r.expr.tw:=by simp[lY]
theorem ZA:∀ {g:List GR} {i:Nat} {r:GR} (e:GR),g[i]?=some r->lY (g.set i e)+r.expr.tw=lY g+e.expr.tw
 |[],i,r,e,h=>by simp at h
 |u::g,0,r,e,h=>by
  simp at h;subst h;simp[lY];omega
 |u::g,i+1,r,e,h=>by
  simp at h;have:=ZA e h;simp[lY]at this ⊢;omega
theorem ZB{g:List GR}{r:GR}(h:r∈g):r.expr.tw<=lY g:=by
 induction g with
 |nil=>cases h
 |cons u g ih =>
  simp only[lY,List.map_cons,List.sum_cons];rcases List.mem_cons.1 h with rfl|h
  ·omega
  ·have:=ih h;simp only[lY]at this;omega
theorem qb1{g g':List GR}{l:Rule}(h:jQ g l=some g'):lY g'<=lY g+l.expr.tw+1/\g'.length<=g.length+1:=by
 unfold jQ at h
 cases hf:bI g l.name with
 |none =>
  rw[hf]at h;simp only[]at h;split at h
  ·cases h
  ·have e:=zbB h;subst e;rw[Zz];simp only[zbG,List.length_cons,List.length_nil];omega
 |some i =>
  rw[hf]at h;simp only[]at h;split at h
  ·obtain⟨⟨r,h1,_⟩,_⟩:=tN.1 hf;rw[h1]at h;have e:=zbB h;subst e;have:=ZA ⟨r.name,uD r.expr l.expr⟩ h1;have:=qb0 r.expr l.expr;simp at *;omega
  ·cases h
theorem TA:∀ {ls:List Rule} {g g':List GR},lg g ls=some g'->lY g'<=lY g+ko ls/\g'.length<=g.length+ls.length
 |[],g,g',h=>by
  have e:=zbB h;subst e;simp[ko]
 |l::ls,g,g',h=>by
  rw[Al]at h
  cases hm:jQ g l with
  |none=>rw[hm]at h;cases h
  |some g1 =>
   rw[hm]at h;have h1:=qb1 hm;have h2:=TA (ls:=ls) (g:=g1) (g':=g') h;simp only[ko,List.map_cons,List.sum_cons,List.length_cons]at h2 ⊢;omega
theorem K5:∀ (n:Nat) (t:Tree),t.tw<=n->dep t<=t.tw/\(bn t).length<=t.tw:=by
 intro n
 induction n with
 |zero =>
  intro t h;obtain⟨k,x,ns,lo,hi,kids⟩:=t;rw[Iq]at h;omega
 |succ n ih =>
  intro t h;obtain⟨k,x,ns,lo,hi,kids⟩:=t;rw[Iq]at h
  have hk:∀ u∈kids,u.tw<=n:=fun u hu=>by
   have:u.tw<=(kids.map Tree.tw).sum:=by
    clear h ih
    induction kids with
    |nil=>cases hu
    |cons v kids ih =>
     simp only[List.map_cons,List.sum_cons];rcases List.mem_cons.1 hu with rfl|hu
     ·omega
     ·have:=ih hu;omega
   omega
  constructor
  ·have hd:(kids.map dep).foldr max 0<=(kids.map Tree.tw).sum:=by
    have:∀ l:List Tree,(∀ u∈l,u.tw<=n)->(l.map dep).foldr max 0<=(l.map Tree.tw).sum:=fun l hl=>by
     induction l with
     |nil=>simp
     |cons v l ihl =>
      have h1:=(ih v (hl v (by simp))).1;have h2:=ihl (fun u hu=>hl u (by simp[hu]));simp only[List.map_cons,List.foldr_cons,List.sum_cons];omega
    exact this kids hk
   rw[dep,Iq];omega
  ·have hd:((kids.map bn).flatten).length<=(kids.map Tree.tw).sum:=by
    have:∀ l:List Tree,(∀ u∈l,u.tw<=n)->((l.map bn).flatten).length<=(l.map Tree.tw).sum:=fun l hl=>by
     induction l with
     |nil=>simp
     |cons v l ihl =>
      have h1:=(ih v (hl v (by simp))).2;have h2:=ihl (fun u hu=>hl u (by simp[hu]));simp only[List.map_cons,List.flatten_cons,zbG,List.sum_cons];omega
    exact this kids hk
   rw[Dr,Iq,zbG];have:(if k=4 then [x] else []).length<=1:=by split<;>simp
   omega
def Fit(d:Nat)(t:Tree):Prop:=dK (d+1) t=true/\(∀ u∈fO t,dK d u=true)/\1<=(fO t).length
theorem Fit.merge{d:Nat}{a b:Tree}(ha:Fit d a)(hb:Fit d b):Fit d (uD a b):=by
 have hl:2<=(fO a++fO b).length:=by
  have:=ha.2.2;have:=hb.2.2;rw[zbG];omega
 have hr:∀ u∈fO a++fO b,dK d u=true:=fun u hu=>(List.mem_append.1 hu).elim (ha.2.1 u) (hb.2.1 u)
 have e:=zur a b;refine⟨?_,by rw[e];exact hr,by rw[e];omega⟩;unfold uD dK;rw[zbJ,List.all_eq_true];refine⟨?_,hr⟩;unfold oo;rw[if_pos (.inl rfl)];simpa using hl
def zB(g:List GR):Prop:=∀ r∈g,mF r.name=true/\Fit 49 r.expr
theorem qb2{g g':List GR}{l:Rule}(hg:zB g)(hl:mF l.name=true/\Fit 49 l.expr)(h:jQ g l=some g'):zB g':=by
 unfold jQ at h
 cases hf:bI g l.name with
 |none =>
  rw[hf]at h;simp only[]at h;split at h
  ·cases h
  ·have e:=zbB h;subst e;intro r hr;rcases List.mem_append.1 hr with hr|hr
   ·exact hg r hr
   ·simp at hr;subst hr;exact hl
 |some i =>
  rw[hf]at h;simp only[]at h;split at h
  ·obtain⟨⟨r,h1,_⟩,_⟩:=tN.1 hf;rw[h1]at h;have e:=zbB h;subst e;intro u hu;rcases List.mem_or_eq_of_mem_set hu with hu|rfl
   ·exact hg u hu
   ·have:=hg r (zbI h1);exact⟨this.1,this.2.merge hl.2⟩
  ·cases h
theorem ZC:∀ {ls:List Rule} {g g':List GR},zB g->(∀ l∈ls,mF l.name=true/\Fit 49 l.expr)->lg g ls=some g'->zB g'
 |[],g,g',hg,_,h=>by
  have e:=zbB h;subst e;exact hg
 |l::ls,g,g',hg,hl,h=>by
  rw[Al]at h
  cases hm:jQ g l with
  |none=>rw[hm]at h;cases h
  |some g1 =>
   rw[hm]at h;exact ZC (qb2 hg (hl l (by simp)) hm) (fun r hr=>hl r (by simp[hr])) h
def Cw(d:Nat)(t:Tree):Bool:=dK (d+1) t&&(fO t).all (dK d)&&decide (1<=(fO t).length)
theorem qb3{d:Nat}{t:Tree}:Cw d t=true ↔ Fit d t:=by
 unfold Cw Fit;simp only[zbJ,List.all_eq_true,decide_eq_true_eq,and_assoc]
theorem qb4:fJ.all (fun r=>mF r.name&&Cw 49 r.expr)=true:=by decide +kernel
theorem qdf{g g':List GR}{x:List Int}(h:dO g x=some g'):∀ r∈g',r∈g\/r∈fJ:=by
 unfold dO at h
 cases hf:bI g x with
 |some i =>
  rw[hf]at h;have e:=zbB h;subst e;exact fun r hr=>.inl hr
 |none =>
  rw[hf]at h;simp only[]at h
  cases hc:bI fJ x with
  |none=>rw[hc]at h;cases h
  |some c =>
   rw[hc]at h;obtain⟨⟨r,h1,h2⟩,_⟩:=tN.1 hc;simp only[h1,Option.map_some]at h;have e:=zbB h;subst e;intro u hu;rcases List.mem_append.1 hu with hu|hu
   ·exact .inl hu
   ·simp at hu;subst hu;exact .inr (zbI h1)
theorem ZE:∀ {xs:List (List Int)} {g g':List GR},jw g xs=some g'->∀ r∈g',r∈g\/r∈fJ
 |[],g,g',h=>by
  have e:=zbB h;subst e;exact fun r hr=>.inl hr
 |x::xs,g,g',h=>by
  change (dO g x).bind (fun g'=>jw g' xs)=some g' at h
  cases hm:dO g x with
  |none=>rw[hm]at h;cases h
  |some g1 =>
   rw[hm]at h;intro r hr;rcases ZE (xs:=xs) (g:=g1) (g':=g') h r hr with h1|h1
   ·exact qdf hm r h1
   ·exact .inr h1
theorem bW.mem{n i:Nat}{g:List GR}{R:Option (List GR)}(h:bW n i g R):∀ g',R=some g'->∀ r∈g',r∈g\/r∈fJ:=by
 induction h with
 |done h =>
  intro g' e;have e:=zbB e;subst e;exact fun r hr=>.inl hr
 |fail=>intro g' e;cases e
 |step h1 h2 _ ih =>
  intro g' e r hr;rcases ih g' e r hr with h|h
  ·exact ZE h2 r h
  ·exact .inr h
theorem qR.fit{l:List Rule}{g:List GR}(h:qR l g 0)(hl:∀ r∈l,mF r.name=true/\Fit 49 r.expr):zB g:=by
 rcases h with ⟨_,_,e⟩|⟨_,⟨_,_,e⟩|⟨g0,n,R,h1,h2,⟨_,_,e⟩|⟨h3,_⟩⟩⟩
 ·cases e
 ·cases e
 ·cases e
 ·intro r hr;rcases h2.mem g h3 r hr with h|h
  ·exact ZC (g:=[]) (fun r hr=>by cases hr) hl h1 r h
  ·have:=List.all_eq_true.1 qb4 r h;rw[zbJ,qb3]at this;exact this
theorem qR.again{l:List Rule}{g:List GR}(h:qR l g 0)(hl:∀ r∈l,mF r.name=true/\Fit 49 r.expr):qR (FD g) g 0:=by
 refine h.whole.2.2 ?_;rw[List.all_eq_true];intro r hr;unfold FD at hr;obtain⟨u,hu,rfl⟩:=List.mem_map.1 hr;have:=h.fit hl u hu;rw[zbJ];exact⟨this.1,this.2.1⟩
end Go.Proofs.YtahibnnhjahmnaaGreatDoor
