/- Part 26 of what the laws of the grammar rest on. -/
import Derived.Test.YtahibnnhjahmnaaGreatDoorA25
set_option linter.all false
set_option maxRecDepth 100000
set_option maxHeartbeats 8000000
namespace Go.Proofs.YtahibnnhjahmnaaGreatDoor
open Go.RowKit Go.Shelf
theorem zy0{w:World}{base:Nat}{S:Nat->Prop}{X:XV}{t:Tree}(h:rG w base S X t)(hbw:base<=w.heap.size):∃ nu:List XV,nu.length=(fO t).length /\
  ∀ W,Below w.heap.size w W->Calls Tryz.prog 50 #[X.val] W (fun e W'=>∃ a c,e=.returned (.slice a nu.length c)/\Below W.heap.size W W'/\W'.ownsRow base 29 6 (.slice a nu.length c) nu.length (nu.flatMap XV.cells) /\
   ((Value.slice a nu.length c).ownBlock=X.ks.ownBlock\/∃ k,(Value.slice a nu.length c).ownBlock=some k/\W.heap.size<=k)/\∀ (j:Nat) (Z:XV) (u:Tree),nu[j]?=some Z->(fO t)[j]?=some u->dX w (fun b=>base<=b/\some b≠(Value.slice a nu.length c).ownBlock/\¬ S b) Z u):=by
 have K6:=h.tree;obtain⟨x,ns,kids,vs,rfl,htx,hto,h1,h2,h3,h4,h5,h6⟩:=h;obtain⟨k,tx,nv,lo,hi,kv⟩:=X;simp only[]at *;obtain⟨a1,c1,rfl⟩:=qG h1;obtain⟨a2,c2,rfl⟩:=qG h2;by_cases hk:k=1
 ·have e:fO (.mk k x ns lo hi kids)=kids:=by show (if k=1 then _ else _)=_;rw[if_pos hk]
  refine⟨vs,by rw[e,h3],fun W hb=>(OC (w:=W)).mono ?_⟩;rintro e' W' ⟨v,rfl,hb',⟨_,rfl⟩|⟨hne,_⟩⟩
  ·rw[h3];exact⟨a2,c2,rfl,hb',mI (mI h2 hb) hb',.inl rfl,fun j Z u hZ hu=>h6 j Z u hZ (by rwa[e]at hu)⟩
  ·exact absurd hk hne
 ·have e:fO (.mk k x ns lo hi kids)=[.mk k x ns lo hi kids]:=by show (if k=1 then _ else _)=_;rw[if_neg hk]
  refine⟨[⟨k,tx,.slice a1 ns.length c1,lo,hi,.slice a2 kids.length c2⟩],by rw[e];rfl,fun W hb=>(OC (w:=W)).mono ?_⟩;rintro e' W' ⟨v,rfl,hb',⟨h1',_⟩|⟨hne,g,rfl,hg,ru⟩⟩
  ·exact absurd h1' hk
  ·have hs:=hb.size;refine⟨some ⟨g,0,none⟩,1,rfl,hb',?_,.inr ⟨g,rfl,hg⟩,fun j Z u hZ hu=>?_⟩
   ·exact bq (cs:=XV.arr ⟨k,tx,.slice a1 ns.length c1,lo,hi,.slice a2 kids.length c2⟩) (by omega) ru (by unfold maxLen;simp) (by simp[XV.arr])
   ·rw[e]at hu
    cases j with
    |zero =>
     simp at hZ hu;subst hZ hu;refine K6.weak (fun b hb2 hbl=>⟨hb2.1,fun e=>?_,hb2.2⟩);have:b=g:=zbB e;omega
    |succ j=>simp at hZ
theorem zy1{w:World}{P:Nat->Prop}{X:XV}{t:Tree}(h:dX w P X t)(h0:0<(fO t).length):∃ qo:List XV,qo.length=(fO t).length/\(∀ u∈qo.flatMap XV.cells,u.oneCell'=true)/\(∀ (j:Nat) (Z:XV) (u:Tree),qo[j]?=some Z->(fO t)[j]?=some u->dX w P Z u) /\
  ∀ W,Below w.heap.size w W->Calls Tryz.prog 50 #[X.val] W (fun e W'=>∃ g off c,e=.returned (.slice (some ⟨g,off,none⟩) qo.length c)/\Below W.heap.size W W'/\(∀ (j:Nat) (u:Value),(qo.flatMap XV.cells)[j]?=some u->W'.cell? ⟨g,off+j,none⟩=some u)/\g<W'.heap.size):=by
 have hE:=h
 cases h with
 |@mk k lo hi nv kv x ns kids vs ha hl h1 h2 h3 h4 =>
 obtain⟨⟨a1,n1,c1,e1⟩,a2,n2,c2,e2⟩:=hE.slices;simp only[]at e1 e2;subst e1 e2;by_cases hk:k=1
 ·have e:fO (.mk k x ns lo hi kids)=kids:=by show (if k=1 then _ else _)=_;rw[if_pos hk]
  rw[e]at h0 ⊢;refine⟨vs,h3,X7 h3 (fun i y u hy hu=>(h4 i y u hy hu).any),h4,fun W hb=>(OC (w:=W)).mono ?_⟩;rintro e' W' ⟨v,rfl,hb',⟨_,rfl⟩|⟨hne,_⟩⟩
  ·rcases h2 with ⟨hn,_⟩|⟨g,off,cap,hv,_,_,hc0,_,hc⟩
   ·omega
   ·simp only[]at hv ⊢;rw[hv,<- h3];have hgl:=hc0.lt;have hs1:=hb.size;have hs2:=hb'.size;exact⟨g,off,cap,rfl,hb',fun j u hj=>(hb'.cell (p:=⟨g,off+j,none⟩) (by show g<_;omega)).trans ((hb.cell (p:=⟨g,off+j,none⟩) hgl).trans (hc j u hj)),by omega⟩
  ·exact absurd hk hne
 ·have e:fO (.mk k x ns lo hi kids)=[.mk k x ns lo hi kids]:=by show (if k=1 then _ else _)=_;rw[if_neg hk]
  rw[e];refine⟨[⟨k,ak x,.slice a1 n1 c1,lo,hi,.slice a2 n2 c2⟩],rfl,fun u hu=>?_,fun j Z u hZ hu=>?_,fun W hb=>(OC (w:=W)).mono ?_⟩
  ·simp[XV.cells]at hu;rcases hu with rfl|rfl|rfl|rfl|rfl|rfl<;>rfl
  ·cases j with
   |zero =>
    simp at hZ hu;subst hZ hu;exact hE
   |succ j=>simp at hZ
  ·rintro e' W' ⟨v,rfl,hb',⟨h1',_⟩|⟨hne,g,rfl,hg,ru⟩⟩
   ·exact absurd h1' hk
   ·refine⟨g,0,1,rfl,hb',fun j u hj=>?_,(zbD.1 ru).1⟩;rcases OD ru with ⟨hn,_⟩|⟨g',off',cap',hv,_,_,_,hc⟩
    ·cases hn
    ·simp at hv;obtain⟨⟨rfl,rfl⟩,_⟩:=hv;exact hc j u hj
def OP(base R m:Nat)(g:List GR)(l:Rule)(w:World)(e:Ending)(w':World):Prop :=
 (jQ g l=none->e=.returned (.int .i64 41))/\(∀ g',jQ g l=some g'->e=.returned (.int .i64 0)/\∃ v' ys',TS w' base R m v' ys' g')/\∀ n0,n0<=R->n0<=m->n0<=base->Below n0 w w'
theorem zy2{g:List GR}{l:Rule}(hf:bI g l.name=none)(hm:l.more=false):jQ g l=some (g++[⟨l.name,l.expr⟩]):=by
 unfold jQ;rw[hf];show (if l.more=true then _ else _)=_
 rw[if_neg (by rw[hm];decide)]
theorem zus{g:List GR}{l:Rule}{i:Nat}{r:GR}(hf:bI g l.name=some i)(hm:l.more=true)(hr:g[i]?=some r):jQ g l=some (g.set i ⟨r.name,uD r.expr l.expr⟩):=by
 unfold jQ;rw[hf];show (if l.more=true then _ else _)=_
 rw[if_pos hm,hr];rfl
theorem zy3{g:List GR}{l:Rule}(h:(bI g l.name).isSome≠l.more):jQ g l=none:=by
 unfold jQ
 cases hf:bI g l.name with
 |none =>
  rw[hf]at h;show (if l.more=true then _ else _)=_
  rw[if_pos (by cases hm:l.more;exact absurd hm.symm h;rfl)]
 |some i =>
  rw[hf]at h;show (if l.more=true then _ else _)=_
  rw[if_neg (fun e=>h (by rw[e];rfl))]
theorem K7{W:World}{m n:Nat}{D:DataW Unit}{g:List GR}{x:List Int}{S:ByteArray}(hD:W.ownsMap Tryz.prog 9 (plainElem Tryz.prog 3) m n D)(kU:p8 D g)(hto:bJ x)(hS:S=ak x) :
  ∃ c:Int,(Instr.lookup 56 (.map (some m)) (.string S) true).run Tryz.prog W=.ok (.tuple #[.int .i64 c,.bool (bI g x).isSome]) W/\∀ i,bI g x=some i->c=i:=by
 subst hS;obtain⟨cv,ps,hrun,hcv⟩:=hD.look_ok yP Tryz.underlying56 (NW _) (plainElem_int Tryz.underlying3 (by decide)) (Hw hto);obtain⟨c,rfl,hc,hcw⟩:=plainElem_int_inv Tryz.underlying3 hcv;rw[(kU x hto).1]at hrun;refine⟨c,hrun,fun i hi=>?_⟩;have h:=(kU x hto).2 i hi;simp only[Prod.mk.injEq]at hc;rw[h]at hc;have h2:=hc.1;simp at h2;exact h2.symm
theorem oJ.under{W W':World}{base:Nat}{X:XV}{t:Tree}(h:oJ W base X t)(hb:Below W.heap.size W W'):oJ W' base X t:=by
 obtain⟨x,ns,kids,vs,ht,htx,hto,h1,h2,h3,h4⟩:=h;exact⟨x,ns,kids,vs,ht,htx,hto,mI h1 hb,mI h2 hb,h3,fun i y u hy hu=>(h4 i y u hy hu).kept (M:=fun _=>False) (zap.below hb) (fun b hb _=>⟨id,hb⟩)⟩
def oQ(S:ByteArray)(mo:Bool)(k lo hi:Int)(tx:ByteArray)(nv kv:Value):Obj:=.cells #[.string S,.bool mo,.int .i64 k,.string tx,nv,.int .i64 lo,.int .i64 hi,kv] 31
theorem ZF{w:World}{base R m:Nat}{v:Value}{ys:List RV}{g:List GR}{l:Rule}{S tx:ByteArray}{mo:Bool}{k lo hi:Int}{a1 a2:Option Addr}{n1 c1 n2 c2:Nat}(h:TS w base R m v ys g)(hR:R<base)(hm:m<base)(hne:R≠m)(hbase:base<=w.heap.size)
  (hS:S=ak l.name) (hto:bJ l.name) (hmo:mo=l.more) (hodd:(bI g l.name).isSome≠mo) :
  Calls Tryz.prog 31 #[.pointer (some ⟨R,0,none⟩),.agg #[.string S,.bool mo,.int .i64 k,.string tx,.slice a1 n1 c1,.int .i64 lo,.int .i64 hi,.slice a2 n2 c2]] w (OP base R m g l w):=by
 obtain⟨D,hD,kU⟩:=h.gB.map;obtain⟨c0,c1',hRl⟩:=h.gB.cells;have hD1:=(hD.alloc (oQ S mo k lo hi tx (.slice a1 n1 c1) (.slice a2 n2 c2))).drew;obtain⟨c,hrun,_⟩:=K7 hD1 kU hto hS;have hnone:jQ g l=none:=zy3 (by rw[<- hmo];exact hodd);have HN:=hh9 hnone;have hb:Below w.heap.size w ((w.alloc (oQ S mo k lo hi tx (.slice a1 n1 c1) (.slice a2 n2 c2))).drew):=dJ ((zbE _ _).alloc (zbA _) _) 1;have HB:=hh9 hb;obtain⟨q,hq⟩:∃ q,q=(bI g l.name).isSome:=⟨_,rfl⟩
 rw[<- hq]at hrun hodd;have a0:=jr c0 (oQ S mo k lo hi tx (.slice a1 n1 c1) (.slice a2 n2 c2));have a1':=jr c1' (oQ S mo k lo hi tx (.slice a1 n1 c1) (.slice a2 n2 c2));unfold oQ at hrun a0 a1' HB;clear h hD kU hto hD1 hnone hb hS hmo hq
 have TB:(q=true/\mo=false)\/(q=false/\mo=true):=by
  cases q<;>cases mo<;>simp at hodd ⊢
 clear hodd;rcases TB with ⟨rfl,rfl⟩|⟨rfl,rfl⟩
 all_goals
  go_enter Tryz.func31,Tryz.ntmps31;go_wp2_with fail
  go_region
  go_wp2_with fail
  go_ret;exact⟨fun _=>rfl,fun g' hg'=>by(rw[HN.out]at hg';cases hg'),fun n0 _ _ h0=>HB.out.mono (by omega)⟩
theorem qb5{w:World}{base R m:Nat}{v:Value}{ys:List RV}{g:List GR}{l:Rule}{S tx:ByteArray}{k lo hi:Int}{a1 a2:Option Addr}{n1 c1 n2 c2:Nat}(h:TS w base R m v ys g)(hR:R<base)(hm:m<base)(hne:R≠m)(hbase:base<=w.heap.size)
  (hS:S=ak l.name) (hto:bJ l.name) (hmo:l.more=false) (hf:bI g l.name=none) (hE:aM w ⟨k,tx,.slice a1 n1 c1,lo,hi,.slice a2 n2 c2⟩ l.expr) (sH:l.expr.tw<=40000000) (hlen:g.length<=1000000) :
  Calls Tryz.prog 31 #[.pointer (some ⟨R,0,none⟩),.agg #[.string S,.bool false,.int .i64 k,.string tx,.slice a1 n1 c1,.int .i64 lo,.int .i64 hi,.slice a2 n2 c2]] w (OP base R m g l w):=by
 obtain⟨D,hD,kU⟩:=h.gB.map;obtain⟨c0,c1',hRl⟩:=h.gB.cells;have hD1:=(hD.alloc (oQ S false k lo hi tx (.slice a1 n1 c1) (.slice a2 n2 c2))).drew;obtain⟨c,hrun,_⟩:=K7 hD1 kU hto hS;rw[hf]at hrun;change _=Result.ok (Value.tuple #[.int .i64 c,.bool false]) _ at hrun;have hb:Below w.heap.size w ((w.alloc (oQ S false k lo hi tx (.slice a1 n1 c1) (.slice a2 n2 c2))).drew):=dJ ((zbE _ _).alloc (zbA _) _) 1;have HB:=hh9 hb;have HC:=hh9 (X8 l.expr.tw _ _ _ (hE.under hb) (zbA _) (by omega));have HN:=hh9 (zy2 hf hmo);have HH:=hh9 h;have HF:=hh9 hf;have HS:=hh9 hS;have Ke:=hh9 hto;have a0:=jr c0 (oQ S false k lo hi tx (.slice a1 n1 c1) (.slice a2 n2 c2));have a1':=jr c1' (oQ S false k lo hi tx (.slice a1 n1 c1) (.slice a2 n2 c2));have hX:((w.alloc (oQ S false k lo hi tx (.slice a1 n1 c1) (.slice a2 n2 c2))).drew).heap[w.heap.size]?=some (oQ S false k lo hi tx (.slice a1 n1 c1) (.slice a2 n2 c2)):=zbO w _;unfold oQ at hrun a0 a1' HB HC hX;unfold XV.val at HC;simp only[]at HC;have HX:=hh9 hX;clear h hD kU hto hD1 hb hS hmo hE hf hX;go_enter Tryz.func31,Tryz.ntmps31;go_wp2_with fail
 go_region
 go_wp2_with fail
 refine HC.out.mono ?_;rintro e w2 ⟨X',rfl,hT,hb2⟩;obtain⟨k',rz,pI,lo',hi',kv',p1,p2,p3,p5,p6,p7,rfl,rfl,rfl⟩:=RZ hT;have hs1:((w.alloc (oQ S false k lo hi tx (.slice a1 n1 c1) (.slice a2 n2 c2))).drew).heap.size=w.heap.size+1:=by simp
 unfold oQ at hs1;have hs2:=hb2.size;rw[hs1]at hT hs2;have xB:=aJ HB.out hb2;have hX2:=(hb2.block w.heap.size (by rw[hs1];omega)).trans HX.out;have l0:w2.cell? ⟨w.heap.size,0,none⟩=some (.string S):=by unfold World.cell?;simp only[hX2];rfl
 have l0':=jr l0 (.cells #[.int .i64 k',.string rz,.slice p1 p2 p3,.int .i64 lo',.int .i64 hi',.slice p5 p6 p7] 29);have hb3:Below w2.heap.size w2 (w2.alloc (.cells #[.int .i64 k',.string rz,.slice p1 p2 p3,.int .i64 lo',.int .i64 hi',.slice p5 p6 p7] 29)):=(zbE _ _).alloc (zbA _) _;have HB3:=hh9 (aJ xB hb3);have HT3:=hh9 (hT.under hb3);have aG:=hh9 (HH.out.gB.below HB3.out);have hs3:w.heap.size<=(w2.alloc (.cells #[.int .i64 k',.string rz,.slice p1 p2 p3,.int .i64 lo',.int .i64 hi',.slice p5 p6 p7] 29)).heap.size:=HB3.out.size;have sQ:=hh9 (X3 aG.out hR hm hne (by omega) ⟨S,⟨k',rz,.slice p1 p2 p3,lo',hi',.slice p5 p6 p7⟩⟩ ⟨l.name,l.expr⟩ ⟨HS.out,Ke.out⟩ HF.out hlen rfl rfl);unfold RV.val RV.arr at sQ;simp only[]at sQ;clear hX2 xB hb3 hT hb2 a0 a1' hrun;unfold XV.val;go_wp2_with fail
 refine sQ.out.mono ?_;rintro e w4 ⟨rfl,v',hg4,hk4,ho4,zC,hb4⟩;go_wp2_with fail
 go_ret;refine⟨fun hn=>by(rw[HN.out]at hn;cases hn),fun g' hg'=>?_,fun n0 h1 h2 h3=>(HB3.out.mono (by omega)).trans (hb4 n0 h1 h2 h3)⟩;rw[HN.out]at hg';have e:=zbB hg';subst e;exact⟨rfl,_,_,HH.out.pushed HB3.out (by omega) (by omega) HT3.out hR hm hg4 hk4 ho4⟩
theorem zut{W:World}{base:Nat}{S:Nat->Prop}{X:XV}{t:Tree}(h:rG W base S X t):∃ k tx lo hi a1 n1 c1 a2 n2 c2,X=⟨k,tx,.slice a1 n1 c1,lo,hi,.slice a2 n2 c2⟩:=by
 obtain⟨x,ns,kids,vs,rfl,htx,hto,h1,h2,_⟩:=h;obtain⟨k,tx,nv,lo,hi,kv⟩:=X;obtain⟨a1,c1,e1⟩:=qG h1;obtain⟨a2,c2,e2⟩:=qG h2;simp only[]at e1 e2;subst e1 e2;exact⟨_,_,_,_,_,_,_,_,_,_,rfl⟩
theorem OQ(t:Tree):(fO t).length<=t.tw:=zbH (RU _) (Tz t)
theorem zuu{W:World}{g off:Nat}{xs:List Value}(h:∀ (j:Nat) (u:Value),xs[j]?=some u->W.cell? ⟨g,off+j,none⟩=some u):∀ (j:Nat) (u:Value),xs[j]?=some u->W.cell? ((⟨g,off,none⟩:Addr).add j)=some u:=fun j u hj=>by
 have e:(⟨g,off,none⟩:Addr).add j=⟨g,off+j,none⟩:=by cases j<;>simp[Addr.add]
 rw[e];exact h j u hj
theorem zy4{w:World}{base R m i:Nat}{v:Value}{ys:List RV}{g:List GR}{l:Rule}{S tx:ByteArray}{k lo hi:Int}{a1 a2:Option Addr}{n1 c1 n2 c2:Nat}(h:TS w base R m v ys g)(hR:R<base)(hm:m<base)(hne:R≠m)(hbase:base<=w.heap.size)
  (hS:S=ak l.name) (hto:bJ l.name) (hmo:l.more=true) (hf:bI g l.name=some i) (hE:aM w ⟨k,tx,.slice a1 n1 c1,lo,hi,.slice a2 n2 c2⟩ l.expr) (hpos:0<(fO l.expr).length) (sH:l.expr.tw<=40000000) (hgw:∀ r∈g,r.expr.tw<=40000000) (hlen:g.length<=1000000) :
  Calls Tryz.prog 31 #[.pointer (some ⟨R,0,none⟩),.agg #[.string S,.bool true,.int .i64 k,.string tx,.slice a1 n1 c1,.int .i64 lo,.int .i64 hi,.slice a2 n2 c2]] w (OP base R m g l w):=by
 obtain⟨D,hD,kU⟩:=h.gB.map;obtain⟨c0,c1',hRl⟩:=h.gB.cells;have hD1:=(hD.alloc (oQ S true k lo hi tx (.slice a1 n1 c1) (.slice a2 n2 c2))).drew;obtain⟨c,hrun,hci⟩:=K7 hD1 kU hto hS;obtain rfl:=hci i hf;rw[hf]at hrun;change _=Result.ok (Value.tuple #[.int .i64 (i:Int),.bool true]) _ at hrun;obtain⟨⟨r,hr,hrn⟩,_⟩:=tN.1 hf;have hil:=Qn hf;obtain⟨y,hy⟩:∃ y,ys[i]?=some y:=⟨_,zbC (by rw[h.gB.len];exact hil)⟩
 have htop:=h.top i y r hy hr;obtain⟨ZG,XY⟩:=y;obtain⟨kY,ZH,ZI,ZJ,b1,m1,d1,b2,m2,d2,rfl⟩:=zut htop;obtain⟨nu,KZ,hP⟩:=zy0 htop hbase
 obtain⟨gr,KS,hv⟩:∃ gr cap,v=.slice (some ⟨gr,0,none⟩) g.length cap:=by
  rcases fB h.gB.row with ⟨_,h0⟩|⟨g1,Fx,h1⟩
  ·omega
  ·exact⟨_,_,h1⟩
 subst hv;have K8:=iX h.gB.row;have CX:∀ (j:Nat) (u:Value),j<7->(RV.cells ⟨ZG,⟨kY,ZH,.slice b1 m1 d1,ZI,ZJ,.slice b2 m2 d2⟩⟩)[j]?=some u->w.cell? ⟨gr,i*7+j,none⟩=some u:=fun j u hj hu=>eZ h.gB.row ((uI ys i j _ hy hj).trans hu)
 have lF:=hh9 CX;have hb:Below w.heap.size w ((w.alloc (oQ S true k lo hi tx (.slice a1 n1 c1) (.slice a2 n2 c2))).drew):=dJ ((zbE _ _).alloc (zbA _) _) 1;have HB:=hh9 hb;have HC:=hh9 (X8 l.expr.tw _ _ _ (hE.under hb) (zbA _) (by omega));have HN:=hh9 (zus hf hmo hr);have HH:=hh9 h;have HHY:=hh9 hy;have HHR:=hh9 hr;have hlr:=zbH (OQ r.expr) (hgw r (zbI hr));have hle:=zbH (OQ l.expr) sH;have HP:=hh9 hP;have TD:=hh9 KZ;have a0:=jr c0 (oQ S true k lo hi tx (.slice a1 n1 c1) (.slice a2 n2 c2));have a1':=jr c1' (oQ S true k lo hi tx (.slice a1 n1 c1) (.slice a2 n2 c2));have hX:((w.alloc (oQ S true k lo hi tx (.slice a1 n1 c1) (.slice a2 n2 c2))).drew).heap[w.heap.size]?=some (oQ S true k lo hi tx (.slice a1 n1 c1) (.slice a2 n2 c2)):=zbO w _;unfold oQ at hrun a0 a1' HB HC hX;unfold XV.val at HC HP;simp only[]at HC HP;have HX:=hh9 hX;have OI:=hh9 c0;clear h hD kU hto hD1 hb hS hmo hE hf hX CX htop hP KZ hgw hci hy hr c0 c1';go_enter Tryz.func31,Tryz.ntmps31;go_wp2_with fail
 go_region
 go_wp2_with fail
 refine HC.out.mono ?_;rintro e w2 ⟨X',rfl,hT,hb2⟩;obtain⟨k',rz,pI,lo',hi',kv',p1,p2,p3,p5,p6,p7,rfl,rfl,rfl⟩:=RZ hT;have hs1:((w.alloc (oQ S true k lo hi tx (.slice a1 n1 c1) (.slice a2 n2 c2))).drew).heap.size=w.heap.size+1:=by simp
 unfold oQ at hs1;have hs2:=hb2.size;rw[hs1]at hT hs2;have xB:=aJ HB.out hb2;have hb3:Below w2.heap.size w2 (w2.alloc (.cells #[.int .i64 k',.string rz,.slice p1 p2 p3,.int .i64 lo',.int .i64 hi',.slice p5 p6 p7] 29)):=(zbE _ _).alloc (zbA _) _;have K9:Below w2.heap.size w2 ((w2.alloc (.cells #[.int .i64 k',.string rz,.slice p1 p2 p3,.int .i64 lo',.int .i64 hi',.slice p5 p6 p7] 29)).drew):=dJ hb3 1;have HB3:=hh9 (aJ xB hb3);have TF:=hh9 (aJ xB K9);have HT3:=hh9 (hT.under hb3);obtain⟨qo,OO,ZK,hEe,KX⟩:=zy1 HT3.out.tree hpos;have jY:=hh9 OO;have HOE:=hh9 ZK;have oD:=hh9 hEe;have Fz:=hh9 KX;unfold XV.val at Fz;simp only[]at Fz;have Js:=hh9 (HP.out _ TF.out);have ZL:(w2.alloc (.cells #[.int .i64 k',.string rz,.slice p1 p2 p3,.int .i64 lo',.int .i64 hi',.slice p5 p6 p7] 29)).heap[w2.heap.size]?=some (.cells #[.int .i64 k',.string rz,.slice p1 p2 p3,.int .i64 lo',.int .i64 hi',.slice p5 p6 p7] 29 (0,0)):=zbO w2 _;have DZ:=hh9 ZL;have HFW:=hh9 (fun (W:World) (hW:Below w.heap.size w W)=>(show W.cell? ⟨R,0,none⟩=_ from(hW.cell (p:=⟨R,0,none⟩) hRl).trans OI.out));have wH:=hh9 (fun (W:World) (hW:Below w.heap.size w W) (j:Nat) (u:Value) (hj:j<7) (hu:(RV.cells ⟨ZG,⟨kY,ZH,.slice b1 m1 d1,ZI,ZJ,.slice b2 m2 d2⟩⟩)[j]?=some u)=>(show W.cell? ⟨gr,i*7+j,none⟩=some u from(hW.cell (p:=⟨gr,i*7+j,none⟩) K8.2.2.2).trans (lF.out j u hj hu)));have r0:=HFW.out _ HB3.out;have g1:=wH.out _ HB3.out 1 _ (by omega) rfl;have g2:=wH.out _ HB3.out 2 _ (by omega) rfl;have g3:=wH.out _ HB3.out 3 _ (by omega) rfl;have g4:=wH.out _ HB3.out 4 _ (by omega) rfl;have g5:=wH.out _ HB3.out 5 _ (by omega) rfl;have g6:=wH.out _ HB3.out 6 _ (by omega) rfl;have q1:decide ((i:Int)<(g.length:Int))=true:=zbN (by omega);clear xB hb3 K9 hT hb2 a0 a1' hrun ZL hEe KX ZK OO;unfold XV.val;go_wp2_with fail
 obtain⟨i0,hi0,hz0,hz1,hz2⟩:=info_parts RQ
 have t7:∀ (W:World),W.heap[w2.heap.size]?=some (.cells #[.int .i64 k',.string rz,.slice p1 p2 p3,.int .i64 lo',.int .i64 hi',.slice p5 p6 p7] 29 (0,0))->W.cell? ⟨w2.heap.size,0,none⟩=some (.int .i64 k')/\W.cell? ⟨w2.heap.size,1,none⟩=some (.string rz)/\W.cell? ⟨w2.heap.size,2,none⟩=some (.slice p1 p2 p3)/\W.cell? ⟨w2.heap.size,3,none⟩=some (.int .i64 lo')/\W.cell? ⟨w2.heap.size,4,none⟩=some (.int .i64 hi')/\W.cell? ⟨w2.heap.size,5,none⟩=some (.slice p5 p6 p7):=fun W hW=>by
  refine⟨?_,?_,?_,?_,?_,?_⟩<;>(unfold World.cell?;simp only[hW];rfl)
 obtain⟨y0,y1,y2,y3,y4,y5⟩:=t7 _ DZ.out;have TG:=hh9 t7;have TH:w2.heap.size<(w2.alloc (.cells #[.int .i64 k',.string rz,.slice p1 p2 p3,.int .i64 lo',.int .i64 hi',.slice p5 p6 p7] 29)).heap.size:=by simp
 clear t7
 go_region_law (first
  |((try go_simp);go_at_call 50;(with_reducible (refine Js.out.mono ?_));rintro e w4 ⟨va,ZM,rfl,hb4,sS,zC,ZN⟩;have eB:=hh9 hb4;have sU:=hh9 sS;have TI:=hh9 zC;have su:=hh9 ZN;have zD:=hh9 (show Below (w2.alloc (.cells #[.int .i64 k',.string rz,.slice p1 p2 p3,.int .i64 lo',.int .i64 hi',.slice p5 p6 p7] 29)).heap.size (w2.alloc (.cells #[.int .i64 k',.string rz,.slice p1 p2 p3,.int .i64 lo',.int .i64 hi',.slice p5 p6 p7] 29)) w4 from(show Below _ _ ((w2.alloc (.cells #[.int .i64 k',.string rz,.slice p1 p2 p3,.int .i64 lo',.int .i64 hi',.slice p5 p6 p7] 29)).drew) from dJ (zbE _ _) 1).trans hb4);have Hu:=hh9 (Fz.out _ zD.out);have La:=(zD.out.block _ TH).trans DZ.out;obtain⟨z0,z1,z2,z3,z4,z5⟩:=TG.out _ La;clear hb4 sS zC ZN La)
  |((try go_simp);go_at_call 50;(with_reducible (refine Hu.out.mono ?_));rintro e w5 ⟨gE,TJ,cE,rfl,hb5,ZO,OE⟩;have iR:=hh9 hb5;have TK:=hh9 (zuu ZO);have vY:=hh9 (mI sU.out hb5);have TL:base<=w5.heap.size:=(by have h1:=zD.out.size;have h2:=hb5.size;have h3:=HB3.out.size;omega);clear hb5 ZO)
  |(refine step_append_lies _ (by rfl) _ _ _ (by rfl) base 29 i0 _ 6 88 Tryz.underlying27 hi0 hz0 hz1 hz2 rfl (by decide) (.slice va nu.length ZM) nu.length (nu.flatMap XV.cells) (by rfl) vY.out ⟨gE,TJ,none⟩ qo.length cE (qo.flatMap XV.cells) (by rfl) (Qe qo) TK.out HOE.out (by have:=jY.out;omega) (by have h1:=jY.out;have h2:=TD.out;unfold maxLen;omega) (by have h1:=jY.out;have h2:=TD.out;omega) TL w5.heap.size rfl ?_;intro gb FE w9 sV zF Lb zaH;have Ld:=hh9 sV;have oU:=hh9 zF;have TM:=hh9 Lb;clear sV zF Lb)
  |fail)
 all_goals
  have zG:=aJ (aJ HB3.out zD.out) iR.out;have hs5:=zG.size;have Ca:=lD vY.out;obtain⟨zaI,D6⟩:=ou HH.out.gB.row (b:=gr) rfl;have hgr5:=zG.block gr K8.2.2.2
  have zA:(Value.slice va nu.length ZM).ownBlock≠some gr:=fun e=>by
   have:=AB vY.out e (hgr5.trans D6);revert this
   decide
  have ny:=(oU.out.block gr (by omega) (fun e=>zA e.symm)).trans hgr5;have ZP:=(oU.out.block R (by omega) (fun e=>by have:=Ca R e.symm;omega)).trans (zG.block R hRl);have r9:w9.cell? ⟨R,0,none⟩=some (.slice (some ⟨gr,0,none⟩) g.length KS):=(World.cell?_of_block ZP).trans OI.out;have x1:w9.cell? ⟨gr,i*7+1,none⟩=_:=(World.cell?_of_block ny).trans (lF.out 1 _ (by omega) rfl);have x2:w9.cell? ⟨gr,i*7+2,none⟩=_:=(World.cell?_of_block ny).trans (lF.out 2 _ (by omega) rfl);have x3:w9.cell? ⟨gr,i*7+3,none⟩=_:=(World.cell?_of_block ny).trans (lF.out 3 _ (by omega) rfl);have x4:w9.cell? ⟨gr,i*7+4,none⟩=_:=(World.cell?_of_block ny).trans (lF.out 4 _ (by omega) rfl);have x5:w9.cell? ⟨gr,i*7+5,none⟩=_:=(World.cell?_of_block ny).trans (lF.out 5 _ (by omega) rfl);have x6:w9.cell? ⟨gr,i*7+6,none⟩=_:=(World.cell?_of_block ny).trans (lF.out 6 _ (by omega) rfl);have f1:w9.frozen? ⟨gr,i*7+1,none⟩=false:=(World.frozen?_of_block ny).trans (AJ HH.out.gB.row _);have f2:w9.frozen? ⟨gr,i*7+2,none⟩=false:=(World.frozen?_of_block ny).trans (AJ HH.out.gB.row _);have f3:w9.frozen? ⟨gr,i*7+3,none⟩=false:=(World.frozen?_of_block ny).trans (AJ HH.out.gB.row _);have f4:w9.frozen? ⟨gr,i*7+4,none⟩=false:=(World.frozen?_of_block ny).trans (AJ HH.out.gB.row _);have f5:w9.frozen? ⟨gr,i*7+5,none⟩=false:=(World.frozen?_of_block ny).trans (AJ HH.out.gB.row _);have f6:w9.frozen? ⟨gr,i*7+6,none⟩=false:=(World.frozen?_of_block ny).trans (AJ HH.out.gB.row _)
  have sV:w9.ownsRow base 29 6 (.slice (some ⟨gb,0,none⟩) (nu.length+qo.length) FE) (nu++qo).length ((nu++qo).flatMap XV.cells):=by
   rw[zbG,List.flatMap_append];exact Ld.out
  have HM:=hh9 (HH.out.merged (wB:=w2.alloc (.cells #[.int .i64 k',.string rz,.slice p1 p2 p3,.int .i64 lo',.int .i64 hi',.slice p5 p6 p7] 29)) (wX:=w5) (w9:=w9) (n:=w.heap.size+1) (v':=.slice (some ⟨gb,0,none⟩) (nu.length+qo.length) FE)
   HB3.out (by omega) (by simp;omega) (by omega) hR hm HHY.out HHR.out (aJ zD.out iR.out) TI.out TD.out su.out jY.out oD.out sV oU.out (TM.out.elim (fun e=>.inl e.symm) (fun e=>.inr (by rw[e];rfl))) (fun b hb=>by obtain⟨cur,hcur⟩:=ou vY.out hb;exact⟨_,_,hcur⟩))
  have hbel:∀ n0,n0<=R->n0<=m->n0<=base->Below n0 w (ni w9 gr (i*7+1) ⟨1,⟨#[]⟩,.slice none 0 0,0,0,.slice (some ⟨gb,0,none⟩) (nu.length+qo.length) FE⟩):=fun n0 h1 h2 h3 =>
   (((zG.mono (show n0<=w.heap.size by omega)).grown oU.out (by omega) (fun b e=>by have:=Ca b e;omega))).grown (Hy _ _ _ _) (by have:=oU.out.size;omega) (fun b e=>by have:=zbB e;omega)
  have aA:=hh9 hbel;unfold ni at HM aA;simp only[]at HM aA;clear zG Ca hgr5 zA ny ZP sV hbel D6 r0 g1 g2 g3 g4 g5 g6 y0 y1 y2 y3 y4 y5 z0 z1 z2 z3 z4 z5;go_wp2_with fail
  go_ret;refine⟨fun hn=>by(rw[HN.out]at hn;cases hn),fun g' hg'=>?_,aA.out⟩;rw[HN.out]at hg';have e:=zbB hg';subst e;exact⟨rfl,_,_,HM.out⟩
theorem qb6{w:World}{base R m:Nat}{v:Value}{ys:List RV}{g:List GR}{Y:LV}{l:Rule}(h:TS w base R m v ys g)(hR:R<base)(hm:m<base)(hne:R≠m)(hbase:base<=w.heap.size)(hl:DC w Y l)(hpos:0<(fO l.expr).length)(sH:l.expr.tw<=40000000)
  (hgw:∀ r∈g,r.expr.tw<=40000000) (hlen:g.length<=1000000):Calls Tryz.prog 31 #[.pointer (some ⟨R,0,none⟩),Y.val] w (OP base R m g l w):=by
 obtain⟨hyn,OT,hyl,hym,DX⟩:=hl;obtain⟨nm,mo,⟨k,tx,nv,lo,hi,kv⟩⟩:=Y;simp only[]at hyn hym DX;obtain⟨x,ns,kids,vs,_,_,_,hr1,hr2,_⟩:=DX.forms;obtain⟨na,nc,AL,_⟩:=hr1.slice;obtain⟨ka,kc,hkv,_⟩:=hr2.slice;simp only[]at AL hkv;subst AL hkv
 cases hf:bI g l.name with
 |none =>
  cases hmo:l.more with
  |false =>
   have e:mo=false:=hym.trans hmo;subst e;exact qb5 h hR hm hne hbase hyn ⟨OT,hyl⟩ hmo hf DX sH hlen
  |true=>exact ZF h hR hm hne hbase hyn ⟨OT,hyl⟩ hym (by rw[hf];show _≠mo;rw[show mo=true from hym.trans hmo];simp)
 |some i =>
  cases hmo:l.more with
  |false=>exact ZF h hR hm hne hbase hyn ⟨OT,hyl⟩ hym (by rw[hf];show _≠mo;rw[show mo=false from hym.trans hmo];simp)
  |true =>
   have e:mo=true:=hym.trans hmo;subst e;exact zy4 h hR hm hne hbase hyn ⟨OT,hyl⟩ hmo hf DX hpos sH hgw hlen
end Go.Proofs.YtahibnnhjahmnaaGreatDoor
