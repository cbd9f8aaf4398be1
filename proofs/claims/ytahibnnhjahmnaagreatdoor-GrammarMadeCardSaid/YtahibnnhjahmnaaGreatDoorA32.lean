/- Part 32 of what the laws of the grammar rest on. -/
import Derived.Test.YtahibnnhjahmnaaGreatDoorA29
import Derived.Test.YtahibnnhjahmnaaGreatDoorA31
set_option linter.all false
set_option maxRecDepth 100000
set_option maxHeartbeats 8000000
namespace Go.Proofs.YtahibnnhjahmnaaGreatDoor
open Go.RowKit
def lH(W:World)(P:Nat->Prop)(v:Value)(n:Nat)(xs:List Value):Prop :=
 (n=0/\∃ a cap,v=.slice a 0 cap)\/∃ g off cap,v=.slice (some ⟨g,off,none⟩) n cap/\n<=cap/\cap<=maxLen/\g<W.heap.size/\P g/\∀ (j:Nat) (u:Value),xs[j]?=some u->W.cell? ⟨g,off+j,none⟩=some u
theorem lH.any{W:World}{P:Nat->Prop}{v:Value}{n:Nat}{xs:List Value}(h:lH W P v n xs):au W v n xs:=by
 rcases h with h|⟨g,off,cap,h1,h2,h3,h4,_,h5⟩
 ·exact .inl h
 ·exact .inr ⟨g,off,cap,h1,h2,h3,h4,h5⟩
theorem lH.of{W:World}{P:Nat->Prop}{v:Value}{n:Nat}{xs:List Value}(h:au W v n xs)(hP:∀ b,b<W.heap.size->P b):lH W P v n xs:=by
 rcases h with h|⟨g,off,cap,h1,h2,h3,h4,h5⟩
 ·exact .inl h
 ·exact .inr ⟨g,off,cap,h1,h2,h3,h4,hP g h4,h5⟩
def Eh(W W':World)(P P':Nat->Prop):Prop:=W.heap.size<=W'.heap.size/\∀ b,P b->b<W.heap.size->W'.heap[b]?=W.heap[b]?/\P' b
theorem lH.kept{W W':World}{P P':Nat->Prop}{v:Value}{n:Nat}{xs:List Value}(h:lH W P v n xs)(hk:Eh W W' P P'):lH W' P' v n xs:=by
 rcases h with h|⟨g,off,cap,h1,h2,h3,h4,hP,h5⟩
 ·exact .inl h
 ·exact .inr ⟨g,off,cap,h1,h2,h3,Nat.lt_of_lt_of_le h4 hk.1,(hk.2 g hP h4).2,fun j u hj=>(World.cell?_of_block (a:=⟨g,off+j,none⟩) (hk.2 g hP h4).1).trans (h5 j u hj)⟩
inductive kH (W:World) (P:Nat->Prop):XV->Tree->Prop
 |mk {k lo hi:Int} {ns ks:Value} {x nums:List Int} {kids:List Tree} (vs:List XV) :
   (∀ c∈x,0<=c/\c<=255)->x.length<=9223372036854775807->lH W P ns nums.length (dA nums)->lH W P ks kids.length (vs.flatMap XV.cells)->vs.length=kids.length ->
   (∀ (i:Nat) (y:XV) (t:Tree),vs[i]?=some y->kids[i]?=some t->kH W P y t)->kH W P ⟨k,ak x,ns,lo,hi,ks⟩ (.mk k x nums lo hi kids)
theorem kH.any{W:World}{P:Nat->Prop}{X:XV}{t:Tree}(h:kH W P X t):aM W X t:=by
 induction h with
 |mk vs h0 hl h1 h2 h3 _ ih=>exact .mk vs h0 hl h1.any h2.any h3 ih
theorem kH.of{W:World}{P:Nat->Prop}{X:XV}{t:Tree}(h:aM W X t)(hP:∀ b,b<W.heap.size->P b):kH W P X t:=by
 induction h with
 |mk vs h0 hl h1 h2 h3 _ ih=>exact .mk vs h0 hl (lH.of h1 hP) (lH.of h2 hP) h3 ih
theorem kH.kept{W W':World}{P P':Nat->Prop}{X:XV}{t:Tree}(h:kH W P X t)(hk:Eh W W' P P'):kH W' P' X t:=by
 induction h with
 |mk vs h0 hl h1 h2 h3 _ ih=>exact .mk vs h0 hl (h1.kept hk) (h2.kept hk) h3 ih
theorem lH.one{W:World}{P:Nat->Prop}{v:Value}{n:Nat}{xs:List Value}(h:lH W P v n xs):∃ a c,v=.slice a n c:=by
 rcases h with ⟨rfl,a,c,rfl⟩|⟨g,off,cap,rfl,_⟩
 ·exact⟨_,_,rfl⟩
 ·exact⟨_,_,rfl⟩
theorem kH.forms{W:World}{P:Nat->Prop}{X:XV}{t:Tree}(h:kH W P X t):∃ k tx lo hi a1 n1 c1 a2 n2 c2,X=⟨k,tx,.slice a1 n1 c1,lo,hi,.slice a2 n2 c2⟩:=by
 cases h with
 |mk vs h0 hl h1 h2 h3 h4 =>
  obtain⟨a1,c1,rfl⟩:=h1.one;obtain⟨a2,c2,rfl⟩:=h2.one;exact⟨_,_,_,_,_,_,_,_,_,_,rfl⟩
theorem kH.alts{W:World}{P:Nat->Prop}{X:XV}{t:Tree}(h:kH W P X t)(hp:0<(fO t).length) :
  ∃ vs:List XV,vs.length=(fO t).length/\(∀ (i:Nat) (y:XV) (u:Tree),vs[i]?=some y->(fO t)[i]?=some u->kH W P y u)/\((X.kind=1/\au W X.ks vs.length (vs.flatMap XV.cells))\/(X.kind≠1/\vs=[X])):=by
 have h':=h
 cases h with
 |@mk k lo hi ns ks x nums kids vs h0 hl h1 h2 h3 h4 =>
  by_cases hk:k=1
  ·have e:fO (.mk k x nums lo hi kids)=kids:=by rw[Ir,if_pos hk]
   exact⟨vs,by rw[e];exact h3,fun i y u hy hu=>h4 i y u hy (by rwa[e]at hu),.inl ⟨hk,by rw[h3];exact h2.any⟩⟩
  ·have e:fO (.mk k x nums lo hi kids)=[.mk k x nums lo hi kids]:=by rw[Ir,if_neg hk]
   refine⟨[_],by rw[e];rfl,fun i y u hy hu=>?_,.inr ⟨hk,rfl⟩⟩;rw[e]at hu
   cases i with
   |zero =>
    simp at hy hu;subst hy hu;exact h'
   |succ i=>simp at hy
theorem zyk{W:World}{P:Nat->Prop}{vs:List XV}{ts:List Tree}(hl:vs.length=ts.length)(h:∀ (i:Nat) (y:XV) (u:Tree),vs[i]?=some y->ts[i]?=some u->kH W P y u):∀ u∈vs.flatMap XV.cells,u.oneCell'=true:=by
 intro u hu;obtain⟨y,hy,hu⟩:=List.mem_flatMap.1 hu;obtain⟨i,hi⟩:=List.getElem?_of_mem hy;have hlt:=(zbF.1 hi).1;obtain⟨k,tx,lo,hi',a1,n1,c1,a2,n2,c2,rfl⟩:=(h i y (ts[i]'(by omega)) hi (zbC _)).forms;simp[XV.cells]at hu;rcases hu with rfl|rfl|rfl|rfl|rfl|rfl<;>rfl
structure D5 (w wr:World) (v:Value) (ys:List RV) (g:List GR):Prop where
 row:wr.ownsRow w.heap.size 33 7 v g.length (ys.flatMap RV.cells)
 len:ys.length=g.length
 each:∀ (i:Nat) (y:RV) (r:GR),ys[i]?=some y->g[i]?=some r->y.name=ak r.name/\bJ r.name/\kH wr (fun b=>some b≠v.ownBlock) y.expr r.expr
 dP:Below w.heap.size w wr
theorem D5.rules{w wr:World}{v:Value}{ys:List RV}{g:List GR}(h:D5 w wr v ys g):qF wr v ys g:=⟨zH h.row,h.len,fun i y r hy hr=>⟨(h.each i y r hy hr).1,(h.each i y r hy hr).2.1,(h.each i y r hy hr).2.2.any⟩⟩
theorem D5.below{w wr W:World}{v:Value}{ys:List RV}{g:List GR}(h:D5 w wr v ys g)(hb:Below wr.heap.size wr W):D5 w W v ys g :=
 ⟨mI h.row hb,h.len,fun i y r hy hr=>⟨(h.each i y r hy hr).1,(h.each i y r hy hr).2.1,(h.each i y r hy hr).2.2.kept ⟨hb.size,fun b hp hl=>⟨hb.block b hl,hp⟩⟩⟩,aJ h.dP hb⟩
theorem D5.start(w:World):D5 w w (.slice none 0 0) [] []:=⟨World.ownsRow_nil _ _ _ _,rfl,fun i y r hy=>by simp at hy,zbE _ _⟩
theorem D5.push{w W w':World}{v v':Value}{ys:List RV}{g:List GR}{y:RV}{r:GR}(h:D5 w W v ys g)(hown:w'.ownsRow w.heap.size 33 7 v' (g++[r]).length ((ys++[y]).flatMap RV.cells))(hg:W.grownBy w' v.ownBlock)(hat:v'.ownBlock=v.ownBlock\/v'.ownBlock=some W.heap.size)
  (hy:y.name=ak r.name) (hto:bJ r.name) (hE:kH W (fun b=>some b≠v.ownBlock) y.expr r.expr):D5 w w' v' (ys++[y]) (g++[r]):=by
 have hk:Eh W w' (fun b=>some b≠v.ownBlock) (fun b=>some b≠v'.ownBlock):=⟨hg.size,fun b hp hl=>⟨hg.block b hl hp,fun e=>by
  rcases hat with h1|h1
  ·exact hp (e.trans h1)
  ·have:=zbB (e.trans h1);omega⟩⟩
 refine⟨hown,by simp[h.len],fun i z u hz hu=>?_,h.dP.grown hg h.dP.size (lD h.row)⟩;by_cases hi:i<g.length
 ·rw[zbK (by rw[h.len];exact hi)]at hz;rw[zbK hi]at hu;obtain⟨a,b,c⟩:=h.each i z u hz hu;exact⟨a,b,c.kept hk⟩
 ·have hl:=h.len;have hi2:=(zbF.1 hu).1;simp at hi2;obtain rfl:i=g.length:=by omega
  rw[zbL (zbA _)]at hu;rw[zbL (by omega)]at hz;simp[hl]at hz hu;subst hz hu;exact⟨hy,hto,hE.kept hk⟩
theorem D5.store{w W:World}{gr cap i n:Nat}{ys:List RV}{g:List GR}{y:RV}{r:GR}{x:XV}{t:Tree}(hn:n=g.length)(h:D5 w W (.slice (some ⟨gr,0,none⟩) n cap) ys g)(hy:ys[i]?=some y)(hr:g[i]?=some r)(hE:kH W (fun b=>some b≠some gr) x t) :
  D5 w (ni W gr (i*7+1) x) (.slice (some ⟨gr,0,none⟩) n cap) (ys.set i ⟨y.name,x⟩) (g.set i ⟨r.name,t⟩):=by
 subst hn;have hk:Eh W (ni W gr (i*7+1) x) (fun b=>some b≠some gr) (fun b=>some b≠some gr):=⟨(Hy _ _ _ _).size,fun b hp hl=>⟨(Hy _ _ _ _).block b hl hp,hp⟩⟩
 refine⟨?_,by simpa using h.len,fun q z u hz hu=>?_,h.dP.grown (Hy _ _ _ _) h.dP.size (lD h.row)⟩
 ·have h6:=nL (nL (nL (nL (nL (nL h.row (i*7+1) (.int .i64 x.kind)) (i*7+1+1) (.string x.text)) (i*7+1+2) x.ns) (i*7+1+3) (.int .i64 x.lo)) (i*7+1+4) (.int .i64 x.hi)) (i*7+1+5) x.ks;rw[Zr ys i y x hy]at h6;rw[List.length_set];exact h6
 ·by_cases hq:q=i
  ·subst hq;rw[List.getElem?_set_self (zbF.1 hy).1]at hz;rw[List.getElem?_set_self (zbF.1 hr).1]at hu;have e1:=zbB hz;have e2:=zbB hu;subst e1 e2;obtain⟨a,b,_⟩:=h.each q y r hy hr;exact⟨a,b,hE.kept hk⟩
  ·rw[List.getElem?_set_ne (Ne.symm hq)]at hz hu;obtain⟨a,b,c⟩:=h.each q z u hz hu;exact⟨a,b,c.kept hk⟩
theorem kH.merged{W w':World}{P:Nat->Prop}{base n:Nat}{v:Value}{vs1 vs2:List XV}{t1 t2:Tree}(hP:∀ b,base<=b->P b)(h1:vs1.length=(fO t1).length)(h2:vs2.length=(fO t2).length)(hk:Eh W w' P P)
  (e1:∀ (i:Nat) (y:XV) (u:Tree),vs1[i]?=some y->(fO t1)[i]?=some u->kH W P y u) (e2:∀ (i:Nat) (y:XV) (u:Tree),vs2[i]?=some y->(fO t2)[i]?=some u->kH W P y u)
  (hown:w'.ownsRow base 29 6 v (vs1++vs2).length ((vs1++vs2).flatMap XV.cells)):kH w' P ⟨1,⟨#[]⟩,.slice none 0 0,0,0,v⟩ (uD t1 t2):=by
 refine kH.mk (x:=[]) (nums:=[]) (vs1++vs2) (by simp) (by simp) (.inl ⟨rfl,_,_,rfl⟩) ?_ (by simp[h1,h2]) (fun i y u hy hu=>?_)
 ·have hl:(fO t1++fO t2).length=(vs1++vs2).length:=by simp[h1,h2]
  rw[hl];rcases fB hown with ⟨rfl,h0⟩|⟨g,cap,rfl⟩
  ·rw[h0];exact .inl ⟨rfl,_,_,rfl⟩
  ·obtain⟨q1,q2,q3,q4⟩:=iX hown;exact .inr ⟨g,0,cap,rfl,q2,q3,q4,hP g q1,fun j u hj=>by rw[Nat.zero_add];exact eZ hown hj⟩
 ·by_cases hi:i<vs1.length
  ·rw[zbK hi]at hy;rw[zbK (by omega)]at hu;exact(e1 i y u hy hu).kept hk
  ·rw[zbL (by omega)]at hy;rw[zbL (by omega),<- h1]at hu;exact(e2 _ y u hy hu).kept hk
def Ei(d:Nat):Prop:=∀ (W:World) (X:XV) (t:Tree),aM W X t->dK d t=true->(aI d t).length<=1000000000000->Calls Tryz.prog 54 #[X.val] W (nJ (aI d t) W)
theorem qcj{n:Int}(h0:0<=n)(h:n<=1114111)(w:World):Calls Tryz.prog 79 #[.int .i64 n] w (nJ (aL n.toNat) w):=by
 obtain⟨m,rfl⟩:∃ m:Nat,n=m:=⟨n.toNat,by omega⟩
 have:=zzq 2 m w (by rw[show (256:Nat) ^ (2+1)=16777216 by decide];omega) (by omega);rw[qe9 m (by omega)]at this;exact this
theorem qck{n:Int}(h0:0<=n)(h:n<=200)(w:World):Calls Tryz.prog 78 #[.int .i64 n] w (nJ (fA n.toNat) w):=by
 obtain⟨m,rfl⟩:∃ m:Nat,n=m:=⟨n.toNat,by omega⟩
 have hm:m<10 ^ (2+1):=by rw[show (10:Nat) ^ (2+1)=1000 by decide];omega
 have:=zqv 2 m w hm (by omega);rw[qea hm (by omega)]at this;exact this
theorem ztd(s x:List Int):∀ (l:List (List Int)),l≠[]->aO s (l++[x])=aO s l++s++x
 |[],h=>absurd rfl h
 |[y],_=>by simp[aO]
 |y::z::l,_=>by
  have:=ztd s x (z::l) (by simp);show y++s++aO s (z::l++[x])=_
  rw[this];simp[aO]
theorem qbk(s:List Int)(l:List (List Int))(i:Nat):(aO s (l.take i)).length<=(aO s l).length:=by
 induction l generalizing i with
 |nil=>simp
 |cons y l ih =>
  cases i with
  |zero=>simp[aO]
  |succ i =>
   cases l with
   |nil=>simp
   |cons z l =>
    cases i with
    |zero=>simp[aO]
    |succ i =>
     have:=ih (i+1);simp only[List.take_succ_cons,aO,zbG]at this ⊢;omega
theorem UN{d:Nat}(ih:Ei d){W:World}{X:XV}{t:Tree}(h:aM W X t)(hr:dK d t=true)(hl:(aI d t).length<=1000000000000)(a s r:Bool) :
  Calls Tryz.prog 77 #[X.val,.bool a,.bool s,.bool r] W (nJ (dD ((t.kind==1&&a)||(t.kind==2&&s)||(t.kind==3&&r)) (aI d t)) W):=by
 obtain⟨o1,o2⟩:=h.ones;have ek:t.kind=X.kind:=by obtain⟨_,_,_,_,_,rfl⟩:=h.size;rfl
 rw[ek];have hb:=(zbE W.heap.size W).alloc (zbA _) (aB X.kind X.lo X.hi X.text X.ns X.ks);have hX:=X6.new W X.kind X.lo X.hi X.text X.ns X.ks;have kF:=hh9 (fun W' (hb':Below W.heap.size W W')=>ih W' X t (h.under hb') hr hl);have hsz:(ak (aI d t)).size<=1000000000000:=by rw[eP];exact hl
 obtain⟨S,hS⟩:∃ S,S=ak (aI d t):=⟨_,rfl⟩
 have BR:=hh9 (show ((⟨#[40]⟩:ByteArray)++S)++⟨#[41]⟩=ak (dD true (aI d t)) by
  rw[hS,show (⟨#[40]⟩:ByteArray)=ak [40]from rfl,show (⟨#[41]⟩:ByteArray)=ak [41]from rfl,eT,eT];rfl)
 have Dy:=hh9 (show S=ak (dD false (aI d t)) by rw[hS];rfl);have lu:Hid (∀ W',Below W.heap.size W W'->Calls Tryz.prog 54 #[X.val] W' (fun e w'=>e=.returned (.string S)/\Below W'.heap.size W' w')):=by rw[hS];exact kF
 rw[<- hS]at hsz;obtain⟨k,s',nv,lo,hi,kv⟩:=X;unfold aB at hb hX;obtain⟨a0,a1,a2,a3,a4,a5⟩:=hX.cells;have HB:=hh9 hb;show Calls _ _ #[.agg #[.int .i64 k,.string s',nv,.int .i64 lo,.int .i64 hi,kv],.bool a,.bool s,.bool r] W _
 clear hb h hS hr hl ek kF hX;by_cases k1:k=1
 ·subst k1
  cases a
  all_goals
   go_enter Tryz.func77,Tryz.ntmps77;go_wp2_with fail
   refine(lu.out _ HB.out).mono ?_;rintro e w2 ⟨rfl,hb⟩;have HB2:=hh9 (aJ HB.out hb);clear hb a0 a1 a2 a3 a4 a5;go_wp2_with fail
   go_ret
   first
    |exact⟨congrArg (fun u=>Ending.returned (Value.string u)) BR.out,HB2.out⟩
    |exact⟨congrArg (fun u=>Ending.returned (Value.string u)) Dy.out,HB2.out⟩
 by_cases k2:k=2
 ·subst k2
  cases s
  all_goals
   go_enter Tryz.func77,Tryz.ntmps77;go_wp2_with fail
   refine(lu.out _ HB.out).mono ?_;rintro e w2 ⟨rfl,hb⟩;have HB2:=hh9 (aJ HB.out hb);clear hb a0 a1 a2 a3 a4 a5;go_wp2_with fail
   go_ret
   first
    |exact⟨congrArg (fun u=>Ending.returned (Value.string u)) BR.out,HB2.out⟩
    |exact⟨congrArg (fun u=>Ending.returned (Value.string u)) Dy.out,HB2.out⟩
 by_cases k3:k=3
 ·subst k3
  cases r
  all_goals
   go_enter Tryz.func77,Tryz.ntmps77;go_wp2_with fail
   refine(lu.out _ HB.out).mono ?_;rintro e w2 ⟨rfl,hb⟩;have HB2:=hh9 (aJ HB.out hb);clear hb a0 a1 a2 a3 a4 a5;go_wp2_with fail
   go_ret
   first
    |exact⟨congrArg (fun u=>Ending.returned (Value.string u)) BR.out,HB2.out⟩
    |exact⟨congrArg (fun u=>Ending.returned (Value.string u)) Dy.out,HB2.out⟩
 have z1:(k==1)=false:=by simp;omega
 have z2:(k==2)=false:=by simp;omega
 have z3:(k==3)=false:=by simp;omega
 rw[z1,z2,z3,Bool.false_and,Bool.false_and,Bool.false_and];clear k1 k2 k3;go_enter Tryz.func77,Tryz.ntmps77;go_wp2_with fail
 refine(lu.out _ HB.out).mono ?_;rintro e w2 ⟨rfl,hb⟩;have HB2:=hh9 (aJ HB.out hb);clear hb a0 a1 a2 a3 a4 a5;go_wp2_with fail
 go_ret;exact⟨congrArg (fun u=>Ending.returned (Value.string u)) Dy.out,HB2.out⟩
theorem Pp(p sp:List Int)(L:List (List Int))(i:Nat)(x:List Int)(hx:L[i]?=some x):p++aO sp (L.take (i+1))=(p++aO sp (L.take i))++(if i=0 then [] else sp)++x:=by
 rw[List.take_add_one,hx];by_cases h:i=0
 ·subst h;simp[aO]
 ·have hne:L.take i≠[]:=by
   intro e;have h1:=congrArg List.length e;rw[List.length_take]at h1;have h2:=(zbF.1 hx).1;have h3:min i L.length=0:=h1;omega
  rw[if_neg h];show p++aO sp (L.take i++[x])=_
  rw[ztd sp x _ hne];simp
theorem Pq(p sp:List Int)(L:List (List Int))(i:Nat):(p++aO sp (L.take i)).length<=(p++aO sp L).length:=by
 have:=qbk sp L i;simp only[zbG];omega
structure fU (w W:World) (k lo hi:Int) (s:ByteArray) (ns ks:Value):Prop where
 arg:X6 W w.heap.size k lo hi s ns ks
 below:Below w.heap.size w W
theorem fU.under{w W W1:World}{k lo hi:Int}{s:ByteArray}{ns ks:Value}(h:fU w W k lo hi s ns ks)(hb:Below W.heap.size W W1):fU w W1 k lo hi s ns ks:=⟨h.arg.under hb,aJ h.below hb⟩
theorem fU.new(w:World)(k lo hi:Int)(s:ByteArray)(ns ks:Value):fU w (w.alloc (aB k lo hi s ns ks)) k lo hi s ns ks:=⟨X6.new w k lo hi s ns ks,(zbE _ _).alloc (zbA _) _⟩
theorem qdp{w:World}{S0:ByteArray}{ns:List Int}{lo hi:Int}{a:Option Addr}{ca n0 cc:Nat}{c:Option Addr}(h1:au w (.slice a ns.length ca) ns.length (dA ns))(hn:ns.all bK=true)(hn1:1<=ns.length)
  (hl:([37,120]++aO [46] (ns.map fun n:Int=>aL n.toNat)).length<=1000000000000) :
  Calls Tryz.prog 54 #[.agg #[.int .i64 6,.string S0,.slice a ns.length ca,.int .i64 lo,.int .i64 hi,.slice c n0 cc]] w (nJ ([37,120]++aO [46] (ns.map fun n:Int=>aL n.toNat)) w):=by
 obtain⟨g,off,rfl,g1,g3,g4⟩:∃ g off,a=some ⟨g,off,none⟩/\ns.length<=9223372036854775807/\g<w.heap.size/\∀ (j:Nat) (u:Value),(dA ns)[j]?=some u->w.cell? ⟨g,off+j,none⟩=some u:=by
  rcases h1 with ⟨h0,_⟩|⟨g,off,cap',hv,f1,f2,f3,f4⟩
  ·omega
  ·injection hv with e1 e2 e3
   unfold maxLen at f2;exact⟨g,off,e1,by omega,f3,f4⟩
 obtain⟨n,hnn⟩:∃ n,n=ns.length:=⟨_,rfl⟩
 rw[<- hnn]at g1 hn1 ⊢;have bH:=hh9 hnn;have G4:=hh9 g4;have HN:=hh9 hn;have HL:=hh9 hl;have hA:=fU.new w 6 lo hi S0 (.slice (some ⟨g,off,none⟩) n ca) (.slice c n0 cc);unfold aB at hA;have jO:=hh9 hA;clear hnn g4 hn hl hA h1;go_enter Tryz.func54,Tryz.ntmps54;go_wp2_with fail
 go_loopw [3,5] (fun s v wr=>∃ (i:Nat) (T:ByteArray),s=.string T/\v=.int .i64 i/\i<=n/\T.size<=1000000000000/\Hid (T=ak ([37,120]++aO [46] ((ns.map fun n:Int=>aL n.toNat).take i)))/\Hid (fU w wr 6 lo hi S0 (.slice (some ⟨g,off,none⟩) n ca) (.slice c n0 cc))) (fun _ v _=>n-(intOf v).toNat)
 case atStart=>exact⟨0,_,rfl,rfl,by omega,by decide,rfl,jO⟩
 case round =>
  obtain⟨i,T,rfl,rfl,hi',hT,HT,HA⟩:=hrel;obtain⟨a0,a1,a2,a3,a4,a5⟩:=HA.out.arg.cells;by_cases hlt:i<n
  ·obtain⟨Z,hZ⟩:∃ z,ns[i]?=some z:=⟨_,zbC (by rw[<- bH.out];exact hlt)⟩
   have c0:=(HA.out.below.cell (p:=⟨g,off+i,none⟩) g3).trans (G4.out i _ (He hZ));have hz:=List.all_eq_true.1 HN.out Z (zbI hZ);unfold bK at hz;simp at hz;have hx:(ns.map fun n:Int=>aL n.toNat)[i]?=some (aL Z.toNat):=by rw[List.getElem?_map,hZ];rfl
   have hnx:=Pp [37,120] [46] _ i _ hx;have hle:=Pq [37,120] [46] (ns.map fun n:Int=>aL n.toNat) (i+1);have HH:=hh9 (fun W=>qcj hz.1 hz.2 W);have uH:=NG Z.toNat;obtain⟨H,hH⟩:∃ H,H=ak (aL Z.toNat):=⟨_,rfl⟩
   have hHs:H.size<=6:=by rw[hH,eP];exact uH
   have Mf:Hid (∀ W,Calls Tryz.prog 79 #[.int .i64 Z] W (fun e w'=>e=.returned (.string H)/\Below W.heap.size W w')):=by rw[hH];exact HH
   by_cases hi0:i=0
   ·subst hi0
    have bT:=hh9 (show T++H=ak ([37,120]++aO [46] ((ns.map fun n:Int=>aL n.toNat).take (0+1))) by
     rw[HT.out,hH,hnx,eT,if_pos rfl,List.append_nil])
    have kE:=hh9 (show (T++H).size<=1000000000000 by rw[bT.out,eP];exact zbH hle HL.out);have c1:=c0;rw[Nat.add_zero]at c1;clear hZ hz hx hnx hle hH uH HH;go_wp2_with fail
    refine(Mf.out _).mono ?_;rintro e w1 ⟨rfl,hb⟩;have HA2:=hh9 (HA.out.under hb);clear hb a0 a1 a2 a3 a4 a5;go_wp2_with fail
    go_roundw
    case rel=>exact⟨0+1,_,rfl,by go_num,by omega,kE.out,bT,HA2⟩
    case measure=>simp[intOf];omega
   ·have F7:0<i:=by omega
    have UO:decide ((0:Int)<(i:Int))=true:=zbN (by omega);have F8:decide (0<i)=true:=zbN F7
    have bT:=hh9 (show (T++(⟨#[46]⟩:ByteArray))++H=ak ([37,120]++aO [46] ((ns.map fun n:Int=>aL n.toNat).take (i+1))) by
     rw[HT.out,hH,hnx,show (⟨#[46]⟩:ByteArray)=ak [46]from rfl,eT,eT,if_neg hi0])
    have kE:=hh9 (show ((T++(⟨#[46]⟩:ByteArray))++H).size<=1000000000000 by rw[bT.out,eP];exact zbH hle HL.out);have hsz1:(T++(⟨#[46]⟩:ByteArray)).size<=1000000000001:=by rw[ByteArray.size_append];show T.size+1<=_;omega
    clear hZ hz hx hnx hle hH uH HH;go_wp2_with fail
    refine(Mf.out _).mono ?_;rintro e w1 ⟨rfl,hb⟩;have HA2:=hh9 (HA.out.under hb);clear hb a0 a1 a2 a3 a4 a5;go_wp2_with fail
    go_roundw
    case rel=>exact⟨i+1,_,rfl,by go_num,by omega,kE.out,bT,HA2⟩
    case measure=>simp[intOf];omega
  ·have ay:=hh9 (show T=ak ([37,120]++aO [46] (ns.map fun n:Int=>aL n.toNat)) by
    have:=HT.out;rwa[List.take_of_length_le (by rw[List.length_map,<- bH.out];omega)]at this)
   go_wp2_with fail
   go_ret;exact⟨congrArg (fun u=>Ending.returned (Value.string u)) ay.out,HA.out.below⟩
theorem qdq{w:World}{S0:ByteArray}{ns:List Int}{lo hi:Int}{a:Option Addr}{ca n0 cc:Nat}{c:Option Addr}(h1:au w (.slice a ns.length ca) ns.length (dA ns))(hn:ns.all bK=true)(hn1:1<=ns.length)
  (hl:([37,120]++aO [45] (ns.map fun n:Int=>aL n.toNat)).length<=1000000000000) :
  Calls Tryz.prog 54 #[.agg #[.int .i64 7,.string S0,.slice a ns.length ca,.int .i64 lo,.int .i64 hi,.slice c n0 cc]] w (nJ ([37,120]++aO [45] (ns.map fun n:Int=>aL n.toNat)) w):=by
 obtain⟨g,off,rfl,g1,g3,g4⟩:∃ g off,a=some ⟨g,off,none⟩/\ns.length<=9223372036854775807/\g<w.heap.size/\∀ (j:Nat) (u:Value),(dA ns)[j]?=some u->w.cell? ⟨g,off+j,none⟩=some u:=by
  rcases h1 with ⟨h0,_⟩|⟨g,off,cap',hv,f1,f2,f3,f4⟩
  ·omega
  ·injection hv with e1 e2 e3
   unfold maxLen at f2;exact⟨g,off,e1,by omega,f3,f4⟩
 obtain⟨n,hnn⟩:∃ n,n=ns.length:=⟨_,rfl⟩
 rw[<- hnn]at g1 hn1 ⊢;have bH:=hh9 hnn;have G4:=hh9 g4;have HN:=hh9 hn;have HL:=hh9 hl;have hA:=fU.new w 7 lo hi S0 (.slice (some ⟨g,off,none⟩) n ca) (.slice c n0 cc);unfold aB at hA;have jO:=hh9 hA;clear hnn g4 hn hl hA h1;go_enter Tryz.func54,Tryz.ntmps54;go_wp2_with fail
 go_loopw [3,5] (fun s v wr=>∃ (i:Nat) (T:ByteArray),s=.string T/\v=.int .i64 i/\i<=n/\T.size<=1000000000000/\Hid (T=ak ([37,120]++aO [45] ((ns.map fun n:Int=>aL n.toNat).take i)))/\Hid (fU w wr 7 lo hi S0 (.slice (some ⟨g,off,none⟩) n ca) (.slice c n0 cc))) (fun _ v _=>n-(intOf v).toNat)
 case atStart=>exact⟨0,_,rfl,rfl,by omega,by decide,rfl,jO⟩
 case round =>
  obtain⟨i,T,rfl,rfl,hi',hT,HT,HA⟩:=hrel;obtain⟨a0,a1,a2,a3,a4,a5⟩:=HA.out.arg.cells;by_cases hlt:i<n
  ·obtain⟨Z,hZ⟩:∃ z,ns[i]?=some z:=⟨_,zbC (by rw[<- bH.out];exact hlt)⟩
   have c0:=(HA.out.below.cell (p:=⟨g,off+i,none⟩) g3).trans (G4.out i _ (He hZ));have hz:=List.all_eq_true.1 HN.out Z (zbI hZ);unfold bK at hz;simp at hz;have hx:(ns.map fun n:Int=>aL n.toNat)[i]?=some (aL Z.toNat):=by rw[List.getElem?_map,hZ];rfl
   have hnx:=Pp [37,120] [45] _ i _ hx;have hle:=Pq [37,120] [45] (ns.map fun n:Int=>aL n.toNat) (i+1);have HH:=hh9 (fun W=>qcj hz.1 hz.2 W);have uH:=NG Z.toNat;obtain⟨H,hH⟩:∃ H,H=ak (aL Z.toNat):=⟨_,rfl⟩
   have hHs:H.size<=6:=by rw[hH,eP];exact uH
   have Mf:Hid (∀ W,Calls Tryz.prog 79 #[.int .i64 Z] W (fun e w'=>e=.returned (.string H)/\Below W.heap.size W w')):=by rw[hH];exact HH
   by_cases hi0:i=0
   ·subst hi0
    have bT:=hh9 (show T++H=ak ([37,120]++aO [45] ((ns.map fun n:Int=>aL n.toNat).take (0+1))) by
     rw[HT.out,hH,hnx,eT,if_pos rfl,List.append_nil])
    have kE:=hh9 (show (T++H).size<=1000000000000 by rw[bT.out,eP];exact zbH hle HL.out);have c1:=c0;rw[Nat.add_zero]at c1;clear hZ hz hx hnx hle hH uH HH;go_wp2_with fail
    refine(Mf.out _).mono ?_;rintro e w1 ⟨rfl,hb⟩;have HA2:=hh9 (HA.out.under hb);clear hb a0 a1 a2 a3 a4 a5;go_wp2_with fail
    go_roundw
    case rel=>exact⟨0+1,_,rfl,by go_num,by omega,kE.out,bT,HA2⟩
    case measure=>simp[intOf];omega
   ·have F7:0<i:=by omega
    have UO:decide ((0:Int)<(i:Int))=true:=zbN (by omega);have F8:decide (0<i)=true:=zbN F7
    have bT:=hh9 (show (T++(⟨#[45]⟩:ByteArray))++H=ak ([37,120]++aO [45] ((ns.map fun n:Int=>aL n.toNat).take (i+1))) by
     rw[HT.out,hH,hnx,show (⟨#[45]⟩:ByteArray)=ak [45]from rfl,eT,eT,if_neg hi0])
    have kE:=hh9 (show ((T++(⟨#[45]⟩:ByteArray))++H).size<=1000000000000 by rw[bT.out,eP];exact zbH hle HL.out);have hsz1:(T++(⟨#[45]⟩:ByteArray)).size<=1000000000001:=by rw[ByteArray.size_append];show T.size+1<=_;omega
    clear hZ hz hx hnx hle hH uH HH;go_wp2_with fail
    refine(Mf.out _).mono ?_;rintro e w1 ⟨rfl,hb⟩;have HA2:=hh9 (HA.out.under hb);clear hb a0 a1 a2 a3 a4 a5;go_wp2_with fail
    go_roundw
    case rel=>exact⟨i+1,_,rfl,by go_num,by omega,kE.out,bT,HA2⟩
    case measure=>simp[intOf];omega
  ·have ay:=hh9 (show T=ak ([37,120]++aO [45] (ns.map fun n:Int=>aL n.toNat)) by
    have:=HT.out;rwa[List.take_of_length_le (by rw[List.length_map,<- bH.out];omega)]at this)
   go_wp2_with fail
   go_ret;exact⟨congrArg (fun u=>Ending.returned (Value.string u)) ay.out,HA.out.below⟩
def jg(w:World)(k:Int)(kv:Value)(g o:Nat)(k' lo' hi':Int)(s:ByteArray)(ns' ks':Value)(W:World):Prop :=
 (W.cell? ⟨w.heap.size,0,none⟩=some (.int .i64 k)/\W.cell? ⟨w.heap.size,5,none⟩=some kv) /\
 (W.cell? ⟨g,o,none⟩=some (.int .i64 k')/\W.cell? ⟨g,o+1,none⟩=some (.string s)/\W.cell? ⟨g,o+2,none⟩=some ns'/\W.cell? ⟨g,o+3,none⟩=some (.int .i64 lo')/\W.cell? ⟨g,o+4,none⟩=some (.int .i64 hi')/\W.cell? ⟨g,o+5,none⟩=some ks')/\Below w.heap.size w W
theorem jg.step{w:World}{k:Int}{kv:Value}{g o:Nat}{k' lo' hi':Int}{s:ByteArray}{ns' ks':Value}{W W':World}(hb:Below W.heap.size W W')(h:jg w k kv g o k' lo' hi' s ns' ks' W):jg w k kv g o k' lo' hi' s ns' ks' W' :=
 ⟨⟨gu h.1.1 hb,gu h.1.2 hb⟩,⟨gu h.2.1.1 hb,gu h.2.1.2.1 hb,gu h.2.1.2.2.1 hb,gu h.2.1.2.2.2.1 hb,gu h.2.1.2.2.2.2.1 hb,gu h.2.1.2.2.2.2.2 hb⟩,aJ h.2.2 hb⟩
theorem jg.drew{w:World}{k:Int}{kv:Value}{g o:Nat}{k' lo' hi':Int}{s:ByteArray}{ns' ks':Value}{W:World}(h:jg w k kv g o k' lo' hi' s ns' ks' W):jg w k kv g o k' lo' hi' s ns' ks' W.drew:=⟨h.1,h.2.1,dJ h.2.2 1⟩
theorem jg.dP{w:World}{k:Int}{kv:Value}{g o:Nat}{k' lo' hi':Int}{s:ByteArray}{ns' ks':Value}{W:World}(h:jg w k kv g o k' lo' hi' s ns' ks' W):Below w.heap.size w W:=h.2.2
theorem au.at4{W:World}{c:Option Addr}{n cap:Nat}{xs:List Value}(h:au W (.slice c n cap) n xs)(hn:0<n):∃ g off,c=some ⟨g,off,none⟩/\n<=cap/\g<W.heap.size/\∀ (j:Nat) (u:Value),xs[j]?=some u->W.cell? ⟨g,off+j,none⟩=some u:=by
 rcases h with ⟨h0,_⟩|⟨g,off,cap',hv,h1,h2,h3,h4⟩
 ·omega
 ·injection hv with e1 e2 e3
  subst e1 e3;exact⟨g,off,rfl,h1,h3,h4⟩
theorem qf2{d:Nat}(ih:Ei d){w:World}{S0:ByteArray}{kids:List Tree}{vs:List XV}{lo hi:Int}{a c:Option Addr}{m ca n0 cc:Nat}(h2:pX w (.slice c kids.length cc) vs kids)(hr:∀ t∈kids,dK d t=true)(hn1:2<=kids.length)(hn2:kids.length<=9223372036854775807)
  (hl:([]++aO [32,47,32] (kids.map (fun t:Tree=>dD (t.kind==1) (aI d t)))).length<=1000000000000) :
  Calls Tryz.prog 54 #[.agg #[.int .i64 1,.string S0,.slice a m ca,.int .i64 lo,.int .i64 hi,.slice c kids.length cc]] w (nJ ([]++aO [32,47,32] (kids.map (fun t:Tree=>dD (t.kind==1) (aI d t)))) w):=by
 obtain⟨r1,r2,r3⟩:=h2;obtain⟨g,off,rfl,g1,g3,g4⟩:=r1.at4 (by omega);obtain⟨n,hnn⟩:∃ n,n=kids.length:=⟨_,rfl⟩
 rw[<- hnn]at g1 hn1 hn2 r2 ⊢;have bH:=hh9 hnn;have G4:=hh9 g4;have HR2:=hh9 r2;have HR3:=hh9 r3;have HR:=hh9 hr;have HL:=hh9 hl;have nS:=hh9 ih;have hA:=fU.new w 1 lo hi S0 (.slice a m ca) (.slice (some ⟨g,off,none⟩) n cc);unfold aB at hA;have jO:=hh9 hA;clear hnn g4 hr hl hA r1 r2 r3 ih;go_enter Tryz.func54,Tryz.ntmps54;go_wp2_with fail
 go_loopw [3,4] (fun s v wr=>∃ (i:Nat) (T:ByteArray),s=.string T/\v=.int .i64 i/\i<=n/\T.size<=1000000000000/\Hid (T=ak ([]++aO [32,47,32] ((kids.map (fun t:Tree=>dD (t.kind==1) (aI d t))).take i)))/\Hid (fU w wr 1 lo hi S0 (.slice a m ca) (.slice (some ⟨g,off,none⟩) n cc))) (fun _ v _=>n-(intOf v).toNat)
 case atStart=>exact⟨0,_,rfl,rfl,by omega,by decide,rfl,jO⟩
 case round =>
  obtain⟨i,T,rfl,rfl,hi',hT,HT,HA⟩:=hrel;obtain⟨a0,a1,a2,a3,a4,a5⟩:=HA.out.arg.cells;by_cases hlt:i<n
  ·obtain⟨Y,hY⟩:∃ y,vs[i]?=some y:=⟨_,zbC (by rw[HR2.out];exact hlt)⟩
   obtain⟨t,ht⟩:∃ y,kids[i]?=some y:=⟨_,zbC (by rw[<- bH.out];exact hlt)⟩
   have CX:∀ (j:Nat) (u:Value),j<6->Y.cells[j]?=some u->wr.cell? ⟨g,off+(i*6+j),none⟩=some u:=fun j u hj hu =>
    (HA.out.below.cell (p:=⟨g,off+(i*6+j),none⟩) g3).trans (G4.out _ u ((pV vs i j Y hY hj).trans hu))
   have lI:=HR3.out i Y t hY ht;have hx:(kids.map (fun t:Tree=>dD (t.kind==1) (aI d t)))[i]?=some (dD (t.kind==1) (aI d t)):=by rw[List.getElem?_map,ht];rfl
   have hnx:=Pp [] [32,47,32] _ i _ hx;have hle:=Pq [] [32,47,32] (kids.map (fun t:Tree=>dD (t.kind==1) (aI d t))) (i+1)
   have hel:(dD (t.kind==1) (aI d t)).length<=1000000000000:=by
    have h1:=zbH hle HL.out;rw[hnx]at h1;simp only[zbG]at h1;omega
   have htl:=zbH (JW (t.kind==1) (aI d t)) hel;have HI:=hh9 (fun W' (hb:Below w.heap.size w W')=>UN nS.out (lI.under hb) (HR.out t (zbI ht)) htl true false false);have CF:((t.kind==1&&true)||(t.kind==2&&false)||(t.kind==3&&false))=(t.kind==1):=by cases (t.kind==1)<;>cases (t.kind==2)<;>cases (t.kind==3)<;>rfl
   rw[CF]at HI;obtain⟨E,hE⟩:∃ E,E=ak (dD (t.kind==1) (aI d t)):=⟨_,rfl⟩
   have Rb:E.size<=1000000000000:=by rw[hE,eP];exact hel
   have HI2:Hid (∀ W',Below w.heap.size w W'->Calls Tryz.prog 77 #[Y.val,.bool true,.bool false,.bool false] W' (fun e w'=>e=.returned (.string E)/\Below W'.heap.size W' w')):=by rw[hE];exact HI
   obtain⟨k',s',pI,lo',nA,kv'⟩:=Y;have e0:=CX 0 _ (by omega) rfl;have e1:=CX 1 _ (by omega) rfl;have e2:=CX 2 _ (by omega) rfl;have e3:=CX 3 _ (by omega) rfl;have e4:=CX 4 _ (by omega) rfl;have e5:=CX 5 _ (by omega) rfl;rw[<- Nat.add_assoc]at e0 e1 e2 e3 e4 e5;rw[Nat.add_zero]at e0;clear CX CF htl hel;by_cases hi0:i=0
   ·subst hi0;rw[Nat.zero_mul,Nat.add_zero]at e0 e1 e2 e3 e4 e5
    have bT:=hh9 (show T++E=ak ([]++aO [32,47,32] ((kids.map (fun t:Tree=>dD (t.kind==1) (aI d t))).take (0+1))) by
     rw[HT.out,hE,hnx,eT,if_pos rfl,List.append_nil])
    have kE:=hh9 (show (T++E).size<=1000000000000 by rw[bT.out,eP];exact zbH hle HL.out);have hsz2:T.size<=1000000000003:=by omega
    have hadd:∀ W:World,(Op.stringOp .add T E).run Tryz.prog W=.ok (.string (T++E)) W:=fun W=>run_string_add_sum W _ _ (by omega)
    clear hx hnx hle hE HI hY ht lI;go_wp2_with fail
    go_region_held3 (fun W=>(W.cell? ⟨w.heap.size,0,none⟩=some (.int .i64 1)/\W.cell? ⟨w.heap.size,5,none⟩=some (.slice (some ⟨g,off,none⟩) n cc)) /\
      (W.cell? ⟨g,off,none⟩=some (.int .i64 k')/\W.cell? ⟨g,off+1,none⟩=some (.string s')/\W.cell? ⟨g,off+2,none⟩=some pI/\W.cell? ⟨g,off+3,none⟩=some (.int .i64 lo')/\W.cell? ⟨g,off+4,none⟩=some (.int .i64 nA)/\W.cell? ⟨g,off+5,none⟩=some kv')/\Below w.heap.size w W)
     (first|exact jg.step (by assumption) (by assumption)|exact jg.drew (by assumption)|exact⟨⟨by assumption,by assumption⟩,⟨by assumption,by assumption,by assumption,by assumption,by assumption,by assumption⟩,dJ HA.out.below 1⟩)
     (first|(go_at_call 77;refine(HI2.out _ (jg.dP (by assumption))).mono ?_;rintro e w' ⟨rfl,hb'⟩;have gL:=hh9 hb'))
    rename_i hS;have HA2:Hid (fU w _ 1 lo hi S0 (.slice a m ca) (.slice (some ⟨g,off,none⟩) n cc)):=((HA.out.under (dJ (zbE _ _) 1)).under gL.out)
    clear hS a0 a1 a2 a3 a4 a5 e0 e1 e2 e3 e4 e5 hb';go_wp2_with fail
    go_roundw
    case rel=>exact⟨0+1,_,rfl,by go_num,by omega,kE.out,bT,HA2⟩
    case measure=>simp[intOf];omega
   ·have F7:0<i:=by omega
    have UO:decide ((0:Int)<(i:Int))=true:=zbN (by omega);have F8:decide (0<i)=true:=zbN F7
    have bT:=hh9 (show ((T++(⟨#[32,47]⟩:ByteArray))++(⟨#[32]⟩:ByteArray))++E=ak ([]++aO [32,47,32] ((kids.map (fun t:Tree=>dD (t.kind==1) (aI d t))).take (i+1))) by
     rw[HT.out,hE,hnx,show (⟨#[32,47]⟩:ByteArray)=ak [32,47]from rfl,show (⟨#[32]⟩:ByteArray)=ak [32]from rfl,eT,eT,eT,if_neg hi0,List.append_assoc _ [32,47] [32]];rfl)
    have kE:=hh9 (show (((T++(⟨#[32,47]⟩:ByteArray))++(⟨#[32]⟩:ByteArray))++E).size<=1000000000000 by rw[bT.out,eP];exact zbH hle HL.out);have hsz2:((T++(⟨#[32,47]⟩:ByteArray))++(⟨#[32]⟩:ByteArray)).size<=1000000000003:=by rw[ByteArray.size_append,ByteArray.size_append];show T.size+2+1<=_;omega
    have hadd:∀ W:World,(Op.stringOp .add ((T++(⟨#[32,47]⟩:ByteArray))++(⟨#[32]⟩:ByteArray)) E).run Tryz.prog W=.ok (.string (((T++(⟨#[32,47]⟩:ByteArray))++(⟨#[32]⟩:ByteArray))++E)) W:=fun W=>run_string_add_sum W _ _ (by omega)
    have Uz:(T++(⟨#[32,47]⟩:ByteArray)).size<=1000000000002:=by rw[ByteArray.size_append];show T.size+2<=_;omega
    clear hx hnx hle hE HI hY ht lI;go_wp2_with fail
    go_region_held3 (fun W=>(W.cell? ⟨w.heap.size,0,none⟩=some (.int .i64 1)/\W.cell? ⟨w.heap.size,5,none⟩=some (.slice (some ⟨g,off,none⟩) n cc)) /\
      (W.cell? ⟨g,off+i*6,none⟩=some (.int .i64 k')/\W.cell? ⟨g,off+i*6+1,none⟩=some (.string s')/\W.cell? ⟨g,off+i*6+2,none⟩=some pI/\W.cell? ⟨g,off+i*6+3,none⟩=some (.int .i64 lo')/\W.cell? ⟨g,off+i*6+4,none⟩=some (.int .i64 nA)/\W.cell? ⟨g,off+i*6+5,none⟩=some kv')/\Below w.heap.size w W)
     (first|exact jg.step (by assumption) (by assumption)|exact jg.drew (by assumption)|exact⟨⟨by assumption,by assumption⟩,⟨by assumption,by assumption,by assumption,by assumption,by assumption,by assumption⟩,dJ HA.out.below 1⟩)
     (first|(go_at_call 77;refine(HI2.out _ (jg.dP (by assumption))).mono ?_;rintro e w' ⟨rfl,hb'⟩;have gL:=hh9 hb'))
    rename_i hS;have HA2:Hid (fU w _ 1 lo hi S0 (.slice a m ca) (.slice (some ⟨g,off,none⟩) n cc)):=((HA.out.under (dJ (zbE _ _) 1)).under gL.out)
    clear hS a0 a1 a2 a3 a4 a5 e0 e1 e2 e3 e4 e5 hb';go_wp2_with fail
    go_roundw
    case rel=>exact⟨i+1,_,rfl,by go_num,by omega,kE.out,bT,HA2⟩
    case measure=>simp[intOf];omega
  ·have ay:=hh9 (show T=ak ([]++aO [32,47,32] (kids.map (fun t:Tree=>dD (t.kind==1) (aI d t)))) by
    have:=HT.out;rwa[List.take_of_length_le (by rw[List.length_map,<- bH.out];omega)]at this)
   go_wp2_with fail
   go_ret;exact⟨congrArg (fun u=>Ending.returned (Value.string u)) ay.out,HA.out.below⟩
theorem qf3{d:Nat}(ih:Ei d){w:World}{S0:ByteArray}{kids:List Tree}{vs:List XV}{lo hi:Int}{a c:Option Addr}{m ca n0 cc:Nat}(h2:pX w (.slice c kids.length cc) vs kids)(hr:∀ t∈kids,dK d t=true)(hn1:2<=kids.length)(hn2:kids.length<=9223372036854775807)
  (hl:([]++aO [32] (kids.map (fun t:Tree=>dD (t.kind==1||t.kind==2) (aI d t)))).length<=1000000000000) :
  Calls Tryz.prog 54 #[.agg #[.int .i64 2,.string S0,.slice a m ca,.int .i64 lo,.int .i64 hi,.slice c kids.length cc]] w (nJ ([]++aO [32] (kids.map (fun t:Tree=>dD (t.kind==1||t.kind==2) (aI d t)))) w):=by
 obtain⟨r1,r2,r3⟩:=h2;obtain⟨g,off,rfl,g1,g3,g4⟩:=r1.at4 (by omega);obtain⟨n,hnn⟩:∃ n,n=kids.length:=⟨_,rfl⟩
 rw[<- hnn]at g1 hn1 hn2 r2 ⊢;have bH:=hh9 hnn;have G4:=hh9 g4;have HR2:=hh9 r2;have HR3:=hh9 r3;have HR:=hh9 hr;have HL:=hh9 hl;have nS:=hh9 ih;have hA:=fU.new w 2 lo hi S0 (.slice a m ca) (.slice (some ⟨g,off,none⟩) n cc);unfold aB at hA;have jO:=hh9 hA;clear hnn g4 hr hl hA r1 r2 r3 ih;go_enter Tryz.func54,Tryz.ntmps54;go_wp2_with fail
 go_loopw [3,4] (fun s v wr=>∃ (i:Nat) (T:ByteArray),s=.string T/\v=.int .i64 i/\i<=n/\T.size<=1000000000000/\Hid (T=ak ([]++aO [32] ((kids.map (fun t:Tree=>dD (t.kind==1||t.kind==2) (aI d t))).take i)))/\Hid (fU w wr 2 lo hi S0 (.slice a m ca) (.slice (some ⟨g,off,none⟩) n cc))) (fun _ v _=>n-(intOf v).toNat)
 case atStart=>exact⟨0,_,rfl,rfl,by omega,by decide,rfl,jO⟩
 case round =>
  obtain⟨i,T,rfl,rfl,hi',hT,HT,HA⟩:=hrel;obtain⟨a0,a1,a2,a3,a4,a5⟩:=HA.out.arg.cells;by_cases hlt:i<n
  ·obtain⟨Y,hY⟩:∃ y,vs[i]?=some y:=⟨_,zbC (by rw[HR2.out];exact hlt)⟩
   obtain⟨t,ht⟩:∃ y,kids[i]?=some y:=⟨_,zbC (by rw[<- bH.out];exact hlt)⟩
   have CX:∀ (j:Nat) (u:Value),j<6->Y.cells[j]?=some u->wr.cell? ⟨g,off+(i*6+j),none⟩=some u:=fun j u hj hu =>
    (HA.out.below.cell (p:=⟨g,off+(i*6+j),none⟩) g3).trans (G4.out _ u ((pV vs i j Y hY hj).trans hu))
   have lI:=HR3.out i Y t hY ht;have hx:(kids.map (fun t:Tree=>dD (t.kind==1||t.kind==2) (aI d t)))[i]?=some (dD (t.kind==1||t.kind==2) (aI d t)):=by rw[List.getElem?_map,ht];rfl
   have hnx:=Pp [] [32] _ i _ hx;have hle:=Pq [] [32] (kids.map (fun t:Tree=>dD (t.kind==1||t.kind==2) (aI d t))) (i+1)
   have hel:(dD (t.kind==1||t.kind==2) (aI d t)).length<=1000000000000:=by
    have h1:=zbH hle HL.out;rw[hnx]at h1;simp only[zbG]at h1;omega
   have htl:=zbH (JW (t.kind==1||t.kind==2) (aI d t)) hel;have HI:=hh9 (fun W' (hb:Below w.heap.size w W')=>UN nS.out (lI.under hb) (HR.out t (zbI ht)) htl true true false);have CF:((t.kind==1&&true)||(t.kind==2&&true)||(t.kind==3&&false))=(t.kind==1||t.kind==2):=by cases (t.kind==1)<;>cases (t.kind==2)<;>cases (t.kind==3)<;>rfl
   rw[CF]at HI;obtain⟨E,hE⟩:∃ E,E=ak (dD (t.kind==1||t.kind==2) (aI d t)):=⟨_,rfl⟩
   have Rb:E.size<=1000000000000:=by rw[hE,eP];exact hel
   have HI2:Hid (∀ W',Below w.heap.size w W'->Calls Tryz.prog 77 #[Y.val,.bool true,.bool true,.bool false] W' (fun e w'=>e=.returned (.string E)/\Below W'.heap.size W' w')):=by rw[hE];exact HI
   obtain⟨k',s',pI,lo',nA,kv'⟩:=Y;have e0:=CX 0 _ (by omega) rfl;have e1:=CX 1 _ (by omega) rfl;have e2:=CX 2 _ (by omega) rfl;have e3:=CX 3 _ (by omega) rfl;have e4:=CX 4 _ (by omega) rfl;have e5:=CX 5 _ (by omega) rfl;rw[<- Nat.add_assoc]at e0 e1 e2 e3 e4 e5;rw[Nat.add_zero]at e0;clear CX CF htl hel;by_cases hi0:i=0
   ·subst hi0;rw[Nat.zero_mul,Nat.add_zero]at e0 e1 e2 e3 e4 e5
    have bT:=hh9 (show T++E=ak ([]++aO [32] ((kids.map (fun t:Tree=>dD (t.kind==1||t.kind==2) (aI d t))).take (0+1))) by
     rw[HT.out,hE,hnx,eT,if_pos rfl,List.append_nil])
    have kE:=hh9 (show (T++E).size<=1000000000000 by rw[bT.out,eP];exact zbH hle HL.out);have hsz2:T.size<=1000000000003:=by omega
    have hadd:∀ W:World,(Op.stringOp .add T E).run Tryz.prog W=.ok (.string (T++E)) W:=fun W=>run_string_add_sum W _ _ (by omega)
    clear hx hnx hle hE HI hY ht lI;go_wp2_with fail
    go_region_held3 (fun W=>(W.cell? ⟨w.heap.size,0,none⟩=some (.int .i64 2)/\W.cell? ⟨w.heap.size,5,none⟩=some (.slice (some ⟨g,off,none⟩) n cc)) /\
      (W.cell? ⟨g,off,none⟩=some (.int .i64 k')/\W.cell? ⟨g,off+1,none⟩=some (.string s')/\W.cell? ⟨g,off+2,none⟩=some pI/\W.cell? ⟨g,off+3,none⟩=some (.int .i64 lo')/\W.cell? ⟨g,off+4,none⟩=some (.int .i64 nA)/\W.cell? ⟨g,off+5,none⟩=some kv')/\Below w.heap.size w W)
     (first|exact jg.step (by assumption) (by assumption)|exact jg.drew (by assumption)|exact⟨⟨by assumption,by assumption⟩,⟨by assumption,by assumption,by assumption,by assumption,by assumption,by assumption⟩,dJ HA.out.below 1⟩)
     (first|(go_at_call 77;refine(HI2.out _ (jg.dP (by assumption))).mono ?_;rintro e w' ⟨rfl,hb'⟩;have gL:=hh9 hb'))
    rename_i hS;have HA2:Hid (fU w _ 2 lo hi S0 (.slice a m ca) (.slice (some ⟨g,off,none⟩) n cc)):=((HA.out.under (dJ (zbE _ _) 1)).under gL.out)
    clear hS a0 a1 a2 a3 a4 a5 e0 e1 e2 e3 e4 e5 hb';go_wp2_with fail
    go_roundw
    case rel=>exact⟨0+1,_,rfl,by go_num,by omega,kE.out,bT,HA2⟩
    case measure=>simp[intOf];omega
   ·have F7:0<i:=by omega
    have UO:decide ((0:Int)<(i:Int))=true:=zbN (by omega);have F8:decide (0<i)=true:=zbN F7
    have bT:=hh9 (show (T++(⟨#[32]⟩:ByteArray))++E=ak ([]++aO [32] ((kids.map (fun t:Tree=>dD (t.kind==1||t.kind==2) (aI d t))).take (i+1))) by
     rw[HT.out,hE,hnx,show (⟨#[32]⟩:ByteArray)=ak [32]from rfl,eT,eT,if_neg hi0])
    have kE:=hh9 (show ((T++(⟨#[32]⟩:ByteArray))++E).size<=1000000000000 by rw[bT.out,eP];exact zbH hle HL.out);have hsz2:(T++(⟨#[32]⟩:ByteArray)).size<=1000000000003:=by rw[ByteArray.size_append];show T.size+1<=_;omega
    have hadd:∀ W:World,(Op.stringOp .add (T++(⟨#[32]⟩:ByteArray)) E).run Tryz.prog W=.ok (.string ((T++(⟨#[32]⟩:ByteArray))++E)) W:=fun W=>run_string_add_sum W _ _ (by omega)
    clear hx hnx hle hE HI hY ht lI;go_wp2_with fail
    go_region_held3 (fun W=>(W.cell? ⟨w.heap.size,0,none⟩=some (.int .i64 2)/\W.cell? ⟨w.heap.size,5,none⟩=some (.slice (some ⟨g,off,none⟩) n cc)) /\
      (W.cell? ⟨g,off+i*6,none⟩=some (.int .i64 k')/\W.cell? ⟨g,off+i*6+1,none⟩=some (.string s')/\W.cell? ⟨g,off+i*6+2,none⟩=some pI/\W.cell? ⟨g,off+i*6+3,none⟩=some (.int .i64 lo')/\W.cell? ⟨g,off+i*6+4,none⟩=some (.int .i64 nA)/\W.cell? ⟨g,off+i*6+5,none⟩=some kv')/\Below w.heap.size w W)
     (first|exact jg.step (by assumption) (by assumption)|exact jg.drew (by assumption)|exact⟨⟨by assumption,by assumption⟩,⟨by assumption,by assumption,by assumption,by assumption,by assumption,by assumption⟩,dJ HA.out.below 1⟩)
     (first|(go_at_call 77;refine(HI2.out _ (jg.dP (by assumption))).mono ?_;rintro e w' ⟨rfl,hb'⟩;have gL:=hh9 hb'))
    rename_i hS;have HA2:Hid (fU w _ 2 lo hi S0 (.slice a m ca) (.slice (some ⟨g,off,none⟩) n cc)):=((HA.out.under (dJ (zbE _ _) 1)).under gL.out)
    clear hS a0 a1 a2 a3 a4 a5 e0 e1 e2 e3 e4 e5 hb';go_wp2_with fail
    go_roundw
    case rel=>exact⟨i+1,_,rfl,by go_num,by omega,kE.out,bT,HA2⟩
    case measure=>simp[intOf];omega
  ·have ay:=hh9 (show T=ak ([]++aO [32] (kids.map (fun t:Tree=>dD (t.kind==1||t.kind==2) (aI d t)))) by
    have:=HT.out;rwa[List.take_of_length_le (by rw[List.length_map,<- bH.out];omega)]at this)
   go_wp2_with fail
   go_ret;exact⟨congrArg (fun u=>Ending.returned (Value.string u)) ay.out,HA.out.below⟩
end Go.Proofs.YtahibnnhjahmnaaGreatDoor
