/- Part 4 of what the laws of the grammar rest on. -/
import Derived.Test.YtahibnnhjahmnaaGreatDoorA3
import Derived.Lib.Strings
import Derived.Laws.IdiomStrings
set_option linter.all false
set_option maxRecDepth 100000
set_option maxHeartbeats 8000000
namespace Go.Proofs.YtahibnnhjahmnaaGreatDoor
structure GR where
 name:List Int
 expr:Tree
def bI:List GR->List Int->Option Nat
 |[],_=>none
 |r::g,x=>if r.name=x then some 0 else (bI g x).map (·+1)
def uz(g:List GR)(x:List Int):Int:=match bI g x with
 |some i=>i
 |none=>-1
theorem Ny{x:List Int}:∀ {g:List GR},bI g x=none ↔ ∀ r∈g,r.name≠x
 |[]=>by simp[bI]
 |r::g=>by
  unfold bI;by_cases h:r.name=x
  ·simp[h]
  ·rw[if_neg h,Option.map_eq_none_iff,Ny];simp[h]
theorem tN{x:List Int}:∀ {g:List GR} {i:Nat},bI g x=some i ↔ (∃ r,g[i]?=some r/\r.name=x)/\∀ j r,j<i->g[j]?=some r->r.name≠x
 |[],i=>by simp[bI]
 |r::g,i=>by
  unfold bI;by_cases h:r.name=x
  ·rw[if_pos h];constructor
   ·intro e;have:=zbB e;subst this;exact⟨⟨r,rfl,h⟩,fun j r' hj=>by omega⟩
   ·rintro⟨_,h2⟩
    cases i with
    |zero=>rfl
    |succ i=>exact absurd h (h2 0 r (by omega) rfl)
  ·rw[if_neg h]
   cases i with
   |zero =>
    constructor
    ·intro e
     cases hf:bI g x<;>rw[hf]at e<;>simp at e
    ·rintro⟨⟨r',h1,h2⟩,_⟩;simp at h1;subst h1;exact absurd h2 h
   |succ i =>
    have ih:=tN (x:=x) (g:=g) (i:=i);constructor
    ·intro e
     cases hf:bI g x with
     |none=>rw[hf]at e;simp at e
     |some k =>
      rw[hf]at e;simp at e;subst e;obtain⟨⟨r',h1,h2⟩,h3⟩:=ih.1 hf;refine⟨⟨r',h1,h2⟩,fun j r'' hj hr=>?_⟩
      cases j with
      |zero=>simp at hr;subst hr;exact h
      |succ j=>exact h3 j r'' (by omega) hr
    ·rintro⟨⟨r',h1,h2⟩,h3⟩;have:=ih.2 ⟨⟨r',h1,h2⟩,fun j r'' hj hr=>h3 (j+1) r'' (by omega) hr⟩;rw[this];rfl
theorem Qn{g:List GR}{x:List Int}{i:Nat}(h:bI g x=some i):i<g.length:=by
 obtain⟨⟨r,h1,_⟩,_⟩:=tN.1 h;exact(zbF.1 h1).1
theorem Dq{g:List GR}{x:List Int}{i:Nat}(h:bI g x=some i):uz g x=i:=by unfold uz;rw[h]
theorem ED{g:List GR}{x:List Int}(h:bI g x=none):uz g x=-1:=by unfold uz;rw[h]
def bn:Tree->List (List Int)
 |.mk k x _ _ _ kids=>(if k=4 then [x] else [])++(kids.map bn).flatten
theorem Dr(k lo hi:Int)(x ns:List Int)(kids:List Tree):bn (.mk k x ns lo hi kids)=(if k=4 then [x] else [])++(kids.map bn).flatten:=by rw[bn]
def fO:Tree->List Tree
 |.mk k x ns lo hi kids=>if k=1 then kids else [.mk k x ns lo hi kids]
def uD(a b:Tree):Tree:=.mk 1 [] [] 0 0 (fO a++fO b)
def jQ(g:List GR)(l:Rule):Option (List GR) :=
 match bI g l.name with
 |none=>if l.more=true then none else some (g++[⟨l.name,l.expr⟩])
 |some i=>if l.more=true then (g[i]?).map fun r=>g.set i ⟨r.name,uD r.expr l.expr⟩ else none
def lg:List GR->List Rule->Option (List GR)
 |g,[]=>some g
 |g,l::ls=>(jQ g l).bind fun g'=>lg g' ls
theorem Al(g:List GR)(l:Rule)(ls:List Rule):lg g (l::ls)=(jQ g l).bind fun g'=>lg g' ls:=rfl
def bZ(s:List Int):Tree:=.mk 4 s [] 0 0 []
def dH(s:List Int):Tree:=.mk 5 s [] 0 0 []
def mX(n:Int):Tree:=.mk 6 [] [n] 0 0 []
def jK(a b:Int):Tree:=.mk 7 [] [a,b] 0 0 []
def jh(l:List Tree):Tree:=.mk 1 [] [] 0 0 l
def rP(l:List Tree):Tree:=.mk 2 [] [] 0 0 l
def Ju:List Int:=[97,108,112,104,97]
def EF:List Int:=[98,105,116]
def Qo:List Int:=[99,104,97,114]
def Am:List Int:=[99,114]
def tO:List Int:=[99,114,108,102]
def yF:List Int:=[99,116,108]
def iQ:List Int:=[100,105,103,105,116]
def Qp:List Int:=[100,113,117,111,116,101]
def Jv:List Int:=[104,101,120,100,105,103]
def Ao:List Int:=[104,116,97,98]
def Ap:List Int:=[108,102]
def Jw:List Int:=[108,119,115,112]
def Qq:List Int:=[111,99,116,101,116]
def Aq:List Int:=[115,112]
def Qr:List Int:=[118,99,104,97,114]
def iT:List Int:=[119,115,112]
def fJ:List GR:=[
 ⟨Ju,jh [jK 65 90,jK 97 122]⟩,⟨EF,jh [dH [48],dH [49]]⟩,⟨Qo,jK 1 127⟩,⟨Am,mX 13⟩,⟨tO,rP [bZ Am,bZ Ap]⟩,⟨yF,jh [jK 0 31,mX 127]⟩,⟨iQ,jK 48 57⟩,⟨Qp,mX 34⟩,
 ⟨Jv,jh [bZ iQ,dH [97],dH [98],dH [99],dH [100],dH [101],dH [102]]⟩,⟨Ao,mX 9⟩,⟨Ap,mX 10⟩,⟨Jw,.mk 3 [] [] 0 (-1) [jh [bZ iT,rP [bZ tO,bZ iT]]]⟩,⟨Qq,jK 0 255⟩,⟨Aq,mX 32⟩,⟨Qr,jK 33 126⟩,⟨iT,jh [bZ Aq,bZ Ao]⟩]
def dO(g:List GR)(x:List Int):Option (List GR) :=
 match bI g x with
 |some _=>some g
 |none=>match bI fJ x with
  |none=>none
  |some c=>(fJ[c]?).map fun r=>g++[r]
def jw:List GR->List (List Int)->Option (List GR)
 |g,[]=>some g
 |g,x::xs=>(dO g x).bind fun g'=>jw g' xs
theorem Nz:∀ (xs ys:List (List Int)) (g:List GR),jw g (xs++ys)=(jw g xs).bind fun g'=>jw g' ys
 |[],ys,g=>rfl
 |x::xs,ys,g=>by
  show (dO g x).bind (fun g'=>jw g' (xs++ys))=((dO g x).bind fun g'=>jw g' xs).bind fun g'=>jw g' ys
  cases dO g x with
  |none=>rfl
  |some g'=>exact Nz xs ys g'
inductive bW:Nat->Nat->List GR->Option (List GR)->Prop
 |done {i:Nat} {g:List GR}:g.length<=i->bW 0 i g (some g)
 |fail {i:Nat} {g:List GR} {r:GR}:g[i]?=some r->jw g (bn r.expr)=none->bW 1 i g none
 |step {n i:Nat} {g g':List GR} {r:GR} {R:Option (List GR)}:g[i]?=some r->jw g (bn r.expr)=some g'->bW n (i+1) g' R->bW (n+1) i g R
theorem bW.one{n i:Nat}{g:List GR}{R:Option (List GR)}(h:bW n i g R):∀ {n':Nat} {R':Option (List GR)},bW n' i g R'->n=n'/\R=R':=by
 induction h with
 |done h =>
  intro n' R' h'
  cases h' with
  |done=>exact⟨rfl,rfl⟩
  |fail h1=>have:=(zbF.1 h1).1;omega
  |step h1=>have:=(zbF.1 h1).1;omega
 |fail h1 h2 =>
  intro n' R' h'
  cases h' with
  |done h=>have:=(zbF.1 h1).1;omega
  |fail=>exact⟨rfl,rfl⟩
  |step h3 h4 =>
   have e:=zbB (h1.symm.trans h3);subst e;rw[h2]at h4
   cases h4
 |step h1 h2 _ ih =>
  intro n' R' h'
  cases h' with
  |done h=>have:=(zbF.1 h1).1;omega
  |fail h3 h4 =>
   have e:=zbB (h1.symm.trans h3);subst e;rw[h2]at h4
   cases h4
  |step h3 h4 h5 =>
   have e:=zbB (h1.symm.trans h3);subst e;rw[h2]at h4;have e:=zbB h4;subst e;obtain⟨a,b⟩:=ih h5;exact⟨by rw[a],b⟩
def pF(g:List GR):Nat:=(fJ.filter fun r=>(bI g r.name).isNone).length
theorem Jy{g h:List GR}{x:List Int}:bI (g++h) x=match bI g x with
 |some i=>some i
 |none=>(bI h x).map (·+g.length):=by
 induction g with
 |nil=>simp[bI]
 |cons r g ih =>
  simp only[List.cons_append,bI];by_cases e:r.name=x
  ·rw[if_pos e,if_pos e]
  ·rw[if_neg e,if_neg e,ih]
   cases bI g x with
   |some i=>rfl
   |none =>
    cases bI h x with
    |none=>rfl
    |some k=>simp;omega
theorem Qs{α:Type}(p q:α->Bool)(hpq:∀ x,q x=true->p x=true):∀ (l:List α) (c:α),c∈l->p c=true->q c=false->(l.filter q).length<(l.filter p).length
 |[],c,h,_,_=>by cases h
 |a::l,c,h,hp,hq=>by
  have le:∀ l:List α,(l.filter q).length<=(l.filter p).length:=fun l=>by
   induction l with
   |nil=>simp
   |cons b l ih =>
    by_cases hb:q b=true
    ·simp[hb,hpq b hb,ih]
    ·by_cases hb2:p b=true
     ·simp[hb,hb2];omega
     ·simp[hb,hb2,ih]
  rcases List.mem_cons.1 h with rfl|h
  ·have:=le l;simp[hp,hq];omega
  ·have ih:=Qs p q hpq l c h hp hq;by_cases hb:q a=true
   ·simp[hb,hpq a hb,ih]
   ·by_cases hb2:p a=true
    ·simp[hb,hb2];omega
    ·simp[hb,hb2,ih]
theorem Wx{g g':List GR}{x:List Int}(h:dO g x=some g'):g'.length+pF g'<=g.length+pF g/\g.length<=g'.length:=by
 unfold dO at h
 cases hg:bI g x with
 |some i =>
  rw[hg]at h;simp at h;subst h;omega
 |none =>
  rw[hg]at h
  cases hc:bI fJ x with
  |none=>rw[hc]at h;simp at h
  |some c =>
   rw[hc]at h;obtain⟨⟨r,h1,h2⟩,_⟩:=tN.1 hc;simp only[h1,Option.map_some]at h;have e:=zbB h;subst e;refine⟨?_,by simp⟩
   have:pF (g++[r])<pF g:=by
    unfold pF;refine Qs (fun r=>(bI g r.name).isNone) (fun u=>(bI (g++[r]) u.name).isNone) (fun u hu=>?_) fJ r (zbI h1) (by simp[h2,hg]) ?_
    ·simp only[Jy]at hu
     cases hf:bI g u.name with
     |none=>rfl
     |some i=>rw[hf]at hu;simp at hu
    ·simp[Jy,bI,h2,hg]
   simp;omega
theorem Jz:∀ {xs:List (List Int)} {g g':List GR},jw g xs=some g'->g'.length+pF g'<=g.length+pF g/\g.length<=g'.length
 |[],g,g',h=>by
  have e:=zbB h;subst e;omega
 |x::xs,g,g',h=>by
  change (dO g x).bind (fun g'=>jw g' xs)=some g' at h
  cases hm:dO g x with
  |none=>rw[hm]at h;simp at h
  |some g1 =>
   rw[hm]at h;have h1:=Wx hm;have h2:=Jz (xs:=xs) (g:=g1) (g':=g') h;omega
theorem bW.is:∀ (k i:Nat) (g:List GR),g.length+pF g<=i+k->∃ n R,bW n i g R
 |0,i,g,h=>⟨0,_,.done (by omega)⟩
 |k+1,i,g,h=>by
  by_cases hi:g.length<=i
  ·exact⟨0,_,.done hi⟩
  ·have hr:g[i]?=some g[i]:=zbC (by omega)
   cases ha:jw g (bn g[i].expr) with
   |none=>exact⟨1,_,.fail hr ha⟩
   |some g' =>
    have:=Jz ha;obtain⟨n,R,h'⟩:=bW.is k (i+1) g' (by omega);exact⟨n+1,R,.step hr ha h'⟩
def qR(l:List Rule)(g:List GR)(e:Int):Prop :=
 ((l.all fun r=>mF r.name&&dK 50 r.expr)=false/\g=[]/\e=1) \/
 ((l.all fun r=>mF r.name&&dK 50 r.expr)=true/\((lg [] l=none/\g=[]/\e=41) \/
  ∃ g0 n R,lg [] l=some g0/\bW n 0 g0 R/\((R=none/\g=[]/\e=40)\/(R=some g/\e=0))))
theorem qR.one{l:List Rule}{g g':List GR}{e e':Int}(h:qR l g e)(h':qR l g' e'):g=g'/\e=e':=by
 rcases h with ⟨a,rfl,rfl⟩|⟨a,h⟩<;>rcases h' with ⟨a',rfl,rfl⟩|⟨a',h'⟩
 ·exact⟨rfl,rfl⟩
 ·rw[a]at a';cases a'
 ·rw[a]at a';cases a'
 rcases h with ⟨b,rfl,rfl⟩|⟨g0,n,R,b,c,d⟩<;>rcases h' with ⟨b',rfl,rfl⟩|⟨g0',n',R',b',c',d'⟩
 ·exact⟨rfl,rfl⟩
 ·rw[b]at b';cases b'
 ·rw[b]at b';cases b'
 rw[b]at b';have e0:=zbB b';subst e0;obtain⟨_,rfl⟩:=c.one c';rcases d with ⟨rfl,rfl,rfl⟩|⟨rfl,rfl⟩<;>rcases d' with ⟨d1,rfl,rfl⟩|⟨d1,rfl⟩
 ·exact⟨rfl,rfl⟩
 ·cases d1
 ·cases d1
 ·exact⟨zbB d1,rfl⟩
end Go.Proofs.YtahibnnhjahmnaaGreatDoor
namespace Go.Proofs.YtahibnnhjahmnaaGreatDoor
open Go.RowKit
def au(W:World)(v:Value)(n:Nat)(xs:List Value):Prop :=
 (n=0/\∃ a cap,v=.slice a 0 cap)\/∃ g off cap,v=.slice (some ⟨g,off,none⟩) n cap/\n<=cap/\cap<=maxLen/\g<W.heap.size/\∀ (j:Nat) (u:Value),xs[j]?=some u->W.cell? ⟨g,off+j,none⟩=some u
theorem au.below{W W':World}{v:Value}{n:Nat}{xs:List Value}(h:au W v n xs)(hb:Below W.heap.size W W'):au W' v n xs:=by
 rcases h with h|⟨g,off,cap,hv,h1,h2,h3,h4⟩
 ·exact .inl h
 ·exact .inr ⟨g,off,cap,hv,h1,h2,Nat.lt_of_lt_of_le h3 hb.size,fun j u hj=>(hb.cell (p:=⟨g,off+j,none⟩) h3).trans (h4 j u hj)⟩
inductive aM (W:World):XV->Tree->Prop
 |mk {k lo hi:Int} {ns ks:Value} {x nums:List Int} {kids:List Tree} (vs:List XV) :
   (∀ c∈x,0<=c/\c<=255)->x.length<=9223372036854775807->au W ns nums.length (dA nums)->au W ks kids.length (vs.flatMap XV.cells)->vs.length=kids.length ->
   (∀ (i:Nat) (y:XV) (t:Tree),vs[i]?=some y->kids[i]?=some t->aM W y t)->aM W ⟨k,ak x,ns,lo,hi,ks⟩ (.mk k x nums lo hi kids)
theorem aM.under{W W':World}{x:XV}{t:Tree}(h:aM W x t)(hb:Below W.heap.size W W'):aM W' x t:=by
 induction h with
 |mk vs h0 hl h1 h2 h3 _ ih=>exact .mk vs h0 hl (h1.below hb) (h2.below hb) h3 ih
theorem Qt(c:Int)(h0:0<=c)(h1:c<=255)(w:World):Calls Tryz.prog 73 #[.int .u8 c] w (kR (uw c) w):=by
 have hu:uw c=(decide (97<=c)&&decide (c<=122)):=rfl;by_cases a:97<=c<;>by_cases b:c<=122
 all_goals try (exfalso;omega)
 all_goals
  simp only[a,b,decide_true,decide_false,Bool.and_true,Bool.and_false,Bool.and_self]at hu;rw[hu];clear hu;go_enter Tryz.func73,Tryz.ntmps73;go_wp2;go_ret;exact⟨rfl,rfl⟩
theorem ztt(c:Int)(h0:0<=c)(h1:c<=255)(w:World):Calls Tryz.prog 74 #[.int .u8 c] w (kR (aS c) w):=by
 have hu:aS c=(decide (48<=c)&&decide (c<=57)):=rfl;by_cases a:48<=c<;>by_cases b:c<=57
 all_goals try (exfalso;omega)
 all_goals
  simp only[a,b,decide_true,decide_false,Bool.and_true,Bool.and_false,Bool.and_self]at hu;rw[hu];clear hu;go_enter Tryz.func74,Tryz.ntmps74;go_wp2;go_ret;exact⟨rfl,rfl⟩
theorem Wy(c:Int)(h0:0<=c)(h1:c<=255)(w:World):Calls Tryz.prog 83 #[.int .u8 c] w (kR (uw c) w):=by
 have hu:uw c=(decide (97<=c)&&decide (c<=122)):=rfl;by_cases a:97<=c<;>by_cases b:c<=122
 all_goals try (exfalso;omega)
 all_goals
  simp only[a,b,decide_true,decide_false,Bool.and_true,Bool.and_false,Bool.and_self]at hu;rw[hu];clear hu;go_enter Tryz.func83,Tryz.ntmps83;go_wp2;go_ret;exact⟨rfl,rfl⟩
theorem zzk(n:Int)(w:World):Calls Tryz.prog 124 #[.int .i64 n] w (kR (bK n) w):=by
 have hu:bK n=(decide (0<=n)&&decide (n<=1114111)):=rfl;by_cases a:0<=n<;>by_cases b:n<=1114111
 all_goals try (exfalso;omega)
 all_goals
  simp only[a,b,decide_true,decide_false,Bool.and_true,Bool.and_false,Bool.and_self]at hu;rw[hu];clear hu;go_enter Tryz.func124,Tryz.ntmps124;go_wp2;go_ret;exact⟨rfl,rfl⟩
theorem ztu(c:Int)(h0:0<=c)(h1:c<=255)(w:World):Calls Tryz.prog 85 #[.int .u8 c] w (kR (kS c) w):=by
 have HS:=hh9 (fun W=>Wy c h0 h1 W)
 cases hs:uw c
 ·rw[hs]at HS
  cases hd:aS c
  ·have hd':¬ (48<=c/\c<=57):=by unfold aS at hd;simp at hd;omega
   by_cases e:c=45
   ·subst e;rw[show kS 45=true by decide];clear hs hd hd';go_enter Tryz.func85,Tryz.ntmps85;go_wp2_with fail
    refine(HS.out _).mono ?_;rintro e w' ⟨rfl,rfl⟩;go_wp2_with fail
    go_ret;exact⟨rfl,rfl⟩
   ·have q:(c==45)=false:=by simpa using e
    rw[show kS c=false by unfold kS;rw[hs,hd,q];rfl];clear hs hd;by_cases a:48<=c
    ·have b:decide (c<=57)=false:=zbM (by omega);go_enter Tryz.func85,Tryz.ntmps85;go_wp2_with fail
     refine(HS.out _).mono ?_;rintro e w' ⟨rfl,rfl⟩;go_wp2_with fail
     go_ret;exact⟨rfl,rfl⟩
    ·go_enter Tryz.func85,Tryz.ntmps85;go_wp2_with fail
     refine(HS.out _).mono ?_;rintro e w' ⟨rfl,rfl⟩;go_wp2_with fail
     go_ret;exact⟨rfl,rfl⟩
  ·obtain⟨a,b⟩:48<=c/\c<=57:=by unfold aS at hd;simpa using hd
   rw[show kS c=true by unfold kS;rw[hd];simp];clear hs hd;go_enter Tryz.func85,Tryz.ntmps85;go_wp2_with fail
   refine(HS.out _).mono ?_;rintro e w' ⟨rfl,rfl⟩;go_wp2_with fail
   go_ret;exact⟨rfl,rfl⟩
 ·rw[hs]at HS;rw[show kS c=true by unfold kS;rw[hs];rfl];clear hs;go_enter Tryz.func85,Tryz.ntmps85;go_wp2_with fail
  refine(HS.out _).mono ?_;rintro e w' ⟨rfl,rfl⟩;go_wp2_with fail
  go_ret;exact⟨rfl,rfl⟩
theorem NA{x:List Int}(hx:∀ c∈x,0<=c/\c<=255)(i:Nat)(h:i<(ak x).size):x[i]?=some ((ak x)[i].toNat:Int):=by
 have h':i<x.length:=by rwa[eP]at h
 have h1:(ak x)[i]=ig x[i]:=by
  have e:(ak x).data.toList[i]?=some (ig x[i]):=by rw[Ag,List.getElem?_map,zbC h'];rfl
  have e2:(ak x).data.toList[i]?=some (ak x)[i]:=zbC (by simpa using h);exact zbB (e2.symm.trans e)
 rw[h1,zbC h'];have hm:=hx x[i] (List.getElem_mem h');unfold ig
 congr 1
 simp;omega
theorem Qu{s:ByteArray}(h:0<s.size):s.toList.isEmpty=false:=by
 rw[Lib.toList_data]
 cases g:s.data.toList with
 |nil =>
  have:s.size=0:=by
   show s.data.size=0
   rw[<- Array.length_toList,g];rfl
  omega
 |cons a l=>rfl
theorem G8{P:Int->Bool}{x:List Int}{n:Nat}(hn:x.length<=n)(h:∀ (i:Nat) (c:Int),i<n->x[i]?=some c->P c=true):x.all P=true:=by
 rw[List.all_eq_true];intro c hc;obtain⟨i,hi⟩:=List.getElem?_of_mem hc;exact h i c (Nat.lt_of_lt_of_le (zbF.1 hi).1 hn) hi
theorem G9{P:Int->Bool}{x:List Int}{i:Nat}{c:Int}(h:x[i]?=some c)(hc:P c=false):x.all P=false:=by
 rw[List.all_eq_false];exact⟨c,zbI h,by simp[hc]⟩
theorem Dt{x:List Int}(w:World)(hx:∀ c∈x,0<=c/\c<=255)(hl:x.length<=9223372036854775807):Calls Tryz.prog 75 #[.string (ak x)] w (kR (x.all kZ) w):=by
 have hsz:=eP x;have hget:=NA hx;obtain⟨S,hS⟩:∃ S,S=ak x:=⟨_,rfl⟩
 rw[<- hS]at hsz hget ⊢;obtain⟨n,hn⟩:∃ n,n=x.length:=⟨_,rfl⟩
 rw[<- hn]at hsz hl;have HN:=hh9 hn;have qU:=hh9 hget;have kE:=hh9 hsz;have hsm:S.size<=9223372036854775807:=by omega
 clear hx hS hn hget;go_enter Tryz.func75,Tryz.ntmps75;go_wp2_with fail
 go_loop [3] (fun v=>∃ i:Nat,v=.int .i64 i/\i<=n/\∀ (j:Nat) (c:Int),j<i->x[j]?=some c->kZ c=true) (fun v=>n-(intOf v).toNat)
 case atStart=>exact⟨0,rfl,by omega,fun j c h=>by omega⟩
 case round =>
  obtain⟨i,rfl,hi,hall⟩:=hrel;have aF:=hh9 hall;clear hall;by_cases hlt:i<n
  ·have hss:i<S.size:=by have:=kE.out;omega
   have hxi:=qU.out i hss;obtain⟨Z,hZ⟩:∃ z,((S[i].toNat:Nat):Int)=z:=⟨_,rfl⟩
   rw[hZ]at hxi;have xW:0<=Z:=by omega
   have mY:=hh9 hxi;clear hxi
   cases hf:kZ Z
   ·have kJ:=hh9 (G9 mY.out hf);rw[kJ.out]
    have hf2:Z<32\/126<Z\/Z=34\/(65<=Z/\Z<=90):=by
     unfold kZ at hf;simp at hf;omega
    clear hf;by_cases a:Z<32
    ·go_wp2_with fail
     go_ret;exact⟨rfl,rfl⟩
    ·by_cases b:126<Z
     ·go_wp2_with fail
      go_ret;exact⟨rfl,rfl⟩
     ·by_cases c:Z=34
      ·have qc:(Z==34)=true:=by simpa using c
       go_wp2_with fail
       go_ret;exact⟨rfl,rfl⟩
      ·have qc:(Z==34)=false:=by simpa using c
       have d:65<=Z:=by omega
       have d2:Z<=90:=by omega
       go_wp2_with fail
       go_ret;exact⟨rfl,rfl⟩
   ·have bT:Hid (∀ (j:Nat) (c:Int),j<i+1->x[j]?=some c->kZ c=true):=fun j c hj hc=>by
     by_cases g:j=i
     ·subst g;rw[mY.out]at hc;rw[<- zbB hc];exact hf
     ·exact aF.out j c (by omega) hc
    have hf2:32<=Z/\Z<=126/\Z≠34/\(Z<65\/90<Z):=by
     unfold kZ at hf;simp at hf;omega
    obtain⟨a,b,c,d⟩:=hf2;have qc:(Z==34)=false:=by simpa using c
    clear hf c;by_cases e:65<=Z
    ·have e2:decide (Z<=90)=false:=zbM (by omega);go_wp2_with fail
     go_round
     case rel=>exact⟨i+1,by go_num,by omega,bT.out⟩
     case measure=>simp[intOf];omega
    ·go_wp2_with fail
     go_round
     case rel=>exact⟨i+1,by go_num,by omega,bT.out⟩
     case measure=>simp[intOf];omega
  ·have hyes:x.all kZ=true:=G8 (n:=n) (by rw[HN.out];exact zbA _) (fun j c h hc=>aF.out j c (by omega) hc);have jy:=hh9 hyes;clear hyes;go_wp2_with fail
   go_ret;exact⟨by rw[jy.out];exact rfl,rfl⟩
theorem qe7{c:Int}(h:kS c=false):uw c=false/\aS c=false/\c≠45:=by
 unfold kS at h;simp at h;exact⟨h.1.1,h.1.2,h.2⟩
theorem BK{x:List Int}(w:World)(hx:∀ c∈x,0<=c/\c<=255)(hl:x.length<=9223372036854775807):Calls Tryz.prog 52 #[.string (ak x)] w (kR (mF x) w):=by
 cases x with
 |nil =>
  rw[GQ];go_enter Tryz.func52,Tryz.ntmps52;go_wp2_with fail
  go_ret;exact⟨rfl,rfl⟩
 |cons a l =>
  obtain⟨x,wI⟩:∃ x,x=a::l:=⟨_,rfl⟩
  have hname:mF (a::l)=(decide (x.length<=40)&&uw a&&x.all kS):=by rw[wI];rfl
  rw[hname];rw[<- wI]at hx hl ⊢;have ha:=hx a (by rw[wI];simp);have h0:x[0]?=some a:=by rw[wI];rfl
  have hpos:0<x.length:=by rw[wI];simp
  clear hname wI;have hsz:=eP x;have hget:=NA hx;obtain⟨S,hS⟩:∃ S,S=ak x:=⟨_,rfl⟩
  rw[<- hS]at hsz hget ⊢;obtain⟨n,hn⟩:∃ n,n=x.length:=⟨_,rfl⟩
  rw[<- hn]at hsz hl hpos ⊢;have hlist:S.toList.isEmpty=false:=Qu (by omega);have HN:=hh9 hn;have qU:=hh9 hget;have kE:=hh9 hsz;have hsm:S.size<=9223372036854775807:=by omega
  have yG:0<S.size:=by omega
  have oF:((S[0].toNat:Nat):Int)=a:=by
   have:=hget 0 yG;rw[h0]at this;exact(zbB this).symm
  have oG:=hh9 oF;have HX:=hh9 hx;clear hx hS hn hget h0 oF;by_cases kT:n<=40
  ·have q1:decide (n<=40)=true:=zbN kT;rw[q1];have EG:¬ 40<S.size:=by have:=kE.out;omega
   cases uE:uw a
   ·have oH:=hh9 (fun W=>Qt a ha.1 ha.2 W);rw[uE]at oH;clear q1;go_enter Tryz.func52,Tryz.ntmps52;go_wp2_with fail
    rw[oG.out];refine(oH.out _).mono ?_;rintro e w' ⟨rfl,rfl⟩;go_wp2_with fail
    go_ret;exact⟨rfl,rfl⟩
   ·have oH:=hh9 (fun W=>Qt a ha.1 ha.2 W);rw[uE]at oH;clear q1;go_enter Tryz.func52,Tryz.ntmps52;go_wp2_with fail
    rw[oG.out];refine(oH.out _).mono ?_;rintro e w' ⟨rfl,rfl⟩;go_wp2_with fail
    go_loop [3] (fun v=>∃ i:Nat,v=.int .i64 i/\i<=n/\∀ (j:Nat) (c:Int),j<i->x[j]?=some c->kS c=true) (fun v=>n-(intOf v).toNat)
    case atStart=>exact⟨0,rfl,by omega,fun j c h=>by omega⟩
    case round =>
     obtain⟨i,rfl,hi,hall⟩:=hrel;have aF:=hh9 hall;clear hall;by_cases hlt:i<n
     ·have hss:i<S.size:=by have:=kE.out;omega
      have hxi:=qU.out i hss;obtain⟨Z,hZ⟩:∃ z,((S[i].toNat:Nat):Int)=z:=⟨_,rfl⟩
      rw[hZ]at hxi;have xW:0<=Z/\Z<=255:=HX.out Z (zbI hxi);have mY:=hh9 hxi;have HL:=hh9 (fun W=>Qt Z xW.1 xW.2 W);have HD:=hh9 (fun W=>ztt Z xW.1 xW.2 W);clear hxi
      cases hf:kS Z
      ·have kJ:=hh9 (G9 mY.out hf);obtain⟨f1,f2,f3⟩:=qe7 hf;rw[f1]at HL;rw[f2]at HD;have JA:(Z != 45)=true:=by simpa using f3
       clear hf f1 f2 f3;go_wp2_with fail
       refine(HL.out _).mono ?_;rintro e w' ⟨rfl,rfl⟩;go_wp2_with fail
       refine(HD.out _).mono ?_;rintro e w' ⟨rfl,rfl⟩;go_wp2_with fail
       go_ret;exact⟨by rw[kJ.out];simp,rfl⟩
      ·have bT:Hid (∀ (j:Nat) (c:Int),j<i+1->x[j]?=some c->kS c=true):=fun j c hj hc=>by
        by_cases g:j=i
        ·subst g;rw[mY.out]at hc;rw[<- zbB hc];exact hf
        ·exact aF.out j c (by omega) hc
       cases f1:uw Z
       ·rw[f1]at HL
        cases f2:aS Z
        ·rw[f2]at HD
         have JA:(Z != 45)=false:=by
          unfold kS at hf;rw[f1,f2]at hf;simpa using hf
         clear hf f1 f2;go_wp2_with fail
         refine(HL.out _).mono ?_;rintro e w' ⟨rfl,rfl⟩;go_wp2_with fail
         refine(HD.out _).mono ?_;rintro e w' ⟨rfl,rfl⟩;go_wp2_with fail
         go_round
         case rel=>exact⟨i+1,by go_num,by omega,bT.out⟩
         case measure=>simp[intOf];omega
        ·rw[f2]at HD;clear hf f1 f2;go_wp2_with fail
         refine(HL.out _).mono ?_;rintro e w' ⟨rfl,rfl⟩;go_wp2_with fail
         refine(HD.out _).mono ?_;rintro e w' ⟨rfl,rfl⟩;go_wp2_with fail
         go_round
         case rel=>exact⟨i+1,by go_num,by omega,bT.out⟩
         case measure=>simp[intOf];omega
       ·rw[f1]at HL;clear hf f1;go_wp2_with fail
        refine(HL.out _).mono ?_;rintro e w' ⟨rfl,rfl⟩;go_wp2_with fail
        go_round
        case rel=>exact⟨i+1,by go_num,by omega,bT.out⟩
        case measure=>simp[intOf];omega
     ·have hyes:x.all kS=true:=G8 (n:=n) (by rw[HN.out];exact zbA _) (fun j c h hc=>aF.out j c (by omega) hc);have jy:=hh9 hyes;clear hyes;go_wp2_with fail
      go_ret;exact⟨by rw[jy.out];exact rfl,rfl⟩
  ·have q1:decide (n<=40)=false:=zbM kT;rw[q1];have EG:40<S.size:=by have:=kE.out;omega
   clear q1;go_enter Tryz.func52,Tryz.ntmps52;go_wp2_with fail
   go_ret;exact⟨rfl,rfl⟩
def xX(x:List Int):List Value:=x.map (Value.int .u8)
theorem Wz{x:List Int}{i:Nat}{c:Int}(h:x[i]?=some c):(xX x)[i]?=some (.int .u8 c):=by simp[xX,h]
theorem He{x:List Int}{i:Nat}{c:Int}(h:x[i]?=some c):(dA x)[i]?=some (.int .i64 c):=by simp[dA,h]
theorem ztv(c:Int)(h0:0<=c)(h1:c<=255)(w:World):Calls Tryz.prog 122 #[.int .u8 c] w (kR (kZ c) w):=by
 have hu:kZ c=(decide (32<=c)&&decide (c<=126)&&!(c==34)&&!(decide (65<=c)&&decide (c<=90))):=rfl;by_cases q:c=34
 ·subst q;rw[show kZ 34=false by decide];clear hu;go_enter Tryz.func122,Tryz.ntmps122;go_wp2;go_ret;exact⟨rfl,rfl⟩
 ·have q1:(c==34)=false:=by simpa using q
  have q2:(c != 34)=true:=by simpa using q
  rw[q1]at hu;by_cases a:32<=c<;>by_cases b:c<=126<;>by_cases d:65<=c<;>by_cases e:c<=90
  all_goals try (exfalso;omega)
  all_goals
   simp only[a,b,d,e,decide_true,decide_false,Bool.and_true,Bool.and_false,Bool.and_self,Bool.not_false,Bool.not_true,Bool.true_and,Bool.false_and]at hu;rw[hu];clear hu;have w1:(32<=c\/¬ 32<=c):=by omega
   have k1:decide (c<65)=!decide (65<=c):=by by_cases g:65<=c<;>simp[g]<;>omega
   have k2:decide (90<c)=!decide (c<=90):=by by_cases g:c<=90<;>simp[g]<;>omega
   simp only[d,e,decide_true,decide_false,Bool.not_true,Bool.not_false]at k1 k2;clear w1;go_enter Tryz.func122,Tryz.ntmps122;go_wp2;go_ret;exact⟨rfl,rfl⟩
theorem zzl{B:Nat}{w:World}(c:Int)(hb:0<=c/\c<=255)(hB:w.cell? ⟨B,0,none⟩=some (.func (Fn.func 85) #[] #[])):Calls Tryz.prog 100 #[.int .u8 c,.pointer (some ⟨B,0,none⟩)] w (kR (!kS c) w):=by
 cases hp:kS c
 all_goals
  have HC:=hh9 (fun W:World=>(show Calls Tryz.prog 85 #[.int .u8 c] W (kR (kS c) W) from ztu c hb.1 hb.2 _));rw[hp]at HC;clear hp;go_enter Tryz.func100,Tryz.ntmps100;go_wp2_with fail
  refine(HC.out _).mono ?_;rintro e w' ⟨rfl,rfl⟩;go_wp2_with fail
  go_ret;exact⟨rfl,rfl⟩
theorem ztw{B:Nat}{w:World}{x:List Int}{v:Value}(hx:∀ c∈x,0<=c/\c<=255)(hv:au w v x.length (xX x))(hB:w.cell? ⟨B,0,none⟩=some (.func (Fn.func 85) #[] #[])) :
  Calls Tryz.prog 120 #[v,.func (Fn.func 100) #[] #[.pointer (some ⟨B,0,none⟩)]] w fun e w'=>∃ i:Int,e=.returned (.int .i64 i)/\w=w'/\-1<=i/\decide (0<=i)=!x.all kS:=by
 have HX:=hh9 hx;clear hx;have HB:=hh9 hB;obtain⟨n,hn⟩:∃ n,n=x.length:=⟨_,rfl⟩
 rw[<- hn]at hv;have HN:=hh9 hn;rcases hv with ⟨h0,a,cap,rfl⟩|⟨g,off,cap,rfl,h1,h2,h3,h4⟩
 ·have hx0:x=[]:=List.length_eq_zero_iff.1 (by omega);subst hx0;clear hn h0 hB;go_enter Tryz.func120,Tryz.ntmps120;go_wp2_with fail
  go_loop [8] (fun v=>v=.int .i64 0) (fun v=>0)
  case atStart=>rfl
  case round =>
   subst hrel;go_wp2_with fail
   go_ret;exact⟨-1,rfl,rfl,by omega,by decide⟩
 ·have H4:=hh9 h4;unfold maxLen at h2;clear hn h4 hB;go_enter Tryz.func120,Tryz.ntmps120;go_wp2_with fail
  go_loop [8] (fun v=>∃ i:Nat,v=.int .i64 i/\i<=n/\∀ (j:Nat) (c:Int),j<i->x[j]?=some c->kS c=true) (fun v=>n-(intOf v).toNat)
  case atStart=>exact⟨0,rfl,by omega,fun j c h=>by omega⟩
  case round =>
   obtain⟨i,rfl,hi,hall⟩:=hrel;have aF:=hh9 hall;clear hall;by_cases hlt:i<n
   ·obtain⟨Z,hZ⟩:∃ z,x[i]?=some z:=⟨_,zbC (by rw[<- HN.out];exact hlt)⟩
    have mY:=hh9 hZ;have c0:=H4.out i _ (Wz hZ);clear hZ;go_wp2_with fail
    refine(zzl Z (HX.out Z (zbI mY.out)) HB.out).mono ?_
    cases hf:kS Z
    ·have kJ:=hh9 (G9 mY.out hf);clear hf;rintro e w' ⟨rfl,rfl⟩;go_wp2_with fail
     go_ret;exact⟨(i:Int),rfl,rfl,by omega,by rw[kJ.out];simp⟩
    ·have bT:Hid (∀ (j:Nat) (c:Int),j<i+1->x[j]?=some c->kS c=true):=fun j c hj hc=>by
      by_cases g:j=i
      ·subst g;rw[mY.out]at hc;rw[<- zbB hc];exact hf
      ·exact aF.out j c (by omega) hc
     clear hf;rintro e w' ⟨rfl,rfl⟩;go_wp2_with fail
     go_round
     case rel=>exact⟨i+1,by go_num,by omega,bT.out⟩
     case measure=>simp[intOf];omega
   ·have hyes:x.all kS=true:=G8 (n:=n) (by rw[HN.out];exact zbA _) (fun j c h hc=>aF.out j c (by omega) hc);have jy:=hh9 hyes;clear hyes;go_wp2_with fail
    go_ret;exact⟨-1,rfl,rfl,by omega,by rw[jy.out];decide⟩
theorem zvx{B:Nat}{w:World}{x:List Int}{v:Value}(hx:∀ c∈x,0<=c/\c<=255)(hv:au w v x.length (xX x))(hB:w.cell? ⟨B,0,none⟩=some (.func (Fn.func 85) #[] #[])) :
  Calls Tryz.prog 99 #[v,.func (Fn.func 100) #[] #[.pointer (some ⟨B,0,none⟩)]] w (kR (!x.all kS) w):=by
 have HI:=hh9 (ztw hx hv hB);clear hv hB;go_enter Tryz.func99,Tryz.ntmps99;go_wp2_with fail
 refine HI.out.mono ?_;rintro e w' ⟨i,rfl,rfl,hi,hd⟩;have HD:=hh9 hd;clear hd;go_wp2_with fail
 go_ret;exact⟨by rw[<- HD.out];exact rfl,rfl⟩
theorem zzm{w:World}{x:List Int}{v:Value}(hx:∀ c∈x,0<=c/\c<=255)(hv:au w v x.length (xX x)) :
  Calls Tryz.prog 84 #[v,.func (Fn.func 85) #[] #[]] w (gG (x.all kS) w):=by
 have HS:=hh9 (fun o:Obj=>zvx (w:=w.alloc o) (B:=w.heap.size) hx (hv.below ((zbE _ _).alloc (zbA _) _)));clear hv
 cases hp:x.all kS
 all_goals
  rw[hp]at HS;clear hp;go_enter Tryz.func84,Tryz.ntmps84;go_wp2_with fail
  refine(HS.out _ (by unfold World.cell?;rw[zbO];rfl)).mono ?_;rintro e w' ⟨rfl,rfl⟩;go_wp2_with fail
  go_ret;exact⟨rfl,(zbE _ _).alloc (zbA _) _⟩
theorem zzn{B:Nat}{w:World}(c:Int)(hb:0<=c/\c<=255)(hB:w.cell? ⟨B,0,none⟩=some (.func (Fn.func 122) #[] #[])):Calls Tryz.prog 100 #[.int .u8 c,.pointer (some ⟨B,0,none⟩)] w (kR (!kZ c) w):=by
 cases hp:kZ c
 all_goals
  have HC:=hh9 (fun W:World=>(show Calls Tryz.prog 122 #[.int .u8 c] W (kR (kZ c) W) from ztv c hb.1 hb.2 _));rw[hp]at HC;clear hp;go_enter Tryz.func100,Tryz.ntmps100;go_wp2_with fail
  refine(HC.out _).mono ?_;rintro e w' ⟨rfl,rfl⟩;go_wp2_with fail
  go_ret;exact⟨rfl,rfl⟩
theorem zty{B:Nat}{w:World}{x:List Int}{v:Value}(hx:∀ c∈x,0<=c/\c<=255)(hv:au w v x.length (xX x))(hB:w.cell? ⟨B,0,none⟩=some (.func (Fn.func 122) #[] #[])) :
  Calls Tryz.prog 120 #[v,.func (Fn.func 100) #[] #[.pointer (some ⟨B,0,none⟩)]] w fun e w'=>∃ i:Int,e=.returned (.int .i64 i)/\w=w'/\-1<=i/\decide (0<=i)=!x.all kZ:=by
 have HX:=hh9 hx;clear hx;have HB:=hh9 hB;obtain⟨n,hn⟩:∃ n,n=x.length:=⟨_,rfl⟩
 rw[<- hn]at hv;have HN:=hh9 hn;rcases hv with ⟨h0,a,cap,rfl⟩|⟨g,off,cap,rfl,h1,h2,h3,h4⟩
 ·have hx0:x=[]:=List.length_eq_zero_iff.1 (by omega);subst hx0;clear hn h0 hB;go_enter Tryz.func120,Tryz.ntmps120;go_wp2_with fail
  go_loop [8] (fun v=>v=.int .i64 0) (fun v=>0)
  case atStart=>rfl
  case round =>
   subst hrel;go_wp2_with fail
   go_ret;exact⟨-1,rfl,rfl,by omega,by decide⟩
 ·have H4:=hh9 h4;unfold maxLen at h2;clear hn h4 hB;go_enter Tryz.func120,Tryz.ntmps120;go_wp2_with fail
  go_loop [8] (fun v=>∃ i:Nat,v=.int .i64 i/\i<=n/\∀ (j:Nat) (c:Int),j<i->x[j]?=some c->kZ c=true) (fun v=>n-(intOf v).toNat)
  case atStart=>exact⟨0,rfl,by omega,fun j c h=>by omega⟩
  case round =>
   obtain⟨i,rfl,hi,hall⟩:=hrel;have aF:=hh9 hall;clear hall;by_cases hlt:i<n
   ·obtain⟨Z,hZ⟩:∃ z,x[i]?=some z:=⟨_,zbC (by rw[<- HN.out];exact hlt)⟩
    have mY:=hh9 hZ;have c0:=H4.out i _ (Wz hZ);clear hZ;go_wp2_with fail
    refine(zzn Z (HX.out Z (zbI mY.out)) HB.out).mono ?_
    cases hf:kZ Z
    ·have kJ:=hh9 (G9 mY.out hf);clear hf;rintro e w' ⟨rfl,rfl⟩;go_wp2_with fail
     go_ret;exact⟨(i:Int),rfl,rfl,by omega,by rw[kJ.out];simp⟩
    ·have bT:Hid (∀ (j:Nat) (c:Int),j<i+1->x[j]?=some c->kZ c=true):=fun j c hj hc=>by
      by_cases g:j=i
      ·subst g;rw[mY.out]at hc;rw[<- zbB hc];exact hf
      ·exact aF.out j c (by omega) hc
     clear hf;rintro e w' ⟨rfl,rfl⟩;go_wp2_with fail
     go_round
     case rel=>exact⟨i+1,by go_num,by omega,bT.out⟩
     case measure=>simp[intOf];omega
   ·have hyes:x.all kZ=true:=G8 (n:=n) (by rw[HN.out];exact zbA _) (fun j c h hc=>aF.out j c (by omega) hc);have jy:=hh9 hyes;clear hyes;go_wp2_with fail
    go_ret;exact⟨-1,rfl,rfl,by omega,by rw[jy.out];decide⟩
theorem zvy{B:Nat}{w:World}{x:List Int}{v:Value}(hx:∀ c∈x,0<=c/\c<=255)(hv:au w v x.length (xX x))(hB:w.cell? ⟨B,0,none⟩=some (.func (Fn.func 122) #[] #[])) :
  Calls Tryz.prog 99 #[v,.func (Fn.func 100) #[] #[.pointer (some ⟨B,0,none⟩)]] w (kR (!x.all kZ) w):=by
 have HI:=hh9 (zty hx hv hB);clear hv hB;go_enter Tryz.func99,Tryz.ntmps99;go_wp2_with fail
 refine HI.out.mono ?_;rintro e w' ⟨i,rfl,rfl,hi,hd⟩;have HD:=hh9 hd;clear hd;go_wp2_with fail
 go_ret;exact⟨by rw[<- HD.out];exact rfl,rfl⟩
theorem zzo{w:World}{x:List Int}{v:Value}(hx:∀ c∈x,0<=c/\c<=255)(hv:au w v x.length (xX x)) :
  Calls Tryz.prog 84 #[v,.func (Fn.func 122) #[] #[]] w (gG (x.all kZ) w):=by
 have HS:=hh9 (fun o:Obj=>zvy (w:=w.alloc o) (B:=w.heap.size) hx (hv.below ((zbE _ _).alloc (zbA _) _)));clear hv
 cases hp:x.all kZ
 all_goals
  rw[hp]at HS;clear hp;go_enter Tryz.func84,Tryz.ntmps84;go_wp2_with fail
  refine(HS.out _ (by unfold World.cell?;rw[zbO];rfl)).mono ?_;rintro e w' ⟨rfl,rfl⟩;go_wp2_with fail
  go_ret;exact⟨rfl,(zbE _ _).alloc (zbA _) _⟩
theorem zzp{B:Nat}{w:World}(c:Int)(hB:w.cell? ⟨B,0,none⟩=some (.func (Fn.func 124) #[] #[])):Calls Tryz.prog 146 #[.int .i64 c,.pointer (some ⟨B,0,none⟩)] w (kR (!bK c) w):=by
 cases hp:bK c
 all_goals
  have HC:=hh9 (fun W:World=>(show Calls Tryz.prog 124 #[.int .i64 c] W (kR (bK c) W) from zzk c _));rw[hp]at HC;clear hp;go_enter Tryz.func146,Tryz.ntmps146;go_wp2_with fail
  refine(HC.out _).mono ?_;rintro e w' ⟨rfl,rfl⟩;go_wp2_with fail
  go_ret;exact⟨rfl,rfl⟩
theorem ztz{B:Nat}{w:World}{x:List Int}{v:Value}(hv:au w v x.length (dA x))(hB:w.cell? ⟨B,0,none⟩=some (.func (Fn.func 124) #[] #[])) :
  Calls Tryz.prog 164 #[v,.func (Fn.func 146) #[] #[.pointer (some ⟨B,0,none⟩)]] w fun e w'=>∃ i:Int,e=.returned (.int .i64 i)/\w=w'/\-1<=i/\decide (0<=i)=!x.all bK:=by
 have HB:=hh9 hB;obtain⟨n,hn⟩:∃ n,n=x.length:=⟨_,rfl⟩
 rw[<- hn]at hv;have HN:=hh9 hn;rcases hv with ⟨h0,a,cap,rfl⟩|⟨g,off,cap,rfl,h1,h2,h3,h4⟩
 ·have hx0:x=[]:=List.length_eq_zero_iff.1 (by omega);subst hx0;clear hn h0 hB;go_enter Tryz.func164,Tryz.ntmps164;go_wp2_with fail
  go_loop [8] (fun v=>v=.int .i64 0) (fun v=>0)
  case atStart=>rfl
  case round =>
   subst hrel;go_wp2_with fail
   go_ret;exact⟨-1,rfl,rfl,by omega,by decide⟩
 ·have H4:=hh9 h4;unfold maxLen at h2;clear hn h4 hB;go_enter Tryz.func164,Tryz.ntmps164;go_wp2_with fail
  go_loop [8] (fun v=>∃ i:Nat,v=.int .i64 i/\i<=n/\∀ (j:Nat) (c:Int),j<i->x[j]?=some c->bK c=true) (fun v=>n-(intOf v).toNat)
  case atStart=>exact⟨0,rfl,by omega,fun j c h=>by omega⟩
  case round =>
   obtain⟨i,rfl,hi,hall⟩:=hrel;have aF:=hh9 hall;clear hall;by_cases hlt:i<n
   ·obtain⟨Z,hZ⟩:∃ z,x[i]?=some z:=⟨_,zbC (by rw[<- HN.out];exact hlt)⟩
    have mY:=hh9 hZ;have c0:=H4.out i _ (He hZ);clear hZ;go_wp2_with fail
    refine(zzp Z HB.out).mono ?_
    cases hf:bK Z
    ·have kJ:=hh9 (G9 mY.out hf);clear hf;rintro e w' ⟨rfl,rfl⟩;go_wp2_with fail
     go_ret;exact⟨(i:Int),rfl,rfl,by omega,by rw[kJ.out];simp⟩
    ·have bT:Hid (∀ (j:Nat) (c:Int),j<i+1->x[j]?=some c->bK c=true):=fun j c hj hc=>by
      by_cases g:j=i
      ·subst g;rw[mY.out]at hc;rw[<- zbB hc];exact hf
      ·exact aF.out j c (by omega) hc
     clear hf;rintro e w' ⟨rfl,rfl⟩;go_wp2_with fail
     go_round
     case rel=>exact⟨i+1,by go_num,by omega,bT.out⟩
     case measure=>simp[intOf];omega
   ·have hyes:x.all bK=true:=G8 (n:=n) (by rw[HN.out];exact zbA _) (fun j c h hc=>aF.out j c (by omega) hc);have jy:=hh9 hyes;clear hyes;go_wp2_with fail
    go_ret;exact⟨-1,rfl,rfl,by omega,by rw[jy.out];decide⟩
theorem zvz{B:Nat}{w:World}{x:List Int}{v:Value}(hv:au w v x.length (dA x))(hB:w.cell? ⟨B,0,none⟩=some (.func (Fn.func 124) #[] #[])) :
  Calls Tryz.prog 145 #[v,.func (Fn.func 146) #[] #[.pointer (some ⟨B,0,none⟩)]] w (kR (!x.all bK) w):=by
 have HI:=hh9 (ztz hv hB);clear hv hB;go_enter Tryz.func145,Tryz.ntmps145;go_wp2_with fail
 refine HI.out.mono ?_;rintro e w' ⟨i,rfl,rfl,hi,hd⟩;have HD:=hh9 hd;clear hd;go_wp2_with fail
 go_ret;exact⟨by rw[<- HD.out];exact rfl,rfl⟩
theorem WA{w:World}{x:List Int}{v:Value}(hv:au w v x.length (dA x)) :
  Calls Tryz.prog 123 #[v,.func (Fn.func 124) #[] #[]] w (gG (x.all bK) w):=by
 have HS:=hh9 (fun o:Obj=>zvz (w:=w.alloc o) (B:=w.heap.size) (hv.below ((zbE _ _).alloc (zbA _) _)));clear hv
 cases hp:x.all bK
 all_goals
  rw[hp]at HS;clear hp;go_enter Tryz.func123,Tryz.ntmps123;go_wp2_with fail
  refine(HS.out _ (by unfold World.cell?;rw[zbO];rfl)).mono ?_;rintro e w' ⟨rfl,rfl⟩;go_wp2_with fail
  go_ret;exact⟨rfl,(zbE _ _).alloc (zbA _) _⟩
theorem WB(W:World)(S:ByteArray)(hs:S.size<=maxLen):∃ cap,S.size<=cap/\cap<=maxLen /\
  (convert 9 22 (.string S)).run Tryz.prog W=.ok (.slice (some ⟨W.heap.size,0,none⟩) S.size cap) (W.drew.alloc (.cells (bytesRow S cap) 5 ((bytesRow S cap).size,(bytesRow S cap).size+1))) :=
 ⟨grownCap W S.size 0 5,grownCap_ge _ _ _ _,grownCap_le_maxLen _ _ _ _ hs,run_bytes_of_string W 9 22 5 S Tryz.underlying9 Tryz.underlying22 Tryz.underlying5⟩
theorem WC{x:List Int}(hx:∀ c∈x,0<=c/\c<=255)(W:World)(cap:Nat)(hc:x.length<=cap)(hm:cap<=maxLen) :
  au (W.drew.alloc (.cells (bytesRow (ak x) cap) 5 ((bytesRow (ak x) cap).size,(bytesRow (ak x) cap).size+1))) (.slice (some ⟨W.heap.size,0,none⟩) x.length cap) x.length (xX x):=by
 refine .inr ⟨W.heap.size,0,cap,rfl,hc,hm,by simp,fun j u hj=>?_⟩
 have hjl:j<x.length:=by
  have:=(zbF.1 hj).1;simpa[xX]using this
 have hjs:j<(ak x).size:=by rw[eP];exact hjl
 have hg:=NA hx j hjs;have hb:=bytesRow_at (ak x) cap j hjs
 have hu:u=.int .u8 (((ak x)[j].toNat:Nat):Int):=by
  unfold xX at hj;rw[List.getElem?_map,hg]at hj;exact(zbB hj).symm
 have hblk:(W.drew.alloc (.cells (bytesRow (ak x) cap) 5 ((bytesRow (ak x) cap).size,(bytesRow (ak x) cap).size+1))).heap[W.heap.size]?=some (.cells (bytesRow (ak x) cap) 5 ((bytesRow (ak x) cap).size,(bytesRow (ak x) cap).size+1)):=by
  show (W.heap.push _)[W.heap.size]?=_
  simp
 rw[hu];simp only[World.cell?,hblk,Nat.zero_add];exact hb
theorem WE{x:List Int}(w:World)(hx:∀ c∈x,0<=c/\c<=255)(hl:x.length<=9223372036854775807):Calls Tryz.prog 66 #[.string (ak x)] w (gG (mF x) w):=by
 cases x with
 |nil =>
  rw[GQ];go_enter Tryz.func66,Tryz.ntmps66;go_wp2_with fail
  go_ret;exact⟨rfl,zbE _ _⟩
 |cons a l =>
  obtain⟨x,wI⟩:∃ x,x=a::l:=⟨_,rfl⟩
  have hname:mF (a::l)=(decide (x.length<=40)&&uw a&&x.all kS):=by rw[wI];rfl
  rw[hname];rw[<- wI]at hx hl ⊢;have ha:=hx a (by rw[wI];simp);have h0:x[0]?=some a:=by rw[wI];rfl
  have hpos:0<x.length:=by rw[wI];simp
  clear hname wI;have hsz:=eP x;obtain⟨cap,hc1,hc2,kc⟩:=WB w (ak x) (by rw[eP];unfold maxLen;omega);have hrow:=WC hx w cap (by rw[<- eP];exact hc1) hc2;have hget:=NA hx;rw[eP]at kc;obtain⟨S,hS⟩:∃ S,S=ak x:=⟨_,rfl⟩
  rw[<- hS]at hsz hget hrow kc ⊢;have cO:=hh9 (zzm hx hrow);obtain⟨n,hn⟩:∃ n,n=x.length:=⟨_,rfl⟩
  rw[<- hn]at hsz hl hpos kc cO ⊢;have hlist:S.toList.isEmpty=false:=Qu (by omega);have kE:=hh9 hsz;have hsm:S.size<=9223372036854775807:=by omega
  have yG:0<S.size:=by omega
  have oF:((S[0].toNat:Nat):Int)=a:=by
   have:=hget 0 yG;rw[h0]at this;exact(zbB this).symm
  have oG:=hh9 oF;have HB:Hid (Below w.heap.size w (w.drew.alloc (.cells (bytesRow S cap) 5 ((bytesRow S cap).size,(bytesRow S cap).size+1)))):=(dJ (zbE w.heap.size w) 1).alloc (zbA _) _;clear hx hS hn hget h0 oF hrow hc1 hc2;by_cases kT:n<=40
  ·have q1:decide (n<=40)=true:=zbN kT;rw[q1];have EG:S.size<=40:=by have:=kE.out;omega
   have oH:=hh9 (fun W=>Wy a ha.1 ha.2 W)
   cases uE:uw a
   ·rw[uE]at oH;clear q1 uE;go_enter Tryz.func66,Tryz.ntmps66;go_wp2_with fail
    rw[oG.out];refine(oH.out _).mono ?_;rintro e w' ⟨rfl,rfl⟩;go_wp2_with fail
    go_ret;exact⟨rfl,zbE _ _⟩
   ·rw[uE]at oH;clear q1 uE;go_enter Tryz.func66,Tryz.ntmps66;go_wp2_with fail
    rw[oG.out];refine(oH.out _).mono ?_;rintro e w' ⟨rfl,rfl⟩;go_wp2_with fail
    refine cO.out.mono ?_;rintro e w' ⟨rfl,hb⟩;have HB2:=hh9 (aJ HB.out hb);clear hb;go_wp2_with fail
    go_ret;exact⟨by simp,HB2.out⟩
  ·have q1:decide (n<=40)=false:=zbM kT;rw[q1];have EG:¬ S.size<=40:=by have:=kE.out;omega
   clear q1;go_enter Tryz.func66,Tryz.ntmps66;go_wp2_with fail
   go_ret;exact⟨rfl,zbE _ _⟩
end Go.Proofs.YtahibnnhjahmnaaGreatDoor
