/- Part 0 of what the laws of the grammar rest on. -/
import Derived.WalkKit
import Derived.Handy
import Derived.WalkLawsBesides
import Derived.Outline
import Derived.LoopN
import Derived.RegionTactic
import Derived.BigRegion
import Derived.Lib.Hide
import Derived.Test.YtahibnnhjahmnaaGreatDoorRows
import Derived.Maps.AppendAt
import Derived.BigQuiet
import Derived.Deep.QuietTactic
import Derived.Great.BuildSlice
import Derived.KernelRfl
import Derived.Laws.Tables
import Derived.Laws.NewBlocks
import Derived.Laws.CopyOwn
set_option linter.all false
set_option maxRecDepth 100000
set_option maxHeartbeats 8000000
namespace Go.Proofs.YtahibnnhjahmnaaGreatDoor
theorem hh9 {p : Prop} (h : p) : RowKit.Hid p := h
open Go.RowKit
theorem zbA (n:Nat):n<=n:=Nat.le_refl n
theorem zbB {A:Type _}{a b:A}(h:some a=some b):a=b:=Option.some.inj h
theorem zbC {A:Type _}{l:List A}{i:Nat}(h:i<l.length):l[i]?=some l[i]:=List.getElem?_eq_getElem h
theorem zbD {A:Type _}{i:Nat}{b:A}{l:Array A}:l[i]?=some b<->∃ h:i<l.size,l[i]=b:=Array.getElem?_eq_some_iff
theorem zbE (n:Nat)(w:World):Below n w w:=Below.refl n w
theorem zbF {A:Type _}{i:Nat}{a:A}{l:List A}:l[i]?=some a<->∃ h:i<l.length,l[i]=a:=List.getElem?_eq_some_iff
theorem zbG {A:Type _}{a b:List A}:(a++b).length=a.length+b.length:=List.length_append
theorem zbH {n m k:Nat}(h:n<=m)(q:m<=k):n<=k:=Nat.le_trans h q
theorem zbI {A:Type _}{l:List A}{i:Nat}{a:A}(h:l[i]?=some a):a∈l:=List.mem_of_getElem? h
theorem zbJ (a b:Bool):((a&&b)=true)=(a=true/\b=true):=Bool.and_eq_true a b
theorem zbK {A:Type _}{a b:List A}{i:Nat}(h:i<a.length):(a++b)[i]?=a[i]?:=List.getElem?_append_left h
theorem zbL {A:Type _}{a b:List A}{i:Nat}(h:a.length<=i):(a++b)[i]?=b[i-a.length]?:=List.getElem?_append_right h
theorem zbM {p:Prop}[Decidable p](h:Not p):decide p=false:=decide_eq_false h
theorem zbN {p:Prop}[Decidable p](h:p):decide p=true:=decide_eq_true h
theorem zbO (w:World)(o:Obj):(w.alloc o).heap[w.heap.size]?=some o:=heap_alloc_new w o
theorem zbP (w:World)(o:Obj)(k:Nat)(h:k<w.heap.size):(w.alloc o).heap[k]?=w.heap[k]?:=Below.heap_alloc w o k h
theorem zbQ (w:World)(a:Addr)(u:Value)(k:Nat)(h:k≠a.block):(w.setCell a u).heap[k]?=w.heap[k]?:=Below.heap_setCell w a u k h
end Go.Proofs.YtahibnnhjahmnaaGreatDoor
namespace Go.Proofs.YtahibnnhjahmnaaGreatDoor
open Go.RowKit
def gG(b:Bool)(w:World)(e:Ending)(w':World):Prop:=e=.returned (.bool b)/\Below w.heap.size w w'
def Jh(n:Int)(w:World)(e:Ending)(w':World):Prop:=e=.returned (.int .i64 n)/\Below w.heap.size w w'
theorem aJ{w W W':World}(h:Below w.heap.size w W)(hb:Below W.heap.size W W'):Below w.heap.size w W':=h.trans (hb.mono h.size)
theorem Qc{w W:World}(h:Below w.heap.size w W)(o:Obj):Below w.heap.size w (W.alloc o):=h.alloc h.size o
theorem eZ{W:World}{base size n g cap:Nat}{e:TypeId}{xs:List Value}(h:W.ownsRow base e size (.slice (some ⟨g,0,none⟩) n cap) n xs){j:Nat}{u:Value}(hj:xs[j]?=some u):W.cell? ⟨g,j,none⟩=some u:=by
 obtain⟨hl,h2⟩:=h;rcases h2 with ⟨h2,_⟩|⟨g',cap',cur,hv,_,hh,_,_,hsz,ht⟩
 ·cases h2
 ·obtain rfl:g=g':=by simp at hv;omega
  have hjl:j<xs.length:=(zbF.1 hj).1;rw[<- ht,List.getElem?_take_of_lt (by omega)]at hj;simp only[World.cell?,hh];simpa using hj
theorem ztp{W:World}{base size n g cap:Nat}{e:TypeId}{xs:List Value}(h:W.ownsRow base e size (.slice (some ⟨g,0,none⟩) n cap) n xs)(j:Nat):W.frozen? ⟨g,j,none⟩=false:=by
 obtain⟨hl,h2⟩:=h;rcases h2 with ⟨h2,_⟩|⟨g',cap',cur,hv,_,hh,_,_,hsz,ht⟩
 ·cases h2
 ·obtain rfl:g=g':=by simp at hv;omega
  simp[World.frozen?,hh]
theorem iX{W:World}{base size n g cap:Nat}{e:TypeId}{xs:List Value}(h:W.ownsRow base e size (.slice (some ⟨g,0,none⟩) n cap) n xs):base<=g/\n<=cap/\cap<=maxLen/\g<W.heap.size:=by
 obtain⟨hl,h2⟩:=h;rcases h2 with ⟨h2,_⟩|⟨g',cap',cur,hv,hb,hh,hc,hm,hsz,ht⟩
 ·cases h2
 ·obtain⟨rfl,rfl⟩:g=g'/\cap=cap':=by simp at hv;omega
  exact⟨hb,hc,hm,(zbD.1 hh).1⟩
theorem fB{W:World}{base size n:Nat}{e:TypeId}{v:Value}{xs:List Value}(h:W.ownsRow base e size v n xs):(v=.slice none 0 0/\n=0)\/∃ g cap,v=.slice (some ⟨g,0,none⟩) n cap:=by
 rcases h.2 with h0|⟨g,cap,_,hv,_⟩
 ·exact .inl h0
 ·exact .inr ⟨g,cap,hv⟩
theorem zzf{W:World}{base base' size n:Nat}{e:TypeId}{v:Value}{xs:List Value}(h:W.ownsRow base e size v n xs)(hb:base'<=base):W.ownsRow base' e size v n xs:=by
 refine⟨h.1,?_⟩;rcases h.2 with h0|⟨g,cap,cur,hv,hg,r⟩
 ·exact .inl h0
 ·exact .inr ⟨g,cap,cur,hv,zbH hb hg,r⟩
theorem zvm{W W':World}{base size n:Nat}{e:TypeId}{v:Value}{xs:List Value}(h:W.ownsRow base e size v n xs)(hb:Below W.heap.size W W'):W'.ownsRow base e size v n xs:=by
 refine⟨h.1,?_⟩;rcases h.2 with h0|⟨g,cap,cur,hv,hg,hh,r⟩
 ·exact .inl h0
 ·exact .inr ⟨g,cap,cur,hv,hg,(hb.block g (zbD.1 hh).1).trans hh,r⟩
theorem bq{W:World}{base size n g:Nat}{e:TypeId}{cs:Array Value}(hg:base<=g)(hh:W.heap[g]?=some (.cells cs e (0,0)))(hm:n<=maxLen)(hs:cs.size=n*size) :
  W.ownsRow base e size (.slice (some ⟨g,0,none⟩) n n) n cs.toList :=
 ⟨by simpa using hs,.inr ⟨g,n,cs,rfl,hg,hh,zbA _,hm,hs,List.take_of_length_le (by simp[hs])⟩⟩
theorem V8(x:UInt8):wrap64 (x.toNat:Int)=x.toNat:=by
 have:=x.toNat_lt;exact IntWalk.wrap64_in _ ⟨by omega,by omega⟩
def dA(xs:List Int):List Value:=xs.map (Value.int .i64)
theorem Nn(xs:List Int)(i:Nat)(h:i<xs.length):(dA xs)[i]?=some (.int .i64 xs[i]):=by simp[dA,h]
def Ji(W:World)(v:Value)(xs:List Int):Prop :=
 (xs=[]/\∃ a cap,v=.slice a 0 cap)\/∃ g cap,v=.slice (some ⟨g,0,none⟩) xs.length cap/\xs.length<=cap/\g<W.heap.size/\∀ (i:Nat) (h:i<xs.length),W.cell? ⟨g,i,none⟩=some (.int .i64 xs[i])
theorem Ji.below{W W':World}{v:Value}{xs:List Int}(h:Ji W v xs)(hb:Below W.heap.size W W'):Ji W' v xs:=by
 rcases h with h|⟨g,cap,hv,hc,hg,h⟩
 ·exact .inl h
 ·exact .inr ⟨g,cap,hv,hc,Nat.lt_of_lt_of_le hg hb.size,fun i hi=>(hb.cell (p:=⟨g,i,none⟩) hg).trans (h i hi)⟩
theorem Ji.mQ{W:World}{base:Nat}{t:TypeId}{v:Value}{xs:List Int}(h:W.ownsRow base t 1 v xs.length (dA xs)):Ji W v xs:=by
 rcases fB h with ⟨rfl,h0⟩|⟨g,cap,rfl⟩
 ·exact .inl ⟨List.length_eq_zero_iff.1 h0,_,_,rfl⟩
 ·obtain⟨_,hc,_,hg⟩:=iX h;exact .inr ⟨g,cap,rfl,hc,hg,fun i hi=>eZ h (Nn xs i hi)⟩
theorem dJ{B:Nat}{a W:World}(h:Below B a W)(n:Nat):Below B a (W.drewN n):=⟨h.os,h.tape,h.output,h.size,h.block⟩
theorem V9{W:World}{base size n:Nat}{e:TypeId}{v:Value}{xs:List Value}(h:W.ownsRow base e size v n xs)(k:Nat):(W.drewN k).ownsRow base e size v n xs:=h
end Go.Proofs.YtahibnnhjahmnaaGreatDoor
namespace Go.Proofs.YtahibnnhjahmnaaGreatDoor
def aZ(c:Int):Bool:=c==32||c==9
def aH(c:Int):Bool:=(decide (97<=c)&&decide (c<=122))||(decide (65<=c)&&decide (c<=90))
def aS(c:Int):Bool:=decide (48<=c)&&decide (c<=57)
def dM(c:Int):Bool:=aH c||aS c||c==45
def gT(c:Int):Bool:=decide (32<=c)&&decide (c<=126)&&!(c==34)
def mR(c:Int):Bool:=aZ c||(decide (33<=c)&&decide (c<=126))
def dB(c:Int):Bool:=aH c||aS c||c==34||c==37||c==40||c==42||c==91
def iN(c:Int):Int:=if 48<=c/\c<=57 then c-48 else if 97<=c/\c<=102 then c-87 else if 65<=c/\c<=70 then c-55 else 16
def bC(b c:Int):Bool:=decide (iN c<b)
def low(c:Int):Int:=if 65<=c/\c<=90 then c+32 else c
structure eG (P:Int->Bool) (f:Nat->Int) (p q:Nat):Prop where
 le:p<=q
 all:∀ i,p<=i->i<q->P (f i)=true
 stop:P (f q)=false
theorem eG.one{P:Int->Bool}{f:Nat->Int}{p q q':Nat}(h:eG P f p q)(h':eG P f p q'):q=q':=by
 rcases Nat.lt_trichotomy q q' with g|g|g
 ·have:=h'.all q h.le g;rw[h.stop]at this
  cases this
 ·exact g
 ·have:=h.all q' h'.le g;rw[h'.stop]at this
  cases this
open Classical in
noncomputable def jC (P:Int->Bool) (f:Nat->Int) (p:Nat):Nat:=if h:∃ q,eG P f p q then h.choose else p
theorem eG.eq{P:Int->Bool}{f:Nat->Int}{p q:Nat}(h:eG P f p q):jC P f p=q:=by
 have h2:∃ q,eG P f p q:=⟨q,h⟩
 unfold jC;rw[dif_pos h2];exact h2.choose_spec.one h
noncomputable def ji (f:Nat->Int) (p:Nat):Nat:=if f p=59 then jC mR f (p+1) else p
noncomputable def eH (f:Nat->Int) (p:Nat):Option Nat :=
 if f (ji f p)<0 then some (ji f p) else if f (ji f p)=10 then some (ji f p+1) else if f (ji f p)=13/\f (ji f p+1)=10 then some (ji f p+2) else none
inductive Skip (f:Nat->Int):Nat->Nat->Prop
 |blank {p q:Nat}:aZ (f p)=true->Skip f (p+1) q->Skip f p q
 |line {p e q:Nat}:aZ (f p)=false->eH f p=some e->aZ (f e)=true->Skip f (e+1) q->Skip f p q
 |here {p:Nat}:aZ (f p)=false->(∀ e,eH f p=some e->aZ (f e)=false)->Skip f p p
theorem Skip.one{f:Nat->Int}{p q q':Nat}(h:Skip f p q)(h':Skip f p q'):q=q':=by
 induction h with
 |blank hb _ ih =>
  cases h' with
  |blank _ k=>exact ih k
  |line k=>rw[hb]at k;cases k
  |here k=>rw[hb]at k;cases k
 |line hn hl hb _ ih =>
  cases h' with
  |blank k=>rw[hn]at k;cases k
  |line _ k2 _ k=>rw[hl]at k2;cases k2;exact ih k
  |here _ k=>have:=k _ hl;rw[hb]at this;cases this
 |here hn hl =>
  cases h' with
  |blank k=>rw[hn]at k;cases k
  |line _ k2 k3 _=>have:=hl _ k2;rw[k3]at this;cases this
  |here=>rfl
open Classical in
noncomputable def bN (f:Nat->Int) (p:Nat):Nat:=if h:∃ q,Skip f p q then h.choose else p
theorem Skip.eq{f:Nat->Int}{p q:Nat}(h:Skip f p q):bN f p=q:=by
 have h2:∃ q,Skip f p q:=⟨q,h⟩
 unfold bN;rw[dif_pos h2];exact h2.choose_spec.one h
def cut(f:Nat->Int)(p n:Nat):List Int:=(List.range n).map fun i=>f (p+i)
def val(b:Int)(f:Nat->Int)(p:Nat):Nat->Int
 |0=>0
 |n+1=>val b f p n*b+iN (f (p+n))
inductive Got (α:Type)
 |ok (x:α) (q:Nat)
 |err (c:Int)
noncomputable def fC (b lim:Int) (f:Nat->Int) (p:Nat):Got Int :=
 if jC (bC b) f p=p then .err 20 else if lim<val b f p (jC (bC b) f p-p) then .err 2 else .ok (val b f p (jC (bC b) f p-p)) (jC (bC b) f p)
noncomputable def lU (f:Nat->Int) (p:Nat):Got (List Int) :=
 if 40<jC dM f p-p then .err 2 else .ok ((cut f p (jC dM f p-p)).map low) (jC dM f p)
noncomputable def iY (f:Nat->Int) (p:Nat):Got (List Int) :=
 if f p=34 then if f (jC gT f (p+1))=34 then .ok (cut f (p+1) (jC gT f (p+1)-(p+1))) (jC gT f (p+1)+1) else .err 20 else .err 20
noncomputable def aN (f:Nat->Int) (p:Nat):Got (Int × Int × Bool) :=
 match (if aS (f p) then fC 10 200 f p else .ok (-1) p) with
 |.err c=>.err c
 |.ok lo q =>
  if f q=42 then
   match (if aS (f (q+1)) then fC 10 200 f (q+1) else .ok (-1) (q+1)) with
   |.err c=>.err c
   |.ok hi q'=>.ok (max lo 0,hi,true) q'
  else .ok (max lo 0,max lo 0,decide (0<=lo)) q
inductive Tree
 |mk (kind:Int) (text:List Int) (nums:List Int) (lo hi:Int) (kids:List Tree)
def Bh(x:List Int):Tree:=.mk 5 (x.map low) [] 0 0 []
def Ew(x:List Int):Tree:=.mk 4 x [] 0 0 []
def mU(x:List Int)(exact:Bool):Tree:=if exact=true/\x≠[] then .mk 6 [] x 0 0 [] else Bh x
def pU(lo hi:Int)(t:Tree):Tree:=.mk 3 [] [] lo hi [t]
def uj(kind:Int):List Tree->Tree
 |[t]=>t
 |l=>.mk kind [] [] 0 0 l
inductive Pct
 |text (exact:Bool)
 |base (b:Int)
 |none
def kP(c:Int):Pct :=
 if c=115\/c=83 then .text true else if c=105\/c=73 then .text false else if c=98\/c=66 then .base 2 else if c=100\/c=68 then .base 10 else if c=120\/c=88 then .base 16 else .none
inductive Ask
 |alts
 |gU (l:List Tree)
 |fV
 |fD (l:List Tree)
 |rep
 |elem
 |nums (b:Int)
 |dots (b:Int) (l:List Int)
inductive aK (f:Nat->Int):Ask->Nat->Nat->Got Tree->Prop
 |jS {d p q:Nat} {t:Tree} {r:Got Tree}:aK f .fV d p (.ok t q)->aK f (.gU [t]) d q r->aK f .alts d p r
 |ku {d p:Nat} {c:Int}:aK f .fV d p (.err c)->aK f .alts d p (.err c)
 |gV {d p:Nat} {l:List Tree}:f p≠47->aK f (.gU l) d p (.ok (uj 1 l) p)
 |jT {d p q:Nat} {l:List Tree} {t:Tree} {r:Got Tree}:f p=47->aK f .fV d (bN f (p+1)) (.ok t q)->aK f (.gU (l++[t])) d q r->aK f (.gU l) d p r
 |jk {d p:Nat} {l:List Tree} {c:Int}:f p=47->aK f .fV d (bN f (p+1)) (.err c)->aK f (.gU l) d p (.err c)
 |jU {d p q:Nat} {t:Tree} {r:Got Tree}:aK f .rep d p (.ok t q)->aK f (.fD [t]) d q r->aK f .fV d p r
 |kC {d p:Nat} {c:Int}:aK f .rep d p (.err c)->aK f .fV d p (.err c)
 |dS {d p:Nat} {l:List Tree}:¬ (p<bN f p/\dB (f (bN f p))=true)->aK f (.fD l) d p (.ok (uj 2 l) (bN f p))
 |iO {d p q:Nat} {l:List Tree} {t:Tree} {r:Got Tree}:p<bN f p/\dB (f (bN f p))=true->aK f .rep d (bN f p) (.ok t q)->aK f (.fD (l++[t])) d q r->aK f (.fD l) d p r
 |iy {d p:Nat} {l:List Tree} {c:Int}:p<bN f p/\dB (f (bN f p))=true->aK f .rep d (bN f p) (.err c)->aK f (.fD l) d p (.err c)
 |dU {d p:Nat} {c:Int}:aN f p=.err c->aK f .rep d p (.err c)
 |iA {d p q:Nat} {c:Int} {x:Int × Int × Bool}:aN f p=.ok x q->aK f .elem d q (.err c)->aK f .rep d p (.err c)
 |fE {d p q q':Nat} {lo hi:Int} {t:Tree}:aN f p=.ok (lo,hi,false) q->aK f .elem d q (.ok t q')->aK f .rep d p (.ok t q')
 |gW {d p q q':Nat} {lo hi:Int} {t:Tree}:aN f p=.ok (lo,hi,true) q->aK f .elem d q (.ok t q')->0<=hi/\hi<lo->aK f .rep d p (.err 20)
 |kQ {d p q q':Nat} {lo hi:Int} {t:Tree}:aN f p=.ok (lo,hi,true) q->aK f .elem d q (.ok t q')->¬ (0<=hi/\hi<lo)->aK f .rep d p (.ok (pU lo hi t) q')
 |mV {d p q:Nat} {x:List Int}:aH (f p)=true->lU f p=.ok x q->aK f .elem d p (.ok (Ew x) q)
 |l9 {d p:Nat} {c:Int}:aH (f p)=true->lU f p=.err c->aK f .elem d p (.err c)
 |deep {d p:Nat}:f p=40\/f p=91->d=50->aK f .elem d p (.err 2)
 |vO {d p:Nat} {c:Int}:f p=40\/f p=91->d<50->aK f .alts (d+1) (bN f (p+1)) (.err c)->aK f .elem d p (.err c)
 |qJ {d p q:Nat} {t:Tree}:f p=40\/f p=91->d<50->aK f .alts (d+1) (bN f (p+1)) (.ok t q)->f q≠(if f p=40 then 41 else 93)->aK f .elem d p (.err 20)
 |round {d p q:Nat} {t:Tree}:f p=40->d<50->aK f .alts (d+1) (bN f (p+1)) (.ok t q)->f q=41->aK f .elem d p (.ok t (q+1))
 |square {d p q:Nat} {t:Tree}:f p=91->d<50->aK f .alts (d+1) (bN f (p+1)) (.ok t q)->f q=93->aK f .elem d p (.ok (pU 0 1 t) (q+1))
 |mg {d p q:Nat} {x:List Int}:f p=34->iY f p=.ok x q->aK f .elem d p (.ok (Bh x) q)
 |mh {d p:Nat} {c:Int}:f p=34->iY f p=.err c->aK f .elem d p (.err c)
 |mq {d p q:Nat} {x:List Int} {exact:Bool}:f p=37->kP (f (p+1))=.text exact->iY f (p+2)=.ok x q->aK f .elem d p (.ok (mU x exact) q)
 |jl {d p:Nat} {c:Int} {exact:Bool}:f p=37->kP (f (p+1))=.text exact->iY f (p+2)=.err c->aK f .elem d p (.err c)
 |value {d p:Nat} {b:Int} {r:Got Tree}:f p=37->kP (f (p+1))=.base b->aK f (.nums b) d (p+2) r->aK f .elem d p r
 |kD {d p:Nat}:f p=37->kP (f (p+1))=.none->aK f .elem d p (.err 20)
 |no {d p:Nat}:aH (f p)=false->f p≠40->f p≠91->f p≠34->f p≠37->aK f .elem d p (.err 20)
 |gF {d p:Nat} {b c:Int}:fC b 1114111 f p=.err c->aK f (.nums b) d p (.err c)
 |gX {d p q:Nat} {b v c:Int}:fC b 1114111 f p=.ok v q->f q=45->fC b 1114111 f (q+1)=.err c->aK f (.nums b) d p (.err c)
 |fF {d p q q':Nat} {b v u:Int}:fC b 1114111 f p=.ok v q->f q=45->fC b 1114111 f (q+1)=.ok u q'->u<v->aK f (.nums b) d p (.err 20)
 |span {d p q q':Nat} {b v u:Int}:fC b 1114111 f p=.ok v q->f q=45->fC b 1114111 f (q+1)=.ok u q'->¬ u<v->aK f (.nums b) d p (.ok (.mk 7 [] [v,u] 0 0 []) q')
 |nums {d p q:Nat} {b v:Int} {r:Got Tree}:fC b 1114111 f p=.ok v q->f q≠45->aK f (.dots b [v]) d q r->aK f (.nums b) d p r
 |iP {d p:Nat} {b:Int} {l:List Int}:f p≠46->aK f (.dots b l) d p (.ok (.mk 6 [] l 0 0 []) p)
 |jm {d p:Nat} {b c:Int} {l:List Int}:f p=46->fC b 1114111 f (p+1)=.err c->aK f (.dots b l) d p (.err c)
 |jV {d p q:Nat} {b v:Int} {l:List Int} {r:Got Tree}:f p=46->fC b 1114111 f (p+1)=.ok v q->aK f (.dots b (l++[v])) d q r->aK f (.dots b l) d p r
structure Rule where
 name:List Int
 more:Bool
 expr:Tree
noncomputable def iB (f:Nat->Int) (q:Nat):Nat:=if f (bN f q+1)=47 then bN f q+2 else bN f q+1
inductive bU (f:Nat->Int):Nat->Got Rule->Prop
 |name {p:Nat} {c:Int}:lU f p=.err c->bU f p (.err c)
 |sj {p q:Nat} {x:List Int}:lU f p=.ok x q->f (bN f q)≠61->bU f p (.err 20)
 |err {p q:Nat} {x:List Int} {c:Int}:lU f p=.ok x q->f (bN f q)=61->aK f .alts 0 (bN f (iB f q)) (.err c)->bU f p (.err c)
 |mD {p q q':Nat} {x:List Int} {t:Tree}:lU f p=.ok x q->f (bN f q)=61->aK f .alts 0 (bN f (iB f q)) (.ok t q')->eH f q'=none->bU f p (.err 20)
 |ok {p q q' e:Nat} {x:List Int} {t:Tree}:lU f p=.ok x q->f (bN f q)=61->aK f .alts 0 (bN f (iB f q)) (.ok t q')->eH f q'=some e ->
   bU f p (.ok ⟨x,decide (f (bN f q+1)=47),t⟩ e)
inductive Rules (f:Nat->Int):List Rule->Nat->Got (List Rule)->Prop
 |done {l:List Rule} {p:Nat}:f p<0->Rules f l p (.ok l p)
 |empty {l:List Rule} {p e:Nat} {r:Got (List Rule)}:0<=f p->aH (f p)=false->eH f (jC aZ f p)=some e->Rules f l e r->Rules f l p r
 |bad {l:List Rule} {p:Nat}:0<=f p->aH (f p)=false->eH f (jC aZ f p)=none->Rules f l p (.err 20)
 |err {l:List Rule} {p:Nat} {c:Int}:aH (f p)=true->bU f p (.err c)->Rules f l p (.err c)
 |many {l:List Rule} {p q:Nat} {x:Rule}:aH (f p)=true->bU f p (.ok x q)->500<=l.length->Rules f l p (.err 2)
 |rule {l:List Rule} {p q:Nat} {x:Rule} {r:Got (List Rule)}:aH (f p)=true->bU f p (.ok x q)->l.length<500->Rules f (l++[x]) q r->Rules f l p r
end Go.Proofs.YtahibnnhjahmnaaGreatDoor
namespace Go.Proofs.YtahibnnhjahmnaaGreatDoor
open Go.RowKit
def kR(b:Bool)(w:World)(e:Ending)(w':World):Prop:=e=.returned (.bool b)/\w=w'
def Jj(n:Int)(w:World)(e:Ending)(w':World):Prop:=e=.returned (.int .i64 n)/\w=w'
def ig(c:Int):UInt8:=UInt8.ofNat c.toNat
def ak(x:List Int):ByteArray:=⟨(x.map ig).toArray⟩
theorem Ag(x:List Int):(ak x).data.toList=x.map ig:=by unfold ak;simp
theorem eP(x:List Int):(ak x).size=x.length:=by unfold ak;show (List.toArray _).size=_;simp
structure XV where
 kind:Int
 text:ByteArray
 ns:Value
 lo:Int
 hi:Int
 ks:Value
def XV.cells(x:XV):List Value:=[.int .i64 x.kind,.string x.text,x.ns,.int .i64 x.lo,.int .i64 x.hi,x.ks]
def XV.val(x:XV):Value:=.agg #[.int .i64 x.kind,.string x.text,x.ns,.int .i64 x.lo,.int .i64 x.hi,x.ks]
def KV(t:TypeId):Prop:=t=29\/t=3\/t=31
def Qd(W:World)(g:Nat):Prop:=∃ (c:Array Value) (t:TypeId),KV t/\W.heap[g]?=some (.cells c t (0,0))
def mW(W:World)(P:Nat->Prop)(v:Value)(n:Nat)(xs:List Value):Prop :=
 (v=.slice none 0 0/\n=0)\/∃ g cap,v=.slice (some ⟨g,0,none⟩) n cap/\n<=cap/\cap<=maxLen/\P g/\g<W.heap.size/\Qd W g/\∀ (j:Nat) (u:Value),xs[j]?=some u->W.cell? ⟨g,j,none⟩=some u
inductive av (W:World) (P:Nat->Prop):XV->Tree->Prop
 |mk {k lo hi:Int} {ns ks:Value} {x nums:List Int} {kids:List Tree} (vs:List XV) :
   mW W P ns nums.length (dA nums)->mW W P ks kids.length (vs.flatMap XV.cells)->vs.length=kids.length ->
   (∀ (i:Nat) (y:XV) (t:Tree),vs[i]?=some y->kids[i]?=some t->av W P y t)->av W P ⟨k,ak x,ns,lo,hi,ks⟩ (.mk k x nums lo hi kids)
theorem mW.kept{W W':World}{P P':Nat->Prop}{v:Value}{n:Nat}{xs:List Value}(h:mW W P v n xs)(hk:∀ b,P b->b<W.heap.size->W'.heap[b]?=W.heap[b]?/\P' b)(hs:W.heap.size<=W'.heap.size):mW W' P' v n xs:=by
 rcases h with h|⟨g,cap,hv,hc,hm,hP,hg,hb,h⟩
 ·exact .inl h
 ·refine .inr ⟨g,cap,hv,hc,hm,(hk g hP hg).2,Nat.lt_of_lt_of_le hg hs,?_,fun j u hj=>?_⟩
  ·obtain⟨c,t,ht,hb⟩:=hb;exact⟨c,t,ht,(hk g hP hg).1.trans hb⟩
  ·rw[World.cell?_of_block (w:=W) (hk g hP hg).1];exact h j u hj
theorem av.kept{W W':World}{P P':Nat->Prop}{x:XV}{t:Tree}(h:av W P x t)(hk:∀ b,P b->b<W.heap.size->W'.heap[b]?=W.heap[b]?/\P' b)(hs:W.heap.size<=W'.heap.size):av W' P' x t:=by
 induction h with
 |mk vs h1 h2 h3 _ ih=>exact .mk vs (h1.kept hk hs) (h2.kept hk hs) h3 ih
theorem av.under{W W':World}{P:Nat->Prop}{x:XV}{t:Tree}(h:av W P x t)(hb:Below W.heap.size W W'):av W' P x t:=h.kept (fun b hP hl=>⟨hb.block b hl,hP⟩) hb.size
theorem av.weak{W:World}{P P':Nat->Prop}{x:XV}{t:Tree}(h:av W P x t)(hk:∀ b,P b->b<W.heap.size->P' b):av W P' x t:=h.kept (fun b hP hl=>⟨rfl,hk b hP hl⟩) (zbA _)
theorem mW.nil(W:World)(P:Nat->Prop)(xs:List Value):mW W P (.slice none 0 0) 0 xs:=.inl ⟨rfl,rfl⟩
theorem mW.mQ{W:World}{P:Nat->Prop}{base size n:Nat}{e:TypeId}{v:Value}{xs:List Value}(h:W.ownsRow base e size v n xs)(hP:∀ b,base<=b->P b)(he:KV e:=by unfold KV;decide):mW W P v n xs:=by
 have h0:=h;rcases fB h with h0|⟨g,cap,rfl⟩
 ·exact .inl h0
 ·obtain⟨hb,hc,hm,hg⟩:=iX h;refine .inr ⟨g,cap,rfl,hc,hm,hP g hb,hg,?_,fun j u hj=>eZ h hj⟩;rcases h.2 with ⟨hn,_⟩|⟨g',cap',cur,hv,_,hblk,_⟩
  ·cases hn
  ·simp at hv;obtain⟨rfl,_⟩:=hv;exact⟨_,_,he,hblk⟩
theorem Ah(W:World)(P:Nat->Prop)(k lo hi:Int)(x:List Int):av W P ⟨k,ak x,.slice none 0 0,lo,hi,.slice none 0 0⟩ (.mk k x [] lo hi []) :=
 .mk [] (mW.nil _ _ _) (mW.nil _ _ _) rfl (fun i y t h=>by simp at h)
theorem GQ:ak []=⟨#[]⟩:=rfl
theorem Jk{W:World}{P:Nat->Prop}{base:Nat}{v:Value}(k:Int){nums:List Int}(h:W.ownsRow base 3 1 v nums.length (dA nums))(hP:∀ b,base<=b->P b) :
  av W P ⟨k,⟨#[]⟩,v,0,0,.slice none 0 0⟩ (.mk k [] nums 0 0 []) :=
 av.mk (x:=[]) (kids:=[]) [] (mW.mQ h hP) (mW.nil _ _ _) rfl (fun i y t h=>by simp at h)
def fK(W:World)(base:Nat)(v:Value)(l:List Tree):Prop :=
 ∃ vs:List XV,vs.length=l.length/\W.ownsRow base 29 6 v l.length (vs.flatMap XV.cells)/\∀ (i:Nat) (y:XV) (t:Tree),vs[i]?=some y->l[i]?=some t->av W (fun b=>base<=b/\some b≠v.ownBlock) y t
theorem fK.kept{W W':World}{base:Nat}{v:Value}{l:List Tree}(h:fK W base v l)(hk:∀ b,base<=b->b<W.heap.size->W'.heap[b]?=W.heap[b]?)(hs:W.heap.size<=W'.heap.size):fK W' base v l:=by
 obtain⟨vs,h1,h2,h3⟩:=h;refine⟨vs,h1,?_,fun i y t hy ht=>(h3 i y t hy ht).kept (fun b hP hl=>⟨hk b hP.1 hl,hP⟩) hs⟩;refine⟨h2.1,?_⟩;rcases h2.2 with hn|⟨g,cap,cur,hv,hb,hg,rest⟩
 ·exact .inl hn
 ·exact .inr ⟨g,cap,cur,hv,hb,(hk g hb (zbD.1 hg).1).trans hg,rest⟩
theorem fK.grown{W W':World}{base R:Nat}{v:Value}{l:List Tree}(h:fK W base v l)(hg:W.grownBy W' (some R))(hR:R<base):fK W' base v l :=
 h.kept (fun b hb hl=>hg.block b hl (fun e=>by cases e;omega)) hg.size
theorem fK.below{W W':World}{base:Nat}{v:Value}{l:List Tree}(h:fK W base v l)(hb:Below W.heap.size W W'):fK W' base v l:=h.kept (fun b _ hl=>hb.block b hl) hb.size
theorem Qe(vs:List XV):(vs.flatMap XV.cells).length=vs.length*6:=by
 induction vs with
 |nil=>rfl
 |cons x vs ih=>simp[XV.cells]at ih ⊢;omega
theorem pV(vs:List XV)(i j:Nat)(x:XV)(h:vs[i]?=some x)(hj:j<6):(vs.flatMap XV.cells)[i*6+j]?=x.cells[j]?:=by
 induction vs generalizing i with
 |nil=>simp at h
 |cons y vs ih =>
  cases i with
  |zero =>
   simp at h;subst h;simp only[List.flatMap_cons,Nat.zero_mul,Nat.zero_add];rw[zbK (by simp[XV.cells];exact hj)]
  |succ i =>
   simp at h;have:=ih i h;simp only[List.flatMap_cons];rw[zbL (by simp[XV.cells];omega),show (i+1)*6+j-(XV.cells y).length=i*6+j by simp[XV.cells];omega];exact this
theorem fK.push{W W':World}{base:Nat}{v v':Value}{l:List Tree}{t:Tree}{x:XV}{vs:List XV}(h1:vs.length=l.length)(h2:W.ownsRow base 29 6 v l.length (vs.flatMap XV.cells))
  (h3:∀ (i:Nat) (y:XV) (t:Tree),vs[i]?=some y->l[i]?=some t->av W (fun b=>base<=b/\some b≠v.ownBlock) y t) (hx:av W (fun b=>base<=b/\some b≠v.ownBlock) x t)
  (hown:W'.ownsRow base 29 6 v' (l.length+1) (vs.flatMap XV.cells++x.cells)) (hg:W.grownBy W' v.ownBlock) (hat:v'.ownBlock=v.ownBlock\/∃ k,v'.ownBlock=some k/\W.heap.size<=k):fK W' base v' (l++[t]):=by
 have key:∀ (y:XV) (u:Tree),av W (fun b=>base<=b/\some b≠v.ownBlock) y u->av W' (fun b=>base<=b/\some b≠v'.ownBlock) y u:=by
  intro y u hy;refine hy.kept (fun b hP hl=>⟨hg.block b hl hP.2,hP.1,?_⟩) hg.size;rcases hat with e|⟨k,e,hk⟩
  ·rw[e];exact hP.2
  ·rw[e];intro g;cases g;omega
 refine⟨vs++[x],by simp[h1],by simpa using hown,fun i y u hy hu=>?_⟩;by_cases hi:i<l.length
 ·rw[zbK (by omega)]at hy;rw[zbK hi]at hu;exact key y u (h3 i y u hy hu)
 ·have hi0:i=l.length:=by
   have:=(zbF.1 hu).1;simp at this;omega
  subst hi0;rw[zbL (by omega),h1]at hy;rw[zbL (by omega)]at hu;simp at hy hu;subst hy hu;exact key x t hx
theorem fK.one{W W':World}{base g:Nat}{t:Tree}{x:XV}(hx:av W (fun b=>base<=b) x t)(hg:W.heap.size<=g)(hb:base<=g)(hblk:W'.heap[g]?=some (.cells #[.int .i64 x.kind,.string x.text,x.ns,.int .i64 x.lo,.int .i64 x.hi,x.ks] 29 (0,0)))
  (hk:∀ b,base<=b->b<W.heap.size->W'.heap[b]?=W.heap[b]?) (hs:W.heap.size<=W'.heap.size):fK W' base (.slice (some ⟨g,0,none⟩) 1 1) [t]:=by
 refine⟨[x],rfl,bq hb hblk (by unfold maxLen;omega) rfl,fun i y u hy hu=>?_⟩
 have hi:i=0:=by
  have:=(zbF.1 hu).1;simp at this;omega
 subst hi;simp at hy hu;subst hy hu;exact hx.kept (fun b hP hl=>⟨hk b hP hl,hP,fun e=>by simp[Value.ownBlock]at e;omega⟩) hs
theorem fK.tree{W:World}{base:Nat}{v:Value}{l:List Tree}(h:fK W base v l)(k lo hi:Int):av W (fun b=>base<=b) ⟨k,⟨#[]⟩,.slice none 0 0,lo,hi,v⟩ (.mk k [] [] lo hi l):=by
 obtain⟨vs,h1,h2,h3⟩:=h;exact av.mk (x:=[]) (nums:=[]) vs (mW.nil _ _ _) (mW.mQ h2 (fun b hb=>hb)) h1 (fun i y t hy ht=>(h3 i y t hy ht).weak (fun b hP _=>hP.1))
def GU(base:Nat)(t:Tree)(w:World)(e:Ending)(w':World):Prop :=
 ∃ x:XV,av w' (fun b=>base<=b) x t/\e=.returned x.val/\Below w.heap.size w w'
structure LV where
 name:ByteArray
 more:Bool
 expr:XV
def LV.arr(y:LV):Array Value:=#[.string y.name,.bool y.more,.int .i64 y.expr.kind,.string y.expr.text,y.expr.ns,.int .i64 y.expr.lo,.int .i64 y.expr.hi,y.expr.ks]
def LV.val(y:LV):Value:=.agg y.arr
def tH(W:World)(P:Nat->Prop)(y:LV)(r:Rule):Prop:=y.name=ak r.name/\y.more=r.more/\av W P y.expr r.expr
def LV.cells(y:LV):List Value:=[.string y.name,.bool y.more,.int .i64 y.expr.kind,.string y.expr.text,y.expr.ns,.int .i64 y.expr.lo,.int .i64 y.expr.hi,y.expr.ks]
def jD(W:World)(base:Nat)(v:Value)(l:List Rule):Prop :=
 ∃ ys:List LV,ys.length=l.length/\W.ownsRow base 31 8 v l.length (ys.flatMap LV.cells)/\∀ (i:Nat) (y:LV) (r:Rule),ys[i]?=some y->l[i]?=some r->tH W (fun b=>base<=b/\some b≠v.ownBlock) y r
theorem tH.kept{W W':World}{P P':Nat->Prop}{y:LV}{r:Rule}(h:tH W P y r)(hk:∀ b,P b->b<W.heap.size->W'.heap[b]?=W.heap[b]?/\P' b)(hs:W.heap.size<=W'.heap.size):tH W' P' y r:=⟨h.1,h.2.1,h.2.2.kept hk hs⟩
theorem jD.kept{W W':World}{base:Nat}{v:Value}{l:List Rule}(h:jD W base v l)(hk:∀ b,base<=b->b<W.heap.size->W'.heap[b]?=W.heap[b]?)(hs:W.heap.size<=W'.heap.size):jD W' base v l:=by
 obtain⟨vs,h1,h2,h3⟩:=h;refine⟨vs,h1,?_,fun i y t hy ht=>(h3 i y t hy ht).kept (fun b hP hl=>⟨hk b hP.1 hl,hP⟩) hs⟩;refine⟨h2.1,?_⟩;rcases h2.2 with hn|⟨g,cap,cur,hv,hb,hg,rest⟩
 ·exact .inl hn
 ·exact .inr ⟨g,cap,cur,hv,hb,(hk g hb (zbD.1 hg).1).trans hg,rest⟩
theorem jD.grown{W W':World}{base R:Nat}{v:Value}{l:List Rule}(h:jD W base v l)(hg:W.grownBy W' (some R))(hR:R<base):jD W' base v l :=
 h.kept (fun b hb hl=>hg.block b hl (fun e=>by have:=zbB e;omega)) hg.size
theorem jD.below{W W':World}{base:Nat}{v:Value}{l:List Rule}(h:jD W base v l)(hb:Below W.heap.size W W'):jD W' base v l:=h.kept (fun b _ hl=>hb.block b hl) hb.size
theorem jD.nil(W:World)(base:Nat):jD W base (.slice none 0 0) []:=⟨[],rfl,World.ownsRow_nil _ _ _ _,fun i y r h=>by simp at h⟩
theorem jD.push{W W':World}{base:Nat}{v v':Value}{l:List Rule}{t:Rule}{x:LV}{vs:List LV}(h1:vs.length=l.length)(h2:W.ownsRow base 31 8 v l.length (vs.flatMap LV.cells))
  (h3:∀ (i:Nat) (y:LV) (t:Rule),vs[i]?=some y->l[i]?=some t->tH W (fun b=>base<=b/\some b≠v.ownBlock) y t) (hx:tH W (fun b=>base<=b/\some b≠v.ownBlock) x t)
  (hown:W'.ownsRow base 31 8 v' (l.length+1) (vs.flatMap LV.cells++x.cells)) (hg:W.grownBy W' v.ownBlock) (hat:v'.ownBlock=v.ownBlock\/∃ k,v'.ownBlock=some k/\W.heap.size<=k):jD W' base v' (l++[t]):=by
 have key:∀ (y:LV) (u:Rule),tH W (fun b=>base<=b/\some b≠v.ownBlock) y u->tH W' (fun b=>base<=b/\some b≠v'.ownBlock) y u:=by
  intro y u hy;refine hy.kept (fun b hP hl=>⟨hg.block b hl hP.2,hP.1,?_⟩) hg.size;rcases hat with e|⟨k,e,hk⟩
  ·rw[e];exact hP.2
  ·rw[e];intro g;cases g;omega
 refine⟨vs++[x],by simp[h1],by simpa using hown,fun i y u hy hu=>?_⟩;by_cases hi:i<l.length
 ·rw[zbK (by omega)]at hy;rw[zbK hi]at hu;exact key y u (h3 i y u hy hu)
 ·have hi0:i=l.length:=by
   have:=(zbF.1 hu).1;simp at this;omega
  subst hi0;rw[zbL (by omega),h1]at hy;rw[zbL (by omega)]at hu;simp at hy hu;subst hy hu;exact key x t hx
def Np(W:World)(a:Option Addr)(n:Nat)(xs:List Value):Prop:=0<n->∃ g,a=some ⟨g,0,none⟩/\g<W.heap.size/\∀ (j:Nat) (u:Value),xs[j]?=some u->W.cell? ⟨g,j,none⟩=some u
theorem mW.open{W:World}{P:Nat->Prop}{v:Value}{n:Nat}{xs:List Value}(h:mW W P v n xs):∃ a cap,v=.slice a n cap/\n<=cap/\n<=9223372036854775807/\Np W a n xs:=by
 rcases h with ⟨rfl,rfl⟩|⟨g,cap,rfl,hc,hm,_,hg,_,h⟩
 ·exact⟨none,0,rfl,zbA _,by omega,fun h=>absurd h (by omega)⟩
 ·unfold maxLen at hm;exact⟨some ⟨g,0,none⟩,cap,rfl,hc,by omega,fun _=>⟨g,rfl,hg,h⟩⟩
theorem Np.below{W W':World}{a:Option Addr}{n:Nat}{xs:List Value}(h:Np W a n xs)(hb:Below W.heap.size W W'):Np W' a n xs:=by
 intro hn;obtain⟨g,ha,hg,hc⟩:=h hn;exact⟨g,ha,Nat.lt_of_lt_of_le hg hb.size,fun j u hj=>(hb.cell (p:=⟨g,j,none⟩) hg).trans (hc j u hj)⟩
def Nq(W:World)(P:Nat->Prop)(v:Value)(l:List Rule):Prop :=
 ∃ ys:List LV,ys.length=l.length/\mW W P v l.length (ys.flatMap LV.cells)/\∀ (i:Nat) (y:LV) (r:Rule),ys[i]?=some y->l[i]?=some r->tH W P y r
theorem jD.reads{W:World}{base:Nat}{v:Value}{l:List Rule}(h:jD W base v l):Nq W (fun b=>base<=b) v l:=by
 obtain⟨ys,h1,h2,h3⟩:=h;exact⟨ys,h1,mW.mQ h2 (fun b hb=>hb),fun i y r hy hr=>(h3 i y r hy hr).kept (fun b hP _=>⟨rfl,hP.1⟩) (zbA _)⟩
theorem Nq.under{W W':World}{P:Nat->Prop}{v:Value}{l:List Rule}(h:Nq W P v l)(hb:Below W.heap.size W W'):Nq W' P v l:=by
 obtain⟨ys,h1,h2,h3⟩:=h;exact⟨ys,h1,h2.kept (fun b hP hl=>⟨hb.block b hl,hP⟩) hb.size,fun i y r hy hr=>(h3 i y r hy hr).kept (fun b hP hl=>⟨hb.block b hl,hP⟩) hb.size⟩
theorem iq(w:World)(row:Option Nat):w.grownBy w row:=⟨rfl,rfl,rfl,zbA _,fun _ _ _=>rfl⟩
theorem bY{w w':World}{row:Option Nat}(h:w.grownBy w' row)(n:Nat):w.grownBy (w'.drewN n) row:=⟨h.os,h.tape,h.output,h.size,h.block⟩
theorem dn{w w':World}{row:Option Nat}(h:w.grownBy w' row)(o:Obj):w.grownBy (w'.alloc o) row:=h.trans (World.grownBy_alloc w' o row)
theorem fu{w w':World}{R:Nat}(h:w.grownBy w' (some R))(k:Nat)(v:Value):w.grownBy (w'.setCell ⟨R,k,none⟩ v) (some R) :=
 h.trans ⟨rfl,rfl,rfl,by simp[World.setCell],fun i _ hi=>zbQ _ _ _ _ (fun e=>hi (by rw[e]))⟩
theorem dw{w w1 w':World}{row:Option Nat}(h:w.grownBy w1 row)(hb:Below w1.heap.size w1 w'):w.grownBy w' row :=
 h.trans ⟨hb.os,hb.tape,hb.output,hb.size,fun k hk _=>hb.block k hk⟩
def yx:Array Value:=#[.int .i64 0,.string ⟨#[]⟩,.slice none 0 0,.int .i64 0,.int .i64 0,.slice none 0 0]
def XV.arr(x:XV):Array Value:=#[.int .i64 x.kind,.string x.text,x.ns,.int .i64 x.lo,.int .i64 x.hi,x.ks]
theorem GV:(Tryz.prog.info? 29).map (·.size)=some 6:=by kernel_rfl
def bg(W:World)(g:Nat):Prop:=∃ cs:Array Value,cs.size=6/\W.heap[g]?=some (.cells cs 29 (0,0))
theorem fG(w:World):bg (w.alloc (.cells #[.int .i64 0,.string ⟨#[]⟩,.slice none 0 0,.int .i64 0,.int .i64 0,.slice none 0 0] 29)) w.heap.size:=⟨_,rfl,zbO w _⟩
theorem bg.kept{W W':World}{g:Nat}(h:bg W g)(hk:W'.heap[g]?=W.heap[g]?):bg W' g:=by
 obtain⟨cs,h1,h2⟩:=h;exact⟨cs,h1,hk.trans h2⟩
theorem bg.lt{W:World}{g:Nat}(h:bg W g):g<W.heap.size:=by
 obtain⟨cs,_,h2⟩:=h;exact(zbD.1 h2).1
theorem bA{ops:Array Oper}{rest:List Oper}{o:Oper}{a:Act}{w:World}{Q:Exit->Act->World->Prop}(hgd:o.guard=none)(x y:Operand)(ho:o.op=.store 29 x y)
  (g:Nat) (X:XV) (hx:a.eval x=.pointer (some ⟨g,0,none⟩)) (hy:a.eval y=X.val) (hg:bg w g) (h1:X.ns.oneCell'=true) (h2:X.ks.oneCell'=true)
  (h:wpList Tryz.prog ops Q rest (a.put o.dst undef) (w.setRow g X.arr)):wpList Tryz.prog ops Q (o::rest) a w:=by
 obtain⟨cs,hs,hg⟩:=hg;exact wpList_store_row hgd 29 x y ho g X.arr hx hy 29 cs hg GV (by rw[hs];rfl) (by simp[XV.arr,h1,h2];exact⟨rfl,rfl,rfl,rfl⟩) h
theorem zag{fn:Func}{p:Tmp}(h:fn.results=#[.cell p 29])(tmps:Array Value)(w:World)(g:Nat)(X:XV)(hp:tmps.getD p undef=.pointer (some ⟨g,0,none⟩))(hg:bg w g) :
  (results fn tmps).run Tryz.prog (w.setRow g X.arr)=.ok X.val (w.setRow g X.arr):=by
 obtain⟨cs,hs,hg⟩:=hg;exact results_cell_row h tmps _ g 29 X.arr (0,0) _ hp (setRow_heap _ _ _ _ _ _ hg) Tryz.underlying29 rfl GV
theorem dY{w w':World}{row:Option Nat}(h:w.grownBy w' row){g:Nat}(hg:w.heap.size<=g)(cs:Array Value):w.grownBy (w'.setRow g cs) row :=
 ⟨h.os,h.tape,h.output,by simpa[World.setRow]using h.size,fun k hk hr=>(setRow_other _ _ _ _ (by omega)).trans (h.block k hk hr)⟩
theorem av.aj{W:World}{P:Nat->Prop}{x:XV}{t:Tree}(h:av W P x t){g:Nat}(hg:∀ b,P b->b≠g)(cs:Array Value):av (W.setRow g cs) P x t :=
 h.kept (fun b hP hl=>⟨setRow_other _ _ _ _ (hg b hP),hP⟩) (by simp[World.setRow])
theorem mW.one{W:World}{P:Nat->Prop}{v:Value}{n:Nat}{xs:List Value}(h:mW W P v n xs):v.oneCell'=true:=by
 rcases h with ⟨rfl,_⟩|⟨g,cap,rfl,_⟩<;>rfl
theorem fq{W:World}{P:Nat->Prop}{x:XV}{t:Tree}(h:av W P x t):x.ns.oneCell'=true:=by
 cases h with
 |mk vs h1 h2 h3 h4=>exact h1.one
theorem eU{W:World}{P:Nat->Prop}{x:XV}{t:Tree}(h:av W P x t):x.ks.oneCell'=true:=by
 cases h with
 |mk vs h1 h2 h3 h4=>exact h2.one
theorem Nr{a b c:World}{R g:Nat}(h:a.grownBy b (some R))(k:b.grownBy c (some g))(hg:a.heap.size<=g):a.grownBy c (some R) :=
 ⟨k.os.trans h.os,k.tape.trans h.tape,k.output.trans h.output,zbH h.size k.size,fun i hi hne=>(k.block i (Nat.lt_of_lt_of_le hi h.size) (fun e=>by have:=zbB e;omega)).trans (h.block i hi hne)⟩
theorem bG{W W':World}{g h:Nat}(hr:bg W g)(hk:W.grownBy W' (some h))(hne:g≠h):bg W' g:=hr.kept (hk.block g hr.lt (fun e=>hne (zbB e)))
theorem lV{W:World}{g:Nat}(hr:bg W g)(o:Obj):bg (W.alloc o) g:=hr.kept (zbP W o g hr.lt)
theorem mO{ops:Array Oper}{rest:List Oper}{o:Oper}{a:Act}{w:World}{Q:Exit->Act->World->Prop}(hgd:o.guard=none)(x:Operand)(ho:o.op=.load 29 x)
  (g:Nat) (X:XV) (hx:a.eval x=.pointer (some ⟨g,0,none⟩)) (hg:w.heap[g]?=some (.cells X.arr 29 (0,0)))
  (h:wpList Tryz.prog ops Q rest (a.put o.dst X.val) w):wpList Tryz.prog ops Q (o::rest) a w :=
 wpList_load_row hgd 29 x ho g hx 29 X.arr (0,0) _ hg Tryz.underlying29 rfl GV h
theorem Jl:(Tryz.prog.info? 29).map (fun i=>(i.zero,i.size,i.bytes))=some (some (.agg #[.int .i64 0,.string ⟨#[]⟩,.slice none 0 0,.int .i64 0,.int .i64 0,.slice none 0 0]),6,88):=by kernel_rfl
theorem Wd(X:XV)(h1:X.ns.oneCell'=true)(h2:X.ks.oneCell'=true) :
  Instr.fill (fun i=>some (i*6,6)) ((Array.range (1*6)).map ((Value.agg #[.int .i64 0,.string ⟨#[]⟩,.slice none 0 0,.int .i64 0,.int .i64 0,.slice none 0 0]).cells[·%6]!)) [(0,X.val)]=some X.arr:=by
 cases X
 kernel_rfl
theorem nR{ops:Array Oper}{rest:List Oper}{o:Oper}{a:Act}{w:World}{Q:Exit->Act->World->Prop}(hgd:o.guard=none)(y:Operand)(ho:o.op=.buildSlice 27 1 #[(0,y)])
  (X:XV) (hy:a.eval y=X.val) (h1:X.ns.oneCell'=true) (h2:X.ks.oneCell'=true)
  (h:wpList Tryz.prog ops Q rest (a.put o.dst (.slice (some ⟨w.heap.size,0,none⟩) 1 1)) (w.alloc (.cells X.arr 29))):wpList Tryz.prog ops Q (o::rest) a w:=by
 obtain⟨i0,hi0,hi1⟩:=Option.map_eq_some_iff.1 Jl;obtain⟨hz0,hz1,hz2⟩:i0.zero=some _/\i0.size=6/\i0.bytes=_:=by simpa using hi1
 refine wpList_buildSlice hgd 27 29 1 #[(0,y)] ho X.arr i0 _ Tryz.underlying27 hi0 hz0 (by rw[hz1];decide) (by rw[hz1];decide) ?_ h;rw[hz1];simp only[List.map_toArray,List.map_cons,List.map_nil,hy];exact Wd X h1 h2
theorem Ai{W:World}{g h:Nat}(hr:bg W g)(cs:Array Value)(hne:g≠h):bg (W.setRow h cs) g:=hr.kept (setRow_other _ _ _ _ hne)
theorem wF{W:World}{g:Nat}(hr:bg W g)(cs:Array Value):(W.setRow g cs).heap[g]?=some (.cells cs 29 (0,0)):=by
 obtain⟨c,_,h⟩:=hr;exact setRow_heap _ _ _ _ _ _ h
theorem zvo{w:World}{g:Nat}{x:XV}(hb:w.heap[g]?=some (.cells x.arr 29 (0,0))):∀ (j:Nat) (u:Value),x.cells[j]?=some u->w.cell? ((⟨g,0,none⟩:Addr).add j)=some u:=by
 intro j u hj;have e:(⟨g,0,none⟩:Addr).add j=⟨g,j,none⟩:=by cases j<;>simp[Addr.add]
 rw[e];simp only[World.cell?,hb];have:x.arr.toList=x.cells:=rfl;rw[<- this]at hj;simpa using hj
theorem Ns{ops:Array Oper}{rest:List Oper}{o:Oper}{a:Act}{w:World}{Q:Exit->Act->World->Prop}(hgd:o.guard=none)(sx xx:Operand)
  (ho:o.op=.call { callee:=.builtin .append,args:=#[sx,xx],argTypes:=#[27,27] }) (base:Nat) (v:Value) (l:List Tree) (t:Tree) (x:XV) (g:Nat)
  (hs:a.eval sx=v) (hx:a.eval xx=.slice (some ⟨g,0,none⟩) 1 1) (hk:fK w base v l) (ht:av w (fun b=>base<=b/\some b≠v.ownBlock) x t)
  (hb:w.heap[g]?=some (.cells x.arr 29 (0,0))) (hl:l.length<=100000) (hbase:base<=w.heap.size)
  (h:∀ v' w',fK w' base v' (l++[t])->w.grownBy w' v.ownBlock->wpList Tryz.prog ops Q rest (a.put o.dst v') w'):wpList Tryz.prog ops Q (o::rest) a w:=by
 obtain⟨i0,hi0,hi1⟩:=Option.map_eq_some_iff.1 Jl;obtain⟨hz0,hz1,hz2⟩:i0.zero=some _/\i0.size=6/\i0.bytes=_:=by simpa using hi1
 obtain⟨vs,h1,h2,h3⟩:=hk;have o2:=fq ht;have o5:=eU ht;refine wpList_append_own_at _ hgd sx xx 27 ho base 29 i0 _ 6 88 Tryz.underlying27 hi0 hz0 hz1 hz2 rfl (by decide) v l.length (vs.flatMap XV.cells) hs h2 ⟨g,0,none⟩ 1 1 x.cells hx rfl (zvo hb) ?_ (by unfold maxLen;omega) (by omega) hbase ?_
 ·intro u hu;simp[XV.cells]at hu;rcases hu with rfl|rfl|rfl|rfl|rfl|rfl
  all_goals first|rfl|assumption
 ·intro v' w' hown hgrow _ hat;exact h v' w' (fK.push h1 h2 h3 ht hown hgrow (hat.imp id (fun e=>⟨_,e,zbA _⟩))) hgrow
theorem Nt{W w w':World}{base R:Nat}{v:Value}{l:List Tree}(hk:fK w base v l)(h:W.grownBy w (some R))(hg:w.grownBy w' v.ownBlock)(hW:W.heap.size<=base):W.grownBy w' (some R):=by
 obtain⟨vs,_,h2,_⟩:=hk;rcases fB h2 with ⟨rfl,_⟩|⟨g,cap,rfl⟩
 ·exact h.trans ⟨hg.os,hg.tape,hg.output,hg.size,fun k hk _=>hg.block k hk (by simp[Value.ownBlock])⟩
 ·have hb:=(iX h2).1;exact Nr h hg (show W.heap.size<=g by omega)
theorem Nu{w w':World}{base g:Nat}{v:Value}{l:List Tree}(hk:fK w base v l)(h:bg w g)(hg:w.grownBy w' v.ownBlock)(hR:g<base):bg w' g:=by
 obtain⟨vs,_,h2,_⟩:=hk;refine h.kept (hg.block g h.lt (fun e=>?_));rcases fB h2 with ⟨rfl,_⟩|⟨k,cap,rfl⟩
 ·simp[Value.ownBlock]at e
 ·have hb:=(iX h2).1;have:=zbB e;simp at this;omega
theorem zjp{w w1:World}{base:Nat}{v:Value}{l:List Tree}{x:XV}{t:Tree}(hk:fK w base v l)(ht:av w1 (fun b=>w.heap.size<=b) x t)(hb:base<=w.heap.size):av w1 (fun b=>base<=b/\some b≠v.ownBlock) x t:=by
 obtain⟨vs,_,h2,_⟩:=hk;refine ht.weak (fun b hP _=>⟨by omega,fun e=>?_⟩);rcases fB h2 with ⟨rfl,_⟩|⟨k,cap,rfl⟩
 ·simp[Value.ownBlock]at e
 ·have hb:=(iX h2).2.2.2;have:=zbB e;simp at this;omega
def GY(W:World)(R:Nat)(v:Value)(zs:List Int):Prop :=
 ∃ a cap,v=.slice a zs.length cap/\zs.length<=cap/\zs.length<=maxLen/\(∀ z∈zs,0<=z/\z<=255) /\
  (0<zs.length->∃ b off,a=some ⟨b,off,none⟩/\b<R/\∀ (i:Nat) (z:Int),zs[i]?=some z->W.cell? ⟨b,off+i,none⟩=some (.int .u8 z))
theorem GY.kept{W W':World}{R:Nat}{v:Value}{zs:List Int}(h:GY W R v zs)(hk:∀ b,b<R->W'.heap[b]?=W.heap[b]?):GY W' R v zs:=by
 obtain⟨a,cap,h1,h2,h3,h4,h5⟩:=h;refine⟨a,cap,h1,h2,h3,h4,fun hn=>?_⟩;obtain⟨b,off,ha,hlt,hc⟩:=h5 hn;refine⟨b,off,ha,hlt,fun i z hz=>?_⟩;rw[World.cell?_of_block (w:=W) (hk b hlt)];exact hc i z hz
def cu(W:World)(R:Nat)(v:Value)(zs:List Int)(a:Nat):Prop :=
 W.heap[R]?=some (.cells #[v,.int .i64 a] 43 (0,0))/\GY W R v zs
theorem cu.lt{W:World}{R a:Nat}{v:Value}{zs:List Int}(h:cu W R v zs a):R<W.heap.size:=(zbD.1 h.1).1
theorem cu.kept{W W':World}{R a:Nat}{v:Value}{zs:List Int}(h:cu W R v zs a)(hk:∀ b,b<=R->W'.heap[b]?=W.heap[b]?):cu W' R v zs a :=
 ⟨(hk R (zbA _)).trans h.1,h.2.kept (fun b hb=>hk b (Nat.le_of_lt hb))⟩
theorem cu.grown{W W':World}{R a:Nat}{row:Option Nat}{v:Value}{zs:List Int}(h:cu W R v zs a)(hg:W.grownBy W' row)(hr:∀ k,row=some k->R<k):cu W' R v zs a :=
 h.kept (fun b hb=>hg.block b (by have:=h.lt;omega) (fun e=>by have:=hr b e.symm;omega))
theorem cu.below{W W':World}{R a:Nat}{v:Value}{zs:List Int}(h:cu W R v zs a)(hb:Below W.heap.size W W'):cu W' R v zs a :=
 h.kept (fun b hl=>hb.block b (by have:=h.lt;omega))
theorem cu.alloc{W:World}{R a:Nat}{v:Value}{zs:List Int}(h:cu W R v zs a)(o:Obj):cu (W.alloc o) R v zs a:=h.below ((zbE _ _).alloc (zbA _) o)
theorem cu.aj{W:World}{R a g:Nat}{v:Value}{zs:List Int}(h:cu W R v zs a)(hg:R<g)(cs:Array Value):cu (W.setRow g cs) R v zs a :=
 h.kept (fun b hb=>setRow_other _ _ _ _ (by omega))
theorem cu.cells{W:World}{R a:Nat}{v:Value}{zs:List Int}(h:cu W R v zs a):W.cell? ⟨R,0,none⟩=some v/\W.cell? ⟨R,1,none⟩=some (.int .i64 a)/\W.frozen? ⟨R,0,none⟩=false/\W.frozen? ⟨R,1,none⟩=false:=by
 obtain⟨h,_⟩:=h;simp[World.cell?,World.frozen?,h]
theorem cu.set{W:World}{R a:Nat}{v:Value}{zs:List Int}(h:cu W R v zs a)(n:Nat):cu (W.setCell ⟨R,1,none⟩ (.int .i64 n)) R v zs n:=by
 refine⟨?_,h.2.kept (fun b hb=>zbQ _ _ _ _ (by show b≠R;omega))⟩;have h0:=h.1;unfold World.setCell;simp only[Array.getElem?_modify,h0];simp
def jE(zs:List Int)(a:Nat)(n:Int):Nat:=if zs.length<a+1\/150<a+1 then 0 else (zs.getD a 0%n).toNat
theorem mE(zs:List Int)(a:Nat){n:Int}(hn:1<=n):(jE zs a n:Int)<n:=by
 unfold jE;split
 ·simp;omega
 ·have h1:=Int.emod_nonneg (zs.getD a 0) (b:=n) (by omega);have h2:=Int.emod_lt_of_pos (zs.getD a 0) (b:=n) (by omega);omega
def Jm(R:Nat)(v:Value)(zs:List Int)(a:Nat)(n:Int)(w:World)(e:Ending)(w':World):Prop :=
 e=.returned (.int .i64 (jE zs a n:Int))/\cu w' R v zs (a+1)/\w.grownBy w' (some R)
theorem iw{R a:Nat}{n:Int}{v:Value}{zs:List Int}{W:World}(h:cu W R v zs a)(ha:a<=1000000)(hn:1<=n/\n<=255) :
  Calls Tryz.prog 12 #[.pointer (some ⟨R,0,none⟩),.int .i64 n] W (Jm R v zs a n W):=by
 obtain⟨c0,c1,f0,f1⟩:=h.cells;have hs:=h.set (a+1);have hg:W.grownBy (W.setCell ⟨R,1,none⟩ (.int .i64 ((a+1:Nat):Int))) (some R):=fu (iq W _) _ _;have hcast:((a+1:Nat):Int)=(a:Int)+1:=by omega
 obtain⟨d0,d1,g0,g1⟩:=hs.cells;obtain⟨p,cap,rfl,hcap,hmax,hrange,hcells⟩:=h.2;unfold maxLen at hmax;rw[hcast]at hs hg d0 d1 g0 g1;have HS:=hh9 hs;have HG:=hh9 hg;clear hs hg h;by_cases hlt:zs.length<a+1
 ·have q1:decide ((zs.length:Int)<(a:Int)+1)=true:=zbN (by omega);have HF:Hid ((jE zs a n:Int)=0):=by unfold Hid;unfold jE;rw[if_pos (.inl hlt)];rfl
  go_enter Tryz.func12,Tryz.ntmps12;go_wp2_with fail
  go_quiet (fail)
  go_wp2_with fail
  go_ret;exact⟨by rw[HF.out];rfl,HS.out,bY HG.out _⟩
 ·have q1:decide ((zs.length:Int)<(a:Int)+1)=false:=zbM (by omega);by_cases Jo:150<a+1
  ·have q2:decide ((150:Int)<(a:Int)+1)=true:=zbN (by omega);have HF:Hid ((jE zs a n:Int)=0):=by unfold Hid;unfold jE;rw[if_pos (.inr Jo)];rfl
   go_enter Tryz.func12,Tryz.ntmps12;go_wp2_with fail
   go_quiet (fail)
   go_wp2_with fail
   go_ret;exact⟨by rw[HF.out];rfl,HS.out,bY HG.out _⟩
  ·have q2:decide ((150:Int)<(a:Int)+1)=false:=zbM (by omega);obtain⟨b,off,rfl,hbR,hc⟩:=hcells (by omega);obtain⟨z,hz⟩:∃ z,zs[a]?=some z:=⟨_,zbC (by omega)⟩
   have hz0:=hrange z (zbI hz);have e0:=hc a z hz
   have HF:Hid ((jE zs a n:Int)=z%n):=by
    unfold Hid;unfold jE;rw[if_neg (fun h=>h.elim hlt Jo),List.getD_eq_getElem?_getD,hz];exact Int.toNat_of_nonneg (Int.emod_nonneg _ (by omega))
   go_enter Tryz.func12,Tryz.ntmps12;go_wp2_with fail
   go_quiet (fail)
   go_wp2_with fail
   go_quiet (fail)
   go_wp2_with fail
   go_ret;exact⟨by rw[HF.out];rfl,HS.out,bY (bY HG.out _) _⟩
end Go.Proofs.YtahibnnhjahmnaaGreatDoor
