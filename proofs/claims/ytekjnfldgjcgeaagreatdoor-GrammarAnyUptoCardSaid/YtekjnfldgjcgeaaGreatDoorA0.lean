/- Part 0 of what the laws of the grammar rest on. -/
import Derived.WalkKit
import Derived.Handy
import Derived.WalkLawsBesides
import Derived.Outline
import Derived.LoopN
import Derived.RegionTactic
import Derived.BigRegion
import Derived.Lib.Hide
import Derived.Test.YtekjnfldgjcgeaaGreatDoorRows
import Derived.Maps.AppendAt
import Derived.BigQuiet
import Derived.Deep.QuietTactic
set_option linter.all false
set_option maxRecDepth 100000
set_option maxHeartbeats 8000000
namespace Go.Proofs.YtekjnfldgjcgeaaGreatDoor
theorem hh9 {p : Prop} (h : p) : RowKit.Hid p := h
end Go.Proofs.YtekjnfldgjcgeaaGreatDoor
namespace Go.Proofs.YtekjnfldgjcgeaaGreatDoor
open Go.RowKit
def zam (b:Bool) (w:World) (e:Ending) (w':World):Prop:=e=.returned (.bool b)/\Below w.heap.size w w'
def zgy (n:Int) (w:World) (e:Ending) (w':World):Prop:=e=.returned (.int .i64 n)/\Below w.heap.size w w'
theorem za0 {w W W':World} (h:Below w.heap.size w W) (hb:Below W.heap.size W W'):Below w.heap.size w W':=h.trans (hb.mono h.size)
theorem zjd {w W:World} (h:Below w.heap.size w W) (o:Obj):Below w.heap.size w (W.alloc o):=h.alloc h.size o
theorem zaq {W:World} {base size n g cap:Nat} {e:TypeId} {xs:List Value} (h:W.ownsRow base e size (.slice (some ⟨g,0,none⟩) n cap) n xs) {j:Nat} {u:Value} (hj:xs[j]?=some u):W.cell? ⟨g,j,none⟩=some u:=by
 obtain ⟨hl,h2⟩:=h
 rcases h2 with ⟨h2,_⟩ | ⟨g',cap',cur,hv,_,hh,_,_,hsz,ht⟩
 ·cases h2
 ·obtain rfl:g=g':=by simp at hv;omega
  have hjl:j<xs.length:=(List.getElem?_eq_some_iff.1 hj).1
  rw [<- ht,List.getElem?_take_of_lt (by omega)] at hj
  simp only [World.cell?,hh]
  simpa using hj
theorem zsi {W:World} {base size n g cap:Nat} {e:TypeId} {xs:List Value} (h:W.ownsRow base e size (.slice (some ⟨g,0,none⟩) n cap) n xs) (j:Nat):W.frozen? ⟨g,j,none⟩=false:=by
 obtain ⟨hl,h2⟩:=h
 rcases h2 with ⟨h2,_⟩ | ⟨g',cap',cur,hv,_,hh,_,_,hsz,ht⟩
 ·cases h2
 ·obtain rfl:g=g':=by simp at hv;omega
  simp [World.frozen?,hh]
theorem zb0 {W:World} {base size n g cap:Nat} {e:TypeId} {xs:List Value} (h:W.ownsRow base e size (.slice (some ⟨g,0,none⟩) n cap) n xs):base<=g/\n<=cap/\cap<=maxLen/\g<W.heap.size:=by
 obtain ⟨hl,h2⟩:=h
 rcases h2 with ⟨h2,_⟩ | ⟨g',cap',cur,hv,hb,hh,hc,hm,hsz,ht⟩
 ·cases h2
 ·obtain ⟨rfl,rfl⟩:g=g'/\cap=cap':=by simp at hv;omega
  exact ⟨hb,hc,hm,(Array.getElem?_eq_some_iff.1 hh).1⟩
theorem zan {W:World} {base size n:Nat} {e:TypeId} {v:Value} {xs:List Value} (h:W.ownsRow base e size v n xs):(v=.slice none 0 0/\n=0)\/∃ g cap,v=.slice (some ⟨g,0,none⟩) n cap:=by
 rcases h.2 with h0 | ⟨g,cap,_,hv,_⟩
 ·exact .inl h0
 ·exact .inr ⟨g,cap,hv⟩
theorem zy2 {W:World} {base base' size n:Nat} {e:TypeId} {v:Value} {xs:List Value} (h:W.ownsRow base e size v n xs) (hb:base'<=base):W.ownsRow base' e size v n xs:=by
 refine ⟨h.1,?_⟩
 rcases h.2 with h0 | ⟨g,cap,cur,hv,hg,r⟩
 ·exact .inl h0
 ·exact .inr ⟨g,cap,cur,hv,Nat.le_trans hb hg,r⟩
theorem zua {W W':World} {base size n:Nat} {e:TypeId} {v:Value} {xs:List Value} (h:W.ownsRow base e size v n xs) (hb:Below W.heap.size W W'):W'.ownsRow base e size v n xs:=by
 refine ⟨h.1,?_⟩
 rcases h.2 with h0 | ⟨g,cap,cur,hv,hg,hh,r⟩
 ·exact .inl h0
 ·exact .inr ⟨g,cap,cur,hv,hg,(hb.block g (Array.getElem?_eq_some_iff.1 hh).1).trans hh,r⟩
theorem row_of_block {W:World} {base size n g:Nat} {e:TypeId} {cs:Array Value} (hg:base<=g) (hh:W.heap[g]?=some (.cells cs e (0,0))) (hm:n<=maxLen) (hs:cs.size=n*size) :
  W.ownsRow base e size (.slice (some ⟨g,0,none⟩) n n) n cs.toList :=
 ⟨by simpa using hs,.inr ⟨g,n,cs,rfl,hg,hh,Nat.le_refl _,hm,hs,List.take_of_length_le (by simp [hs])⟩⟩
theorem znj (x:UInt8):wrap64 (x.toNat:Int)=x.toNat:=by
 have:=x.toNat_lt
 exact IntWalk.wrap64_in _ ⟨by omega,by omega⟩
def zat (xs:List Int):List Value:=xs.map (Value.int .i64)
theorem zgz (xs:List Int) (i:Nat) (h:i<xs.length):(zat xs)[i]?=some (.int .i64 xs[i]):=by simp [zat,h]
def znk (W:World) (v:Value) (xs:List Int):Prop :=
 (xs=[]/\∃ a cap,v=.slice a 0 cap)\/∃ g cap,v=.slice (some ⟨g,0,none⟩) xs.length cap/\xs.length<=cap/\g<W.heap.size/\∀ (i:Nat) (h:i<xs.length),W.cell? ⟨g,i,none⟩=some (.int .i64 xs[i])
theorem znk.below {W W':World} {v:Value} {xs:List Int} (h:znk W v xs) (hb:Below W.heap.size W W'):znk W' v xs:=by
 rcases h with h | ⟨g,cap,hv,hc,hg,h⟩
 ·exact .inl h
 ·exact .inr ⟨g,cap,hv,hc,Nat.lt_of_lt_of_le hg hb.size,fun i hi=>(hb.cell (p:=⟨g,i,none⟩) hg).trans (h i hi)⟩
theorem znk.of_row {W:World} {base:Nat} {t:TypeId} {v:Value} {xs:List Int} (h:W.ownsRow base t 1 v xs.length (zat xs)):znk W v xs:=by
 rcases zan h with ⟨rfl,h0⟩ | ⟨g,cap,rfl⟩
 ·exact .inl ⟨List.length_eq_zero_iff.1 h0,_,_,rfl⟩
 ·obtain ⟨_,hc,_,hg⟩:=zb0 h
  exact .inr ⟨g,cap,rfl,hc,hg,fun i hi=>zaq h (zgz xs i hi)⟩
theorem za7 {B:Nat} {a W:World} (h:Below B a W) (n:Nat):Below B a (W.drewN n):=⟨h.os,h.tape,h.output,h.size,h.block⟩
theorem znl {W:World} {base size n:Nat} {e:TypeId} {v:Value} {xs:List Value} (h:W.ownsRow base e size v n xs) (k:Nat):(W.drewN k).ownsRow base e size v n xs:=h
end Go.Proofs.YtekjnfldgjcgeaaGreatDoor
namespace Go.Proofs.YtekjnfldgjcgeaaGreatDoor
def isBl (c:Int):Bool:=c==32||c==9
def isAl (c:Int):Bool:=(decide (97<=c)&&decide (c<=122))||(decide (65<=c)&&decide (c<=90))
def isDc (c:Int):Bool:=decide (48<=c)&&decide (c<=57)
def isNm (c:Int):Bool:=isAl c||isDc c||c==45
def isSt (c:Int):Bool:=decide (32<=c)&&decide (c<=126)&&!(c==34)
def isCm (c:Int):Bool:=isBl c||(decide (33<=c)&&decide (c<=126))
def isRp (c:Int):Bool:=isAl c||isDc c||c==34||c==37||c==40||c==42||c==91
def dig (c:Int):Int:=if 48<=c/\c<=57 then c-48 else if 97<=c/\c<=102 then c-87 else if 65<=c/\c<=70 then c-55 else 16
def isDg (b c:Int):Bool:=decide (dig c<b)
def low (c:Int):Int:=if 65<=c/\c<=90 then c+32 else c
structure IsRun (P:Int->Bool) (f:Nat->Int) (p q:Nat):Prop where
 le:p<=q
 all:∀ i,p<=i->i<q->P (f i)=true
 stop:P (f q)=false
theorem IsRun.one {P:Int->Bool} {f:Nat->Int} {p q q':Nat} (h:IsRun P f p q) (h':IsRun P f p q'):q=q':=by
 rcases Nat.lt_trichotomy q q' with g | g | g
 ·have:=h'.all q h.le g
  rw [h.stop] at this
  cases this
 ·exact g
 ·have:=h.all q' h'.le g
  rw [h'.stop] at this
  cases this
open Classical in
noncomputable def zbp (P:Int->Bool) (f:Nat->Int) (p:Nat):Nat:=if h:∃ q,IsRun P f p q then h.choose else p
theorem IsRun.eq {P:Int->Bool} {f:Nat->Int} {p q:Nat} (h:IsRun P f p q):zbp P f p=q:=by
 have h2:∃ q,IsRun P f p q:=⟨q,h⟩
 unfold zbp
 rw [dif_pos h2]
 exact h2.choose_spec.one h
noncomputable def zbm (f:Nat->Int) (p:Nat):Nat:=if f p=59 then zbp isCm f (p+1) else p
noncomputable def zas (f:Nat->Int) (p:Nat):Option Nat :=
 if f (zbm f p)<0 then some (zbm f p) else if f (zbm f p)=10 then some (zbm f p+1) else if f (zbm f p)=13/\f (zbm f p+1)=10 then some (zbm f p+2) else none
inductive Skip (f:Nat->Int):Nat->Nat->Prop
 | blank {p q:Nat}:isBl (f p)=true->Skip f (p+1) q->Skip f p q
 | line {p e q:Nat}:isBl (f p)=false->zas f p=some e->isBl (f e)=true->Skip f (e+1) q->Skip f p q
 | here {p:Nat}:isBl (f p)=false->(∀ e,zas f p=some e->isBl (f e)=false)->Skip f p p
theorem Skip.one {f:Nat->Int} {p q q':Nat} (h:Skip f p q) (h':Skip f p q'):q=q':=by
 induction h with
 | blank hb _ ih =>
  cases h' with
  | blank _ k=>exact ih k
  | line k=>rw [hb] at k;cases k
  | here k=>rw [hb] at k;cases k
 | line hn hl hb _ ih =>
  cases h' with
  | blank k=>rw [hn] at k;cases k
  | line _ k2 _ k=>rw [hl] at k2;cases k2;exact ih k
  | here _ k=>have:=k _ hl;rw [hb] at this;cases this
 | here hn hl =>
  cases h' with
  | blank k=>rw [hn] at k;cases k
  | line _ k2 k3 _=>have:=hl _ k2;rw [k3] at this;cases this
  | here=>rfl
open Classical in
noncomputable def zad (f:Nat->Int) (p:Nat):Nat:=if h:∃ q,Skip f p q then h.choose else p
theorem Skip.eq {f:Nat->Int} {p q:Nat} (h:Skip f p q):zad f p=q:=by
 have h2:∃ q,Skip f p q:=⟨q,h⟩
 unfold zad
 rw [dif_pos h2]
 exact h2.choose_spec.one h
def cut (f:Nat->Int) (p n:Nat):List Int:=(List.range n).map fun i=>f (p+i)
def val (b:Int) (f:Nat->Int) (p:Nat):Nat->Int
 | 0=>0
 | n+1=>val b f p n*b+dig (f (p+n))
inductive Got (α:Type)
 | ok (x:α) (q:Nat)
 | err (c:Int)
noncomputable def zbl (b lim:Int) (f:Nat->Int) (p:Nat):Got Int :=
 if zbp (isDg b) f p=p then .err 20 else if lim<val b f p (zbp (isDg b) f p-p) then .err 2 else .ok (val b f p (zbp (isDg b) f p-p)) (zbp (isDg b) f p)
noncomputable def zcc (f:Nat->Int) (p:Nat):Got (List Int) :=
 if 40<zbp isNm f p-p then .err 2 else .ok ((cut f p (zbp isNm f p-p)).map low) (zbp isNm f p)
noncomputable def zb2 (f:Nat->Int) (p:Nat):Got (List Int) :=
 if f p=34 then if f (zbp isSt f (p+1))=34 then .ok (cut f (p+1) (zbp isSt f (p+1)-(p+1))) (zbp isSt f (p+1)+1) else .err 20 else .err 20
noncomputable def countAt (f:Nat->Int) (p:Nat):Got (Int × Int × Bool) :=
 match (if isDc (f p) then zbl 10 200 f p else .ok (-1) p) with
 | .err c=>.err c
 | .ok lo q =>
  if f q=42 then
   match (if isDc (f (q+1)) then zbl 10 200 f (q+1) else .ok (-1) (q+1)) with
   | .err c=>.err c
   | .ok hi q'=>.ok (max lo 0,hi,true) q'
  else .ok (max lo 0,max lo 0,decide (0<=lo)) q
inductive Tree
 | mk (kind:Int) (text:List Int) (nums:List Int) (lo hi:Int) (kids:List Tree)
def zmf (x:List Int):Tree:=.mk 5 (x.map low) [] 0 0 []
def refT (x:List Int):Tree:=.mk 4 x [] 0 0 []
def litT (x:List Int) (exact:Bool):Tree:=if exact=true/\x≠[] then .mk 6 [] x 0 0 [] else zmf x
def repT (lo hi:Int) (t:Tree):Tree:=.mk 3 [] [] lo hi [t]
def zgq (kind:Int):List Tree->Tree
 | [t]=>t
 | l=>.mk kind [] [] 0 0 l
inductive Pct
 | text (exact:Bool)
 | base (b:Int)
 | none
def zc0 (c:Int):Pct :=
 if c=115\/c=83 then .text true else if c=105\/c=73 then .text false else if c=98\/c=66 then .base 2 else if c=100\/c=68 then .base 10 else if c=120\/c=88 then .base 16 else .none
inductive Ask
 | alts
 | altMore (l:List Tree)
 | conc
 | concMore (l:List Tree)
 | rep
 | elem
 | nums (b:Int)
 | dots (b:Int) (l:List Int)
inductive Ans (f:Nat->Int):Ask->Nat->Nat->Got Tree->Prop
 | altsOk {d p q:Nat} {t:Tree} {r:Got Tree}:Ans f .conc d p (.ok t q)->Ans f (.altMore [t]) d q r->Ans f .alts d p r
 | altsErr {d p:Nat} {c:Int}:Ans f .conc d p (.err c)->Ans f .alts d p (.err c)
 | moreEnd {d p:Nat} {l:List Tree}:f p≠47->Ans f (.altMore l) d p (.ok (zgq 1 l) p)
 | moreOk {d p q:Nat} {l:List Tree} {t:Tree} {r:Got Tree}:f p=47->Ans f .conc d (zad f (p+1)) (.ok t q)->Ans f (.altMore (l++[t])) d q r->Ans f (.altMore l) d p r
 | moreErr {d p:Nat} {l:List Tree} {c:Int}:f p=47->Ans f .conc d (zad f (p+1)) (.err c)->Ans f (.altMore l) d p (.err c)
 | concOk {d p q:Nat} {t:Tree} {r:Got Tree}:Ans f .rep d p (.ok t q)->Ans f (.concMore [t]) d q r->Ans f .conc d p r
 | concErr {d p:Nat} {c:Int}:Ans f .rep d p (.err c)->Ans f .conc d p (.err c)
 | cmoreEnd {d p:Nat} {l:List Tree}:¬ (p<zad f p/\isRp (f (zad f p))=true)->Ans f (.concMore l) d p (.ok (zgq 2 l) (zad f p))
 | cmoreOk {d p q:Nat} {l:List Tree} {t:Tree} {r:Got Tree}:p<zad f p/\isRp (f (zad f p))=true->Ans f .rep d (zad f p) (.ok t q)->Ans f (.concMore (l++[t])) d q r->Ans f (.concMore l) d p r
 | cmoreErr {d p:Nat} {l:List Tree} {c:Int}:p<zad f p/\isRp (f (zad f p))=true->Ans f .rep d (zad f p) (.err c)->Ans f (.concMore l) d p (.err c)
 | repCount {d p:Nat} {c:Int}:countAt f p=.err c->Ans f .rep d p (.err c)
 | repErr {d p q:Nat} {c:Int} {x:Int × Int × Bool}:countAt f p=.ok x q->Ans f .elem d q (.err c)->Ans f .rep d p (.err c)
 | repBare {d p q q':Nat} {lo hi:Int} {t:Tree}:countAt f p=.ok (lo,hi,false) q->Ans f .elem d q (.ok t q')->Ans f .rep d p (.ok t q')
 | repLess {d p q q':Nat} {lo hi:Int} {t:Tree}:countAt f p=.ok (lo,hi,true) q->Ans f .elem d q (.ok t q')->0<=hi/\hi<lo->Ans f .rep d p (.err 20)
 | repOk {d p q q':Nat} {lo hi:Int} {t:Tree}:countAt f p=.ok (lo,hi,true) q->Ans f .elem d q (.ok t q')->¬ (0<=hi/\hi<lo)->Ans f .rep d p (.ok (repT lo hi t) q')
 | nameOk {d p q:Nat} {x:List Int}:isAl (f p)=true->zcc f p=.ok x q->Ans f .elem d p (.ok (refT x) q)
 | nameErr {d p:Nat} {c:Int}:isAl (f p)=true->zcc f p=.err c->Ans f .elem d p (.err c)
 | deep {d p:Nat}:f p=40\/f p=91->d=50->Ans f .elem d p (.err 2)
 | inErr {d p:Nat} {c:Int}:f p=40\/f p=91->d<50->Ans f .alts (d+1) (zad f (p+1)) (.err c)->Ans f .elem d p (.err c)
 | inOpen {d p q:Nat} {t:Tree}:f p=40\/f p=91->d<50->Ans f .alts (d+1) (zad f (p+1)) (.ok t q)->f q≠(if f p=40 then 41 else 93)->Ans f .elem d p (.err 20)
 | round {d p q:Nat} {t:Tree}:f p=40->d<50->Ans f .alts (d+1) (zad f (p+1)) (.ok t q)->f q=41->Ans f .elem d p (.ok t (q+1))
 | square {d p q:Nat} {t:Tree}:f p=91->d<50->Ans f .alts (d+1) (zad f (p+1)) (.ok t q)->f q=93->Ans f .elem d p (.ok (repT 0 1 t) (q+1))
 | quoteOk {d p q:Nat} {x:List Int}:f p=34->zb2 f p=.ok x q->Ans f .elem d p (.ok (zmf x) q)
 | quoteErr {d p:Nat} {c:Int}:f p=34->zb2 f p=.err c->Ans f .elem d p (.err c)
 | litOk {d p q:Nat} {x:List Int} {exact:Bool}:f p=37->zc0 (f (p+1))=.text exact->zb2 f (p+2)=.ok x q->Ans f .elem d p (.ok (litT x exact) q)
 | litErr {d p:Nat} {c:Int} {exact:Bool}:f p=37->zc0 (f (p+1))=.text exact->zb2 f (p+2)=.err c->Ans f .elem d p (.err c)
 | value {d p:Nat} {b:Int} {r:Got Tree}:f p=37->zc0 (f (p+1))=.base b->Ans f (.nums b) d (p+2) r->Ans f .elem d p r
 | valueNo {d p:Nat}:f p=37->zc0 (f (p+1))=.none->Ans f .elem d p (.err 20)
 | no {d p:Nat}:isAl (f p)=false->f p≠40->f p≠91->f p≠34->f p≠37->Ans f .elem d p (.err 20)
 | numsErr {d p:Nat} {b c:Int}:zbl b 1114111 f p=.err c->Ans f (.nums b) d p (.err c)
 | spanErr {d p q:Nat} {b v c:Int}:zbl b 1114111 f p=.ok v q->f q=45->zbl b 1114111 f (q+1)=.err c->Ans f (.nums b) d p (.err c)
 | spanLess {d p q q':Nat} {b v u:Int}:zbl b 1114111 f p=.ok v q->f q=45->zbl b 1114111 f (q+1)=.ok u q'->u<v->Ans f (.nums b) d p (.err 20)
 | span {d p q q':Nat} {b v u:Int}:zbl b 1114111 f p=.ok v q->f q=45->zbl b 1114111 f (q+1)=.ok u q'->¬ u<v->Ans f (.nums b) d p (.ok (.mk 7 [] [v,u] 0 0 []) q')
 | nums {d p q:Nat} {b v:Int} {r:Got Tree}:zbl b 1114111 f p=.ok v q->f q≠45->Ans f (.dots b [v]) d q r->Ans f (.nums b) d p r
 | dotsEnd {d p:Nat} {b:Int} {l:List Int}:f p≠46->Ans f (.dots b l) d p (.ok (.mk 6 [] l 0 0 []) p)
 | dotsErr {d p:Nat} {b c:Int} {l:List Int}:f p=46->zbl b 1114111 f (p+1)=.err c->Ans f (.dots b l) d p (.err c)
 | dotsOk {d p q:Nat} {b v:Int} {l:List Int} {r:Got Tree}:f p=46->zbl b 1114111 f (p+1)=.ok v q->Ans f (.dots b (l++[v])) d q r->Ans f (.dots b l) d p r
structure Rule where
 name:List Int
 more:Bool
 expr:Tree
noncomputable def eqAt (f:Nat->Int) (q:Nat):Nat:=if f (zad f q+1)=47 then zad f q+2 else zad f q+1
inductive RuleAt (f:Nat->Int):Nat->Got Rule->Prop
 | name {p:Nat} {c:Int}:zcc f p=.err c->RuleAt f p (.err c)
 | noEq {p q:Nat} {x:List Int}:zcc f p=.ok x q->f (zad f q)≠61->RuleAt f p (.err 20)
 | err {p q:Nat} {x:List Int} {c:Int}:zcc f p=.ok x q->f (zad f q)=61->Ans f .alts 0 (zad f (eqAt f q)) (.err c)->RuleAt f p (.err c)
 | noEnd {p q q':Nat} {x:List Int} {t:Tree}:zcc f p=.ok x q->f (zad f q)=61->Ans f .alts 0 (zad f (eqAt f q)) (.ok t q')->zas f q'=none->RuleAt f p (.err 20)
 | ok {p q q' e:Nat} {x:List Int} {t:Tree}:zcc f p=.ok x q->f (zad f q)=61->Ans f .alts 0 (zad f (eqAt f q)) (.ok t q')->zas f q'=some e ->
   RuleAt f p (.ok ⟨x,decide (f (zad f q+1)=47),t⟩ e)
inductive Rules (f:Nat->Int):List Rule->Nat->Got (List Rule)->Prop
 | done {l:List Rule} {p:Nat}:f p<0->Rules f l p (.ok l p)
 | empty {l:List Rule} {p e:Nat} {r:Got (List Rule)}:0<=f p->isAl (f p)=false->zas f (zbp isBl f p)=some e->Rules f l e r->Rules f l p r
 | bad {l:List Rule} {p:Nat}:0<=f p->isAl (f p)=false->zas f (zbp isBl f p)=none->Rules f l p (.err 20)
 | err {l:List Rule} {p:Nat} {c:Int}:isAl (f p)=true->RuleAt f p (.err c)->Rules f l p (.err c)
 | many {l:List Rule} {p q:Nat} {x:Rule}:isAl (f p)=true->RuleAt f p (.ok x q)->500<=l.length->Rules f l p (.err 2)
 | rule {l:List Rule} {p q:Nat} {x:Rule} {r:Got (List Rule)}:isAl (f p)=true->RuleAt f p (.ok x q)->l.length<500->Rules f (l++[x]) q r->Rules f l p r
end Go.Proofs.YtekjnfldgjcgeaaGreatDoor
namespace Go.Proofs.YtekjnfldgjcgeaaGreatDoor
def smB (c:Int):Bool:=decide (97<=c)&&decide (c<=122)
def nlB (c:Int):Bool:=smB c||isDc c||c==45
def zdc:List Int->Bool
 | []=>false
 | c::l=>decide ((c::l).length<=40)&&smB c&&(c::l).all nlB
def foB (c:Int):Bool:=decide (32<=c)&&decide (c<=126)&&!(c==34)&&!(decide (65<=c)&&decide (c<=90))
def numB (n:Int):Bool:=decide (0<=n)&&decide (n<=1114111)
def cntB (lo hi:Int):Bool:=decide (0<=lo)&&decide (lo<=200)&&(hi==-1||(decide (lo<=hi)&&decide (hi<=200)))
def ze4 (k:Int) (x ns:List Int) (lo hi:Int) (n:Nat):Bool :=
 if k=1\/k=2 then x.isEmpty&&ns.isEmpty&&lo==0&&hi==0&&decide (2<=n)
 else if k=3 then x.isEmpty&&ns.isEmpty&&decide (n=1)&&cntB lo hi
 else if k=4 then ns.isEmpty&&lo==0&&hi==0&&decide (n=0)&&zdc x
 else if k=5 then ns.isEmpty&&lo==0&&hi==0&&decide (n=0)&&x.all foB
 else if k=6 then x.isEmpty&&lo==0&&hi==0&&decide (n=0)&&decide (1<=ns.length)&&decide (ns.length<=10000)&&ns.all numB
 else if k=7 then x.isEmpty&&lo==0&&hi==0&&decide (n=0)&&decide (ns.length=2)&&ns.all numB&&decide (ns.getD 0 0<=ns.getD 1 0)
 else false
def zax:Nat->Tree->Bool
 | 0,.mk k x ns lo hi kids=>ze4 k x ns lo hi kids.length&&kids.isEmpty
 | d+1,.mk k x ns lo hi kids=>ze4 k x ns lo hi kids.length&&kids.all (zax d)
def hexC (n:Nat):Int:=if n<10 then 48+n else 55+n
def hexF:Nat->Nat->List Int
 | 0,_=>[]
 | f+1,n=>(if n<16 then [] else hexF f (n / 16))++[hexC (n%16)]
def hexT (n:Nat):List Int:=if n<16 then [48,hexC n] else hexF 6 n
def decF:Nat->Nat->List Int
 | 0,_=>[]
 | f+1,n=>(if n<10 then [] else decF f (n / 10))++[48+((n%10:Nat):Int)]
def decT (n:Nat):List Int:=decF 20 n
def sepT (s:List Int):List (List Int)->List Int
 | []=>[]
 | [x]=>x
 | x::y::l=>x++s++sepT s (y::l)
def Tree.kind:Tree->Int
 | .mk k _ _ _ _ _=>k
def cntT (lo hi:Int):List Int :=
 if hi=0 then [48] else (if 0<lo then decT lo.toNat else [])++(if hi=lo then [] else [42]++(if 0<=hi then decT hi.toNat else []))
def brT (b:Bool) (x:List Int):List Int:=if b=true then [40]++x++[41] else x
def zgl (f:Tree->List Int):Tree->List Int
 | .mk k x ns lo hi kids =>
  if k=1 then sepT [32,47,32] (kids.map fun t=>brT (t.kind==1) (f t))
  else if k=2 then sepT [32] (kids.map fun t=>brT (t.kind==1||t.kind==2) (f t))
  else if k=3 then
   if lo=0/\hi=1 then [91]++(kids.map f).flatten++[93]
   else cntT lo hi++(kids.map fun t=>brT (t.kind==1||t.kind==2||t.kind==3) (f t)).flatten
  else if k=4 then x
  else if k=5 then [34]++x++[34]
  else [37,120]++sepT (if k=6 then [46] else [45]) (ns.map fun n=>hexT n.toNat)
def zaf:Nat->Tree->List Int
 | 0,t=>zgl (fun _=>[]) t
 | d+1,t=>zgl (zaf d) t
def zb9 (r:Rule):List Int:=r.name++(if r.more=true then [32,61,47,32] else [32,61,32])++zaf 50 r.expr++[10]
def zl4 (l:List Rule):Bool:=l.all fun r=>zdc r.name&&zax 50 r.expr
end Go.Proofs.YtekjnfldgjcgeaaGreatDoor
namespace Go.Proofs.YtekjnfldgjcgeaaGreatDoor
structure GR where
 name:List Int
 expr:Tree
def zay:List GR->List Int->Option Nat
 | [],_=>none
 | r::g,x=>if r.name=x then some 0 else (zay g x).map (·+1)
def zh0 (g:List GR) (x:List Int):Int:=match zay g x with
 | some i=>i
 | none=>-1
theorem zg9 {x:List Int}:∀ {g:List GR},zay g x=none ↔ ∀ r∈g,r.name≠x
 | []=>by simp [zay]
 | r::g=>by
  unfold zay
  by_cases h:r.name=x
  ·simp [h]
  ·rw [if_neg h,Option.map_eq_none_iff,zg9]
   simp [h]
theorem zbv {x:List Int}:∀ {g:List GR} {i:Nat},zay g x=some i ↔ (∃ r,g[i]?=some r/\r.name=x)/\∀ j r,j<i->g[j]?=some r->r.name≠x
 | [],i=>by simp [zay]
 | r::g,i=>by
  unfold zay
  by_cases h:r.name=x
  ·rw [if_pos h]
   constructor
   ·intro e
    have:=Option.some.inj e
    subst this
    exact ⟨⟨r,rfl,h⟩,fun j r' hj=>by omega⟩
   ·rintro ⟨_,h2⟩
    cases i with
    | zero=>rfl
    | succ i=>exact absurd h (h2 0 r (by omega) rfl)
  ·rw [if_neg h]
   cases i with
   | zero =>
    constructor
    ·intro e
     cases hf:zay g x<;>rw [hf] at e<;>simp at e
    ·rintro ⟨⟨r',h1,h2⟩,_⟩
     simp at h1
     subst h1
     exact absurd h2 h
   | succ i =>
    have ih:=zbv (x:=x) (g:=g) (i:=i)
    constructor
    ·intro e
     cases hf:zay g x with
     | none=>rw [hf] at e;simp at e
     | some k =>
      rw [hf] at e
      simp at e
      subst e
      obtain ⟨⟨r',h1,h2⟩,h3⟩:=ih.1 hf
      refine ⟨⟨r',h1,h2⟩,fun j r'' hj hr=>?_⟩
      cases j with
      | zero=>simp at hr;subst hr;exact h
      | succ j=>exact h3 j r'' (by omega) hr
    ·rintro ⟨⟨r',h1,h2⟩,h3⟩
     have:=ih.2 ⟨⟨r',h1,h2⟩,fun j r'' hj hr=>h3 (j+1) r'' (by omega) hr⟩
     rw [this]
     rfl
theorem zmg {g:List GR} {x:List Int} {i:Nat} (h:zay g x=some i):i<g.length:=by
 obtain ⟨⟨r,h1,_⟩,_⟩:=zbv.1 h
 exact (List.getElem?_eq_some_iff.1 h1).1
theorem zeb {g:List GR} {x:List Int} {i:Nat} (h:zay g x=some i):zh0 g x=i:=by unfold zh0;rw [h]
theorem zey {g:List GR} {x:List Int} (h:zay g x=none):zh0 g x=-1:=by unfold zh0;rw [h]
def zai:Tree->List (List Int)
 | .mk k x _ _ _ kids=>(if k=4 then [x] else [])++(kids.map zai).flatten
theorem zdt (k lo hi:Int) (x ns:List Int) (kids:List Tree):zai (.mk k x ns lo hi kids)=(if k=4 then [x] else [])++(kids.map zai).flatten:=by rw [zai]
def zbt:Tree->List Tree
 | .mk k x ns lo hi kids=>if k=1 then kids else [.mk k x ns lo hi kids]
def zeh (a b:Tree):Tree:=.mk 1 [] [] 0 0 (zbt a++zbt b)
def zcv (g:List GR) (l:Rule):Option (List GR) :=
 match zay g l.name with
 | none=>if l.more=true then none else some (g++[⟨l.name,l.expr⟩])
 | some i=>if l.more=true then (g[i]?).map fun r=>g.set i ⟨r.name,zeh r.expr l.expr⟩ else none
def zbf:List GR->List Rule->Option (List GR)
 | g,[]=>some g
 | g,l::ls=>(zcv g l).bind fun g'=>zbf g' ls
theorem zc3 (g:List GR) (l:Rule) (ls:List Rule):zbf g (l::ls)=(zcv g l).bind fun g'=>zbf g' ls:=rfl
def rfT (s:List Int):Tree:=.mk 4 s [] 0 0 []
def foT (s:List Int):Tree:=.mk 5 s [] 0 0 []
def nuT (n:Int):Tree:=.mk 6 [] [n] 0 0 []
def spT (a b:Int):Tree:=.mk 7 [] [a,b] 0 0 []
def alT (l:List Tree):Tree:=.mk 1 [] [] 0 0 l
def seT (l:List Tree):Tree:=.mk 2 [] [] 0 0 l
def znn:List Int:=[97,108,112,104,97]
def nBit:List Int:=[98,105,116]
def qbd:List Int:=[99,104,97,114]
def nCr:List Int:=[99,114]
def zgm:List Int:=[99,114,108,102]
def nCtl:List Int:=[99,116,108]
def zbb:List Int:=[100,105,103,105,116]
def zpm:List Int:=[100,113,117,111,116,101]
def zje:List Int:=[104,101,120,100,105,103]
def zkz:List Int:=[104,116,97,98]
def nLf:List Int:=[108,102]
def zub:List Int:=[108,119,115,112]
def zuc:List Int:=[111,99,116,101,116]
def nSp:List Int:=[115,112]
def zud:List Int:=[118,99,104,97,114]
def nWsp:List Int:=[119,115,112]
def zbs:List GR:=[
 ⟨znn,alT [spT 65 90,spT 97 122]⟩,⟨nBit,alT [foT [48],foT [49]]⟩,⟨qbd,spT 1 127⟩,⟨nCr,nuT 13⟩,⟨zgm,seT [rfT nCr,rfT nLf]⟩,⟨nCtl,alT [spT 0 31,nuT 127]⟩,⟨zbb,spT 48 57⟩,⟨zpm,nuT 34⟩,
 ⟨zje,alT [rfT zbb,foT [97],foT [98],foT [99],foT [100],foT [101],foT [102]]⟩,⟨zkz,nuT 9⟩,⟨nLf,nuT 10⟩,⟨zub,.mk 3 [] [] 0 (-1) [alT [rfT nWsp,seT [rfT zgm,rfT nWsp]]]⟩,⟨zuc,spT 0 255⟩,⟨nSp,nuT 32⟩,⟨zud,spT 33 126⟩,⟨nWsp,alT [rfT nSp,rfT zkz]⟩]
def addM (g:List GR) (x:List Int):Option (List GR) :=
 match zay g x with
 | some _=>some g
 | none=>match zay zbs x with
  | none=>none
  | some c=>(zbs[c]?).map fun r=>g++[r]
def zbn:List GR->List (List Int)->Option (List GR)
 | g,[]=>some g
 | g,x::xs=>(addM g x).bind fun g'=>zbn g' xs
theorem ze5:∀ (xs ys:List (List Int)) (g:List GR),zbn g (xs++ys)=(zbn g xs).bind fun g'=>zbn g' ys
 | [],ys,g=>rfl
 | x::xs,ys,g=>by
  show (addM g x).bind (fun g'=>zbn g' (xs++ys))=((addM g x).bind fun g'=>zbn g' xs).bind fun g'=>zbn g' ys
  cases addM g x with
  | none=>rfl
  | some g'=>exact ze5 xs ys g'
inductive Compl:Nat->Nat->List GR->Option (List GR)->Prop
 | done {i:Nat} {g:List GR}:g.length<=i->Compl 0 i g (some g)
 | fail {i:Nat} {g:List GR} {r:GR}:g[i]?=some r->zbn g (zai r.expr)=none->Compl 1 i g none
 | step {n i:Nat} {g g':List GR} {r:GR} {R:Option (List GR)}:g[i]?=some r->zbn g (zai r.expr)=some g'->Compl n (i+1) g' R->Compl (n+1) i g R
theorem Compl.one {n i:Nat} {g:List GR} {R:Option (List GR)} (h:Compl n i g R):∀ {n':Nat} {R':Option (List GR)},Compl n' i g R'->n=n'/\R=R':=by
 induction h with
 | done h =>
  intro n' R' h'
  cases h' with
  | done=>exact ⟨rfl,rfl⟩
  | fail h1=>have:=(List.getElem?_eq_some_iff.1 h1).1;omega
  | step h1=>have:=(List.getElem?_eq_some_iff.1 h1).1;omega
 | fail h1 h2 =>
  intro n' R' h'
  cases h' with
  | done h=>have:=(List.getElem?_eq_some_iff.1 h1).1;omega
  | fail=>exact ⟨rfl,rfl⟩
  | step h3 h4 =>
   have e:=Option.some.inj (h1.symm.trans h3)
   subst e
   rw [h2] at h4
   cases h4
 | step h1 h2 _ ih =>
  intro n' R' h'
  cases h' with
  | done h=>have:=(List.getElem?_eq_some_iff.1 h1).1;omega
  | fail h3 h4 =>
   have e:=Option.some.inj (h1.symm.trans h3)
   subst e
   rw [h2] at h4
   cases h4
  | step h3 h4 h5 =>
   have e:=Option.some.inj (h1.symm.trans h3)
   subst e
   rw [h2] at h4
   have e:=Option.some.inj h4
   subst e
   obtain ⟨a,b⟩:=ih h5
   exact ⟨by rw [a],b⟩
def zce (g:List GR):Nat:=(zbs.filter fun r=>(zay g r.name).isNone).length
theorem zdu {g h:List GR} {x:List Int}:zay (g++h) x=match zay g x with
 | some i=>some i
 | none=>(zay h x).map (·+g.length):=by
 induction g with
 | nil=>simp [zay]
 | cons r g ih =>
  simp only [List.cons_append,zay]
  by_cases e:r.name=x
  ·rw [if_pos e,if_pos e]
  ·rw [if_neg e,if_neg e,ih]
   cases zay g x with
   | some i=>rfl
   | none =>
    cases zay h x with
    | none=>rfl
    | some k=>simp;omega
theorem zjf {α:Type} (p q:α->Bool) (hpq:∀ x,q x=true->p x=true):∀ (l:List α) (c:α),c∈l->p c=true->q c=false->(l.filter q).length<(l.filter p).length
 | [],c,h,_,_=>by cases h
 | a::l,c,h,hp,hq=>by
  have le:∀ l:List α,(l.filter q).length<=(l.filter p).length:=fun l=>by
   induction l with
   | nil=>simp
   | cons b l ih =>
    by_cases hb:q b=true
    ·simp [hb,hpq b hb,ih]
    ·by_cases hb2:p b=true
     ·simp [hb,hb2];omega
     ·simp [hb,hb2,ih]
  rcases List.mem_cons.1 h with rfl | h
  ·have:=le l
   simp [hp,hq]
   omega
  ·have ih:=zjf p q hpq l c h hp hq
   by_cases hb:q a=true
   ·simp [hb,hpq a hb,ih]
   ·by_cases hb2:p a=true
    ·simp [hb,hb2];omega
    ·simp [hb,hb2,ih]
theorem zl5 {g g':List GR} {x:List Int} (h:addM g x=some g'):g'.length+zce g'<=g.length+zce g/\g.length<=g'.length:=by
 unfold addM at h
 cases hg:zay g x with
 | some i =>
  rw [hg] at h
  simp at h
  subst h
  omega
 | none =>
  rw [hg] at h
  cases hc:zay zbs x with
  | none=>rw [hc] at h;simp at h
  | some c =>
   rw [hc] at h
   obtain ⟨⟨r,h1,h2⟩,_⟩:=zbv.1 hc
   simp only [h1,Option.map_some] at h
   have e:=Option.some.inj h
   subst e
   refine ⟨?_,by simp⟩
   have:zce (g++[r])<zce g:=by
    unfold zce
    refine zjf (fun r=>(zay g r.name).isNone) (fun u=>(zay (g++[r]) u.name).isNone) (fun u hu=>?_) zbs r (List.mem_of_getElem? h1) (by simp [h2,hg]) ?_
    ·simp only [zdu] at hu
     cases hf:zay g u.name with
     | none=>rfl
     | some i=>rw [hf] at hu;simp at hu
    ·simp [zdu,zay,h2,hg]
   simp
   omega
theorem zdv:∀ {xs:List (List Int)} {g g':List GR},zbn g xs=some g'->g'.length+zce g'<=g.length+zce g/\g.length<=g'.length
 | [],g,g',h=>by
  have e:=Option.some.inj h
  subst e
  omega
 | x::xs,g,g',h=>by
  change (addM g x).bind (fun g'=>zbn g' xs)=some g' at h
  cases hm:addM g x with
  | none=>rw [hm] at h;simp at h
  | some g1 =>
   rw [hm] at h
   have h1:=zl5 hm
   have h2:=zdv (xs:=xs) (g:=g1) (g':=g') h
   omega
theorem Compl.is:∀ (k i:Nat) (g:List GR),g.length+zce g<=i+k->∃ n R,Compl n i g R
 | 0,i,g,h=>⟨0,_,.done (by omega)⟩
 | k+1,i,g,h=>by
  by_cases hi:g.length<=i
  ·exact ⟨0,_,.done hi⟩
  ·have hr:g[i]?=some g[i]:=List.getElem?_eq_getElem (by omega)
   cases ha:zbn g (zai g[i].expr) with
   | none=>exact ⟨1,_,.fail hr ha⟩
   | some g' =>
    have:=zdv ha
    obtain ⟨n,R,h'⟩:=Compl.is k (i+1) g' (by omega)
    exact ⟨n+1,R,.step hr ha h'⟩
def zcm (l:List Rule) (g:List GR) (e:Int):Prop :=
 ((l.all fun r=>zdc r.name&&zax 50 r.expr)=false/\g=[]/\e=1) \/
 ((l.all fun r=>zdc r.name&&zax 50 r.expr)=true/\((zbf [] l=none/\g=[]/\e=41) \/
  ∃ g0 n R,zbf [] l=some g0/\Compl n 0 g0 R/\((R=none/\g=[]/\e=40)\/(R=some g/\e=0))))
theorem zcm.one {l:List Rule} {g g':List GR} {e e':Int} (h:zcm l g e) (h':zcm l g' e'):g=g'/\e=e':=by
 rcases h with ⟨a,rfl,rfl⟩ | ⟨a,h⟩<;>rcases h' with ⟨a',rfl,rfl⟩ | ⟨a',h'⟩
 ·exact ⟨rfl,rfl⟩
 ·rw [a] at a';cases a'
 ·rw [a] at a';cases a'
 rcases h with ⟨b,rfl,rfl⟩ | ⟨g0,n,R,b,c,d⟩<;>rcases h' with ⟨b',rfl,rfl⟩ | ⟨g0',n',R',b',c',d'⟩
 ·exact ⟨rfl,rfl⟩
 ·rw [b] at b';cases b'
 ·rw [b] at b';cases b'
 rw [b] at b'
 have e0:=Option.some.inj b'
 subst e0
 obtain ⟨_,rfl⟩:=c.one c'
 rcases d with ⟨rfl,rfl,rfl⟩ | ⟨rfl,rfl⟩<;>rcases d' with ⟨d1,rfl,rfl⟩ | ⟨d1,rfl⟩
 ·exact ⟨rfl,rfl⟩
 ·cases d1
 ·cases d1
 ·exact ⟨Option.some.inj d1,rfl⟩
end Go.Proofs.YtekjnfldgjcgeaaGreatDoor
namespace Go.Proofs.YtekjnfldgjcgeaaGreatDoor
open Go.RowKit
def zd3 (b:Bool) (w:World) (e:Ending) (w':World):Prop:=e=.returned (.bool b)/\w=w'
def SaysI (n:Int) (w:World) (e:Ending) (w':World):Prop:=e=.returned (.int .i64 n)/\w=w'
def byt (c:Int):UInt8:=UInt8.ofNat c.toNat
def za3 (x:List Int):ByteArray:=⟨(x.map byt).toArray⟩
theorem zcf (x:List Int):(za3 x).data.toList=x.map byt:=by unfold za3;simp
theorem za9 (x:List Int):(za3 x).size=x.length:=by unfold za3;show (List.toArray _).size=_;simp
structure XV where
 kind:Int
 text:ByteArray
 ns:Value
 lo:Int
 hi:Int
 ks:Value
def XV.cells (x:XV):List Value:=[.int .i64 x.kind,.string x.text,x.ns,.int .i64 x.lo,.int .i64 x.hi,x.ks]
def XV.val (x:XV):Value:=.agg #[.int .i64 x.kind,.string x.text,x.ns,.int .i64 x.lo,.int .i64 x.hi,x.ks]
def KV (t:TypeId):Prop:=t=35\/t=3\/t=37
def BlkV (W:World) (g:Nat):Prop:=∃ (c:Array Value) (t:TypeId),KV t/\W.heap[g]?=some (.cells c t (0,0))
def zei (W:World) (P:Nat->Prop) (v:Value) (n:Nat) (xs:List Value):Prop :=
 (v=.slice none 0 0/\n=0)\/∃ g cap,v=.slice (some ⟨g,0,none⟩) n cap/\n<=cap/\cap<=maxLen/\P g/\g<W.heap.size/\BlkV W g/\∀ (j:Nat) (u:Value),xs[j]?=some u->W.cell? ⟨g,j,none⟩=some u
inductive TreeAt (W:World) (P:Nat->Prop):XV->Tree->Prop
 | mk {k lo hi:Int} {ns ks:Value} {x nums:List Int} {kids:List Tree} (vs:List XV) :
   zei W P ns nums.length (zat nums)->zei W P ks kids.length (vs.flatMap XV.cells)->vs.length=kids.length ->
   (∀ (i:Nat) (y:XV) (t:Tree),vs[i]?=some y->kids[i]?=some t->TreeAt W P y t)->TreeAt W P ⟨k,za3 x,ns,lo,hi,ks⟩ (.mk k x nums lo hi kids)
theorem zei.kept {W W':World} {P P':Nat->Prop} {v:Value} {n:Nat} {xs:List Value} (h:zei W P v n xs) (hk:∀ b,P b->b<W.heap.size->W'.heap[b]?=W.heap[b]?/\P' b) (hs:W.heap.size<=W'.heap.size):zei W' P' v n xs:=by
 rcases h with h | ⟨g,cap,hv,hc,hm,hP,hg,hb,h⟩
 ·exact .inl h
 ·refine .inr ⟨g,cap,hv,hc,hm,(hk g hP hg).2,Nat.lt_of_lt_of_le hg hs,?_,fun j u hj=>?_⟩
  ·obtain ⟨c,t,ht,hb⟩:=hb
   exact ⟨c,t,ht,(hk g hP hg).1.trans hb⟩
  ·rw [World.cell?_of_block (w:=W) (hk g hP hg).1]
   exact h j u hj
theorem TreeAt.kept {W W':World} {P P':Nat->Prop} {x:XV} {t:Tree} (h:TreeAt W P x t) (hk:∀ b,P b->b<W.heap.size->W'.heap[b]?=W.heap[b]?/\P' b) (hs:W.heap.size<=W'.heap.size):TreeAt W' P' x t:=by
 induction h with
 | mk vs h1 h2 h3 _ ih=>exact .mk vs (h1.kept hk hs) (h2.kept hk hs) h3 ih
theorem TreeAt.under {W W':World} {P:Nat->Prop} {x:XV} {t:Tree} (h:TreeAt W P x t) (hb:Below W.heap.size W W'):TreeAt W' P x t:=h.kept (fun b hP hl=>⟨hb.block b hl,hP⟩) hb.size
theorem TreeAt.weak {W:World} {P P':Nat->Prop} {x:XV} {t:Tree} (h:TreeAt W P x t) (hk:∀ b,P b->b<W.heap.size->P' b):TreeAt W P' x t:=h.kept (fun b hP hl=>⟨rfl,hk b hP hl⟩) (Nat.le_refl _)
theorem zei.nil (W:World) (P:Nat->Prop) (xs:List Value):zei W P (.slice none 0 0) 0 xs:=.inl ⟨rfl,rfl⟩
theorem zei.of_row {W:World} {P:Nat->Prop} {base size n:Nat} {e:TypeId} {v:Value} {xs:List Value} (h:W.ownsRow base e size v n xs) (hP:∀ b,base<=b->P b) (he:KV e:=by unfold KV;decide):zei W P v n xs:=by
 have h0:=h
 rcases zan h with h0 | ⟨g,cap,rfl⟩
 ·exact .inl h0
 ·obtain ⟨hb,hc,hm,hg⟩:=zb0 h
  refine .inr ⟨g,cap,rfl,hc,hm,hP g hb,hg,?_,fun j u hj=>zaq h hj⟩
  rcases h.2 with ⟨hn,_⟩ | ⟨g',cap',cur,hv,_,hblk,_⟩
  ·cases hn
  ·simp at hv
   obtain ⟨rfl,_⟩:=hv
   exact ⟨_,_,he,hblk⟩
theorem zd4 (W:World) (P:Nat->Prop) (k lo hi:Int) (x:List Int):TreeAt W P ⟨k,za3 x,.slice none 0 0,lo,hi,.slice none 0 0⟩ (.mk k x [] lo hi []) :=
 .mk [] (zei.nil _ _ _) (zei.nil _ _ _) rfl (fun i y t h=>by simp at h)
theorem zez:za3 []=⟨#[]⟩:=rfl
theorem zfr {W:World} {P:Nat->Prop} {base:Nat} {v:Value} (k:Int) {nums:List Int} (h:W.ownsRow base 3 1 v nums.length (zat nums)) (hP:∀ b,base<=b->P b) :
  TreeAt W P ⟨k,⟨#[]⟩,v,0,0,.slice none 0 0⟩ (.mk k [] nums 0 0 []) :=
 TreeAt.mk (x:=[]) (kids:=[]) [] (zei.of_row h hP) (zei.nil _ _ _) rfl (fun i y t h=>by simp at h)
def zbq (W:World) (base:Nat) (v:Value) (l:List Tree):Prop :=
 ∃ vs:List XV,vs.length=l.length/\W.ownsRow base 35 6 v l.length (vs.flatMap XV.cells)/\∀ (i:Nat) (y:XV) (t:Tree),vs[i]?=some y->l[i]?=some t->TreeAt W (fun b=>base<=b/\some b≠v.ownBlock) y t
theorem zbq.kept {W W':World} {base:Nat} {v:Value} {l:List Tree} (h:zbq W base v l) (hk:∀ b,base<=b->b<W.heap.size->W'.heap[b]?=W.heap[b]?) (hs:W.heap.size<=W'.heap.size):zbq W' base v l:=by
 obtain ⟨vs,h1,h2,h3⟩:=h
 refine ⟨vs,h1,?_,fun i y t hy ht=>(h3 i y t hy ht).kept (fun b hP hl=>⟨hk b hP.1 hl,hP⟩) hs⟩
 refine ⟨h2.1,?_⟩
 rcases h2.2 with hn | ⟨g,cap,cur,hv,hb,hg,rest⟩
 ·exact .inl hn
 ·exact .inr ⟨g,cap,cur,hv,hb,(hk g hb (Array.getElem?_eq_some_iff.1 hg).1).trans hg,rest⟩
theorem zbq.grown {W W':World} {base R:Nat} {v:Value} {l:List Tree} (h:zbq W base v l) (hg:W.grownBy W' (some R)) (hR:R<base):zbq W' base v l :=
 h.kept (fun b hb hl=>hg.block b hl (fun e=>by cases e;omega)) hg.size
theorem zbq.below {W W':World} {base:Nat} {v:Value} {l:List Tree} (h:zbq W base v l) (hb:Below W.heap.size W W'):zbq W' base v l:=h.kept (fun b _ hl=>hb.block b hl) hb.size
theorem ziu (vs:List XV):(vs.flatMap XV.cells).length=vs.length*6:=by
 induction vs with
 | nil=>rfl
 | cons x vs ih=>simp [XV.cells] at ih ⊢;omega
theorem zc9 (vs:List XV) (i j:Nat) (x:XV) (h:vs[i]?=some x) (hj:j<6):(vs.flatMap XV.cells)[i*6+j]?=x.cells[j]?:=by
 induction vs generalizing i with
 | nil=>simp at h
 | cons y vs ih =>
  cases i with
  | zero =>
   simp at h
   subst h
   simp only [List.flatMap_cons,Nat.zero_mul,Nat.zero_add]
   rw [List.getElem?_append_left (by simp [XV.cells];exact hj)]
  | succ i =>
   simp at h
   have:=ih i h
   simp only [List.flatMap_cons]
   rw [List.getElem?_append_right (by simp [XV.cells];omega),show (i+1)*6+j-(XV.cells y).length=i*6+j by simp [XV.cells];omega]
   exact this
theorem zbq.push {W W':World} {base:Nat} {v v':Value} {l:List Tree} {t:Tree} {x:XV} {vs:List XV} (h1:vs.length=l.length) (h2:W.ownsRow base 35 6 v l.length (vs.flatMap XV.cells))
  (h3:∀ (i:Nat) (y:XV) (t:Tree),vs[i]?=some y->l[i]?=some t->TreeAt W (fun b=>base<=b/\some b≠v.ownBlock) y t) (hx:TreeAt W (fun b=>base<=b/\some b≠v.ownBlock) x t)
  (hown:W'.ownsRow base 35 6 v' (l.length+1) (vs.flatMap XV.cells++x.cells)) (hg:W.grownBy W' v.ownBlock) (hat:v'.ownBlock=v.ownBlock\/∃ k,v'.ownBlock=some k/\W.heap.size<=k):zbq W' base v' (l++[t]):=by
 have key:∀ (y:XV) (u:Tree),TreeAt W (fun b=>base<=b/\some b≠v.ownBlock) y u->TreeAt W' (fun b=>base<=b/\some b≠v'.ownBlock) y u:=by
  intro y u hy
  refine hy.kept (fun b hP hl=>⟨hg.block b hl hP.2,hP.1,?_⟩) hg.size
  rcases hat with e | ⟨k,e,hk⟩
  ·rw [e];exact hP.2
  ·rw [e];intro g;cases g;omega
 refine ⟨vs++[x],by simp [h1],by simpa using hown,fun i y u hy hu=>?_⟩
 by_cases hi:i<l.length
 ·rw [List.getElem?_append_left (by omega)] at hy
  rw [List.getElem?_append_left hi] at hu
  exact key y u (h3 i y u hy hu)
 ·have hi0:i=l.length:=by
   have:=(List.getElem?_eq_some_iff.1 hu).1
   simp at this;omega
  subst hi0
  rw [List.getElem?_append_right (by omega),h1] at hy
  rw [List.getElem?_append_right (by omega)] at hu
  simp at hy hu
  subst hy hu
  exact key x t hx
theorem zbq.one {W W':World} {base g:Nat} {t:Tree} {x:XV} (hx:TreeAt W (fun b=>base<=b) x t) (hg:W.heap.size<=g) (hb:base<=g) (hblk:W'.heap[g]?=some (.cells #[.int .i64 x.kind,.string x.text,x.ns,.int .i64 x.lo,.int .i64 x.hi,x.ks] 35 (0,0)))
  (hk:∀ b,base<=b->b<W.heap.size->W'.heap[b]?=W.heap[b]?) (hs:W.heap.size<=W'.heap.size):zbq W' base (.slice (some ⟨g,0,none⟩) 1 1) [t]:=by
 refine ⟨[x],rfl,row_of_block hb hblk (by unfold maxLen;omega) rfl,fun i y u hy hu=>?_⟩
 have hi:i=0:=by
  have:=(List.getElem?_eq_some_iff.1 hu).1
  simp at this;omega
 subst hi
 simp at hy hu
 subst hy hu
 exact hx.kept (fun b hP hl=>⟨hk b hP hl,hP,fun e=>by simp [Value.ownBlock] at e;omega⟩) hs
theorem zbq.tree {W:World} {base:Nat} {v:Value} {l:List Tree} (h:zbq W base v l) (k lo hi:Int):TreeAt W (fun b=>base<=b) ⟨k,⟨#[]⟩,.slice none 0 0,lo,hi,v⟩ (.mk k [] [] lo hi l):=by
 obtain ⟨vs,h1,h2,h3⟩:=h
 exact TreeAt.mk (x:=[]) (nums:=[]) vs (zei.nil _ _ _) (zei.of_row h2 (fun b hb=>hb)) h1 (fun i y t hy ht=>(h3 i y t hy ht).weak (fun b hP _=>hP.1))
def zf0 (base:Nat) (t:Tree) (w:World) (e:Ending) (w':World):Prop :=
 ∃ x:XV,TreeAt w' (fun b=>base<=b) x t/\e=.returned x.val/\Below w.heap.size w w'
structure LV where
 name:ByteArray
 more:Bool
 expr:XV
def LV.arr (y:LV):Array Value:=#[.string y.name,.bool y.more,.int .i64 y.expr.kind,.string y.expr.text,y.expr.ns,.int .i64 y.expr.lo,.int .i64 y.expr.hi,y.expr.ks]
def LV.val (y:LV):Value:=.agg y.arr
def zej (W:World) (P:Nat->Prop) (y:LV) (r:Rule):Prop:=y.name=za3 r.name/\y.more=r.more/\TreeAt W P y.expr r.expr
def LV.cells (y:LV):List Value:=[.string y.name,.bool y.more,.int .i64 y.expr.kind,.string y.expr.text,y.expr.ns,.int .i64 y.expr.lo,.int .i64 y.expr.hi,y.expr.ks]
def zb4 (W:World) (base:Nat) (v:Value) (l:List Rule):Prop :=
 ∃ ys:List LV,ys.length=l.length/\W.ownsRow base 37 8 v l.length (ys.flatMap LV.cells)/\∀ (i:Nat) (y:LV) (r:Rule),ys[i]?=some y->l[i]?=some r->zej W (fun b=>base<=b/\some b≠v.ownBlock) y r
theorem zej.kept {W W':World} {P P':Nat->Prop} {y:LV} {r:Rule} (h:zej W P y r) (hk:∀ b,P b->b<W.heap.size->W'.heap[b]?=W.heap[b]?/\P' b) (hs:W.heap.size<=W'.heap.size):zej W' P' y r:=⟨h.1,h.2.1,h.2.2.kept hk hs⟩
theorem zb4.kept {W W':World} {base:Nat} {v:Value} {l:List Rule} (h:zb4 W base v l) (hk:∀ b,base<=b->b<W.heap.size->W'.heap[b]?=W.heap[b]?) (hs:W.heap.size<=W'.heap.size):zb4 W' base v l:=by
 obtain ⟨vs,h1,h2,h3⟩:=h
 refine ⟨vs,h1,?_,fun i y t hy ht=>(h3 i y t hy ht).kept (fun b hP hl=>⟨hk b hP.1 hl,hP⟩) hs⟩
 refine ⟨h2.1,?_⟩
 rcases h2.2 with hn | ⟨g,cap,cur,hv,hb,hg,rest⟩
 ·exact .inl hn
 ·exact .inr ⟨g,cap,cur,hv,hb,(hk g hb (Array.getElem?_eq_some_iff.1 hg).1).trans hg,rest⟩
theorem zb4.grown {W W':World} {base R:Nat} {v:Value} {l:List Rule} (h:zb4 W base v l) (hg:W.grownBy W' (some R)) (hR:R<base):zb4 W' base v l :=
 h.kept (fun b hb hl=>hg.block b hl (fun e=>by have:=Option.some.inj e;omega)) hg.size
theorem zb4.below {W W':World} {base:Nat} {v:Value} {l:List Rule} (h:zb4 W base v l) (hb:Below W.heap.size W W'):zb4 W' base v l:=h.kept (fun b _ hl=>hb.block b hl) hb.size
theorem zb4.nil (W:World) (base:Nat):zb4 W base (.slice none 0 0) []:=⟨[],rfl,World.ownsRow_nil _ _ _ _,fun i y r h=>by simp at h⟩
theorem zb4.push {W W':World} {base:Nat} {v v':Value} {l:List Rule} {t:Rule} {x:LV} {vs:List LV} (h1:vs.length=l.length) (h2:W.ownsRow base 37 8 v l.length (vs.flatMap LV.cells))
  (h3:∀ (i:Nat) (y:LV) (t:Rule),vs[i]?=some y->l[i]?=some t->zej W (fun b=>base<=b/\some b≠v.ownBlock) y t) (hx:zej W (fun b=>base<=b/\some b≠v.ownBlock) x t)
  (hown:W'.ownsRow base 37 8 v' (l.length+1) (vs.flatMap LV.cells++x.cells)) (hg:W.grownBy W' v.ownBlock) (hat:v'.ownBlock=v.ownBlock\/∃ k,v'.ownBlock=some k/\W.heap.size<=k):zb4 W' base v' (l++[t]):=by
 have key:∀ (y:LV) (u:Rule),zej W (fun b=>base<=b/\some b≠v.ownBlock) y u->zej W' (fun b=>base<=b/\some b≠v'.ownBlock) y u:=by
  intro y u hy
  refine hy.kept (fun b hP hl=>⟨hg.block b hl hP.2,hP.1,?_⟩) hg.size
  rcases hat with e | ⟨k,e,hk⟩
  ·rw [e];exact hP.2
  ·rw [e];intro g;cases g;omega
 refine ⟨vs++[x],by simp [h1],by simpa using hown,fun i y u hy hu=>?_⟩
 by_cases hi:i<l.length
 ·rw [List.getElem?_append_left (by omega)] at hy
  rw [List.getElem?_append_left hi] at hu
  exact key y u (h3 i y u hy hu)
 ·have hi0:i=l.length:=by
   have:=(List.getElem?_eq_some_iff.1 hu).1
   simp at this;omega
  subst hi0
  rw [List.getElem?_append_right (by omega),h1] at hy
  rw [List.getElem?_append_right (by omega)] at hu
  simp at hy hu
  subst hy hu
  exact key x t hx
def zy3 (W:World) (a:Option Addr) (n:Nat) (xs:List Value):Prop:=0<n->∃ g,a=some ⟨g,0,none⟩/\g<W.heap.size/\∀ (j:Nat) (u:Value),xs[j]?=some u->W.cell? ⟨g,j,none⟩=some u
theorem zei.open {W:World} {P:Nat->Prop} {v:Value} {n:Nat} {xs:List Value} (h:zei W P v n xs):∃ a cap,v=.slice a n cap/\n<=cap/\n<=9223372036854775807/\zy3 W a n xs:=by
 rcases h with ⟨rfl,rfl⟩ | ⟨g,cap,rfl,hc,hm,_,hg,_,h⟩
 ·exact ⟨none,0,rfl,Nat.le_refl _,by omega,fun h=>absurd h (by omega)⟩
 ·unfold maxLen at hm
  exact ⟨some ⟨g,0,none⟩,cap,rfl,hc,by omega,fun _=>⟨g,rfl,hg,h⟩⟩
theorem zy3.below {W W':World} {a:Option Addr} {n:Nat} {xs:List Value} (h:zy3 W a n xs) (hb:Below W.heap.size W W'):zy3 W' a n xs:=by
 intro hn
 obtain ⟨g,ha,hg,hc⟩:=h hn
 exact ⟨g,ha,Nat.lt_of_lt_of_le hg hb.size,fun j u hj=>(hb.cell (p:=⟨g,j,none⟩) hg).trans (hc j u hj)⟩
def zmh (W:World) (P:Nat->Prop) (v:Value) (l:List Rule):Prop :=
 ∃ ys:List LV,ys.length=l.length/\zei W P v l.length (ys.flatMap LV.cells)/\∀ (i:Nat) (y:LV) (r:Rule),ys[i]?=some y->l[i]?=some r->zej W P y r
theorem zb4.reads {W:World} {base:Nat} {v:Value} {l:List Rule} (h:zb4 W base v l):zmh W (fun b=>base<=b) v l:=by
 obtain ⟨ys,h1,h2,h3⟩:=h
 exact ⟨ys,h1,zei.of_row h2 (fun b hb=>hb),fun i y r hy hr=>(h3 i y r hy hr).kept (fun b hP _=>⟨rfl,hP.1⟩) (Nat.le_refl _)⟩
theorem zmh.under {W W':World} {P:Nat->Prop} {v:Value} {l:List Rule} (h:zmh W P v l) (hb:Below W.heap.size W W'):zmh W' P v l:=by
 obtain ⟨ys,h1,h2,h3⟩:=h
 exact ⟨ys,h1,h2.kept (fun b hP hl=>⟨hb.block b hl,hP⟩) hb.size,fun i y r hy hr=>(h3 i y r hy hr).kept (fun b hP hl=>⟨hb.block b hl,hP⟩) hb.size⟩
end Go.Proofs.YtekjnfldgjcgeaaGreatDoor
