/- Part 46 of what the laws of the grammar rest on. -/
import Derived.Test.YtahibnnhjahmnaaGreatDoorA45
set_option linter.all false
set_option maxRecDepth 100000
set_option maxHeartbeats 8000000
namespace Go.Proofs.YtahibnnhjahmnaaGreatDoor
open Go.RowKit
def rJ:Nat->Nat
 |0=>5
 |d+1=>5+3*rJ d
theorem P8(d:Nat):5<=rJ d:=by cases d<;>simp[rJ]
theorem Jd{x:List Int}(h:x∈wG):bJ x/\x.length<=4:=by
 simp[wG]at h;rcases h with rfl|rfl|rfl|rfl|rfl<;>exact⟨⟨by decide,by decide⟩,by decide⟩
theorem VU{x:List Int}(h:x∈Bj):bJ x/\x.length<=4:=by
 simp[Bj]at h;rcases h with rfl|rfl|rfl|rfl|rfl<;>exact⟨⟨by decide,by decide⟩,by decide⟩
theorem zzd{B:Nat}:∀ (l:List Tree),(∀ t∈l,t.tw<=B)->(l.map Tree.tw).sum<=l.length*B
 |[],_=>by simp
 |t::l,h=>by
  have h1:=h t (by simp);have h2:=zzd l (fun u hu=>h u (by simp[hu]));simp[Nat.add_mul];omega
theorem P9(d:Nat)(k lo hi:Int){x:List Int}(ns:List Int)(h:bJ x)(hl:x.length<=4):okF (d+1) (.mk k x ns lo hi [])=true:=by
 unfold okF;simp only[zbJ,List.all_eq_true,decide_eq_true_eq,List.all_nil];exact⟨⟨h.1,by omega⟩,trivial⟩
theorem qff{d:Nat}{t:Tree}(h:Mk d t):okF (d+1) t=true/\t.tw<=rJ d:=by
 have h0:bJ ([]:List Int):=⟨by simp,by simp⟩
 induction h with
 |@ref d x hx =>
  have:=Jd hx;have:=P8 d;refine⟨P9 _ _ _ _ _ (Jd hx).1 (Jd hx).2,?_⟩;simp[Tree.tw];omega
 |@fold d x hx =>
  have:=VU hx;have:=P8 d;refine⟨P9 _ _ _ _ _ (VU hx).1 (VU hx).2,?_⟩;simp[Tree.tw];omega
 |@nums d n l hn hl hm =>
  have:=P8 d;refine⟨P9 _ _ _ _ _ h0 (by simp),?_⟩;simp[Tree.tw];omega
 |@span d n m _ _ _ =>
  have:=P8 d;refine⟨P9 _ _ _ _ _ h0 (by simp),?_⟩;simp[Tree.tw];omega
 |@rep d lo hi t _ _ _ _ _ _ ih =>
  have:=ih.2;refine⟨?_,?_⟩
  ·unfold okF;simp[ih.1]
  ·simp[Tree.tw,rJ];omega
 |@many d k l hk h2 h3 _ ih =>
  have hs:=zzd l (fun t ht=>(ih t ht).2);have h4:l.length*rJ d<=3*rJ d:=Nat.mul_le_mul_right _ h3;refine⟨?_,?_⟩
  ·unfold okF;simp only[zbJ,List.all_eq_true,decide_eq_true_eq];exact⟨⟨by simp,by simp⟩,fun t ht=>(ih t ht).1⟩
  ·simp only[Tree.tw,rJ];simp;omega
theorem Ae{t:Tree}(h:Mk 3 t):okF 4 t=true/\t.tw<=1000/\dep t<=1000/\(bn t).length<=1000:=by
 have h1:=qff h;have h2:rJ 3=200:=by decide
 have h3:=K5 t.tw t (zbA _);exact⟨h1.1,by omega,by omega,by omega⟩
def GK(y:LV):RV:=⟨y.name,y.expr⟩
def Je(r:Rule):GR:=⟨r.name,r.expr⟩
theorem zs1{l:List Rule}(h:Bp l)(hl:l.length<=5):(∀ r∈l.map Je,bJ r.name/\dep r.expr<=9000/\(bn r.expr).length<=1000000)/\(lZ (l.map Je)).length<=1000000:=by
 refine⟨fun r hr=>?_,?_⟩
 ·obtain⟨q,hq,rfl⟩:=List.mem_map.1 hr;obtain⟨h1,h2⟩:=h q hq;have h3:=Ae h2;exact⟨(Jd h1).1,by show dep q.expr<=9000;omega,by show (bn q.expr).length<=1000000;omega⟩
 ·have key:∀ g:List Rule,Bp g->(lZ (g.map Je)).length<=1000*g.length:=fun g=>by
   induction g with
   |nil=>intro _;simp[lZ]
   |cons r g ih =>
    intro h;have h1:=ih (fun r hr=>h r (by simp[hr]));have h2:=(Ae (h r (by simp)).2).2.2.2;simp only[lZ,List.map_cons,List.flatten_cons,zbG,List.length_cons,Je]at h1 ⊢;omega
  have:=key l h;omega
theorem zvi(vs:List LV)(i:Nat)(y:LV)(b:Bool)(h:vs[i]?=some y):(vs.flatMap LV.cells).set (i*8+1) (.bool b)=(vs.set i ⟨y.name,b,y.expr⟩).flatMap LV.cells:=by
 induction vs generalizing i with
 |nil=>simp at h
 |cons x vs ih =>
  cases i with
  |zero =>
   simp at h;subst h;simp[LV.cells]
  |succ i =>
   simp at h;have:=ih i h;simp only[List.flatMap_cons,List.set_cons_succ];rw[List.set_append_right _ _ (by simp[LV.cells];omega),show (i+1)*8+1-(LV.cells x).length=i*8+1 by simp[LV.cells];omega,this]
theorem zs2(W:World)(g j:Nat)(u:Value):zap (fun b=>b=g) W (W.setCell ⟨g,j,none⟩ u) :=
 ⟨by simp,fun b c t z hm _ hb=>(zbQ W ⟨g,j,none⟩ u b hm).trans hb⟩
theorem zvj{W:World}{base size n:Nat}{e:TypeId}{v:Value}{xs:List Value}(h:W.ownsRow base e size v n xs):∀ k,v.ownBlock=some k->base<=k:=by
 intro k hk;rcases fB h with ⟨rfl,_⟩|⟨g,cap,rfl⟩
 ·simp[Value.ownBlock]at hk
 ·have:=(iX h).1;simp[Value.ownBlock]at hk;omega
structure MG (w w3:World) (gM n cap:Nat) (l:List Rule) (ys yl:List LV) (i:Nat) (vg:Value) (wr:World):Prop where
 below:Below w.heap.size w wr
 size:w3.heap.size<=wr.heap.size
 low:w.heap.size<=gM/\gM<w3.heap.size
 num:n=l.length/\ys.length=n/\yl.length=n
 row:wr.ownsRow (w.heap.size+1) 31 8 (.slice (some ⟨gM,0,none⟩) n cap) n (yl.flatMap LV.cells)
 same:∀ (j:Nat) (y y':LV),yl[j]?=some y->ys[j]?=some y'->y.name=y'.name/\y.expr=y'.expr
 each:∀ (j:Nat) (y:LV) (r:Rule),yl[j]?=some y->l[j]?=some r->y.name=ak r.name/\dX wr (fun b=>b≠gM/\b<w3.heap.size) y.expr r.expr
 grow:wr.ownsRow w3.heap.size 33 7 vg i (((ys.take i).map GK).flatMap RV.cells)
section
variable {w w3 wr:World} {gM n cap i:Nat} {l:List Rule} {ys yl:List LV} {vg:Value}
theorem MG.call(h:MG w w3 gM n cap l ys yl i vg wr){W':World}(hb:Below wr.heap.size wr W'):MG w w3 gM n cap l ys yl i vg W' :=
 ⟨aJ h.below hb,zbH h.size hb.size,h.low,h.num,mI h.row hb,h.same,fun j y r hy hr=>⟨(h.each j y r hy hr).1,(h.each j y r hy hr).2.kept (M:=fun _=>False) (zap.below hb) (fun b hb' _=>⟨id,hb'⟩)⟩,mI h.grow hb⟩
theorem MG.more(h:MG w w3 gM n cap l ys yl i vg wr){j:Nat}{y:LV}(hy:yl[j]?=some y)(b:Bool):MG w w3 gM n cap l ys (yl.set j ⟨y.name,b,y.expr⟩) i vg (wr.setCell ⟨gM,j*8+1,none⟩ (.bool b)):=by
 have hj:j<yl.length:=(zbF.1 hy).1
 have hset:∀ (q:Nat) (z:LV),(yl.set j ⟨y.name,b,y.expr⟩)[q]?=some z->∃ z0,yl[q]?=some z0/\z.name=z0.name/\z.expr=z0.expr:=fun q z hz=>by
  by_cases e:j=q
  ·subst e;rw[List.getElem?_set_self hj]at hz;obtain rfl:=zbB hz;exact⟨y,hy,rfl,rfl⟩
  ·rw[List.getElem?_set_ne e]at hz;exact⟨z,hz,rfl,rfl⟩
 refine⟨h.below.setCell (p:=⟨gM,j*8+1,none⟩) h.low.1 _,by simpa using h.size,h.low,⟨h.num.1,h.num.2.1,by rw[List.length_set];exact h.num.2.2⟩,?_,fun q z z' hz hz'=>?_,fun q z r hz hr=>?_,?_⟩
 ·rw[<- zvi yl j y b hy];exact nL h.row _ _
 ·obtain⟨z0,h0,e1,e2⟩:=hset q z hz;have:=h.same q z0 z' h0 hz';exact⟨e1.trans this.1,e2.trans this.2⟩
 ·obtain⟨z0,h0,e1,e2⟩:=hset q z hz;have:=h.each q z0 r h0 hr;rw[e1,e2];exact⟨this.1,this.2.kept (zs2 wr gM _ _) (fun c hc _=>⟨hc.1,hc⟩)⟩
 ·exact dI h.grow fun c hc hl=>zbQ _ _ _ _ (by have:=h.low.2;simp;omega)
theorem MG.push(h:MG w w3 gM n cap l ys yl i vg wr){y:LV}(hy:ys[i]?=some y){W':World}{Jf:Value}(hg:wr.grownBy W' vg.ownBlock)(hown:W'.ownsRow w3.heap.size 33 7 Jf (i+1) ((((ys.take i).map GK)++[GK y]).flatMap RV.cells)):MG w w3 gM n cap l ys yl (i+1) Jf W':=by
 have hab:=zvj h.grow;have hwl:w.heap.size<=w3.heap.size:=by have:=h.low;omega
 have hblk:∀ c,c<w3.heap.size->W'.heap[c]?=wr.heap[c]?:=fun c hc=>hg.block c (by have:=h.size;omega) (fun e=>by have:=hab c e.symm;omega)
 refine⟨h.below.grown hg (by have:=h.below.size;omega) (fun c hc=>by have:=hab c hc;omega),zbH h.size hg.size,h.low,h.num,?_,h.same,fun j z r hz hr=>⟨(h.each j z r hz hr).1,(h.each j z r hz hr).2.kept (M:=fun c=>w3.heap.size<=c) ⟨hg.size,fun c cs t z hm _ hb=>(hblk c (by omega)).trans hb⟩ (fun c hc _=>⟨by omega,hc⟩)⟩,?_⟩
 ·refine⟨h.row.1,?_⟩;rcases h.row.2 with hn|⟨g,cp,cur,hv,hb,hgg,rest⟩
  ·exact .inl hn
  ·have:g=gM:=by simp at hv;omega
   exact .inr ⟨g,cp,cur,hv,hb,(hblk g (by have:=h.low.2;omega)).trans hgg,rest⟩
 ·rw[List.take_add_one,hy,Option.toList_some,List.map_append];exact hown
def Dh(l:List Rule)(yl:List LV):List Rule:=(l.zip yl).map fun p=>⟨p.1.name,p.2.more,p.1.expr⟩
theorem MG.lines(h:MG w w3 gM n cap l ys yl i vg wr)(hm:Bp l):dz wr (.slice (some ⟨gM,0,none⟩) n cap) yl (Dh l yl):=by
 have hl:(Dh l yl).length=n:=by
  unfold Dh;rw[List.length_map,List.length_zip,<- h.num.1,h.num.2.2];omega
 refine⟨by rw[hl];exact zH h.row,by rw[hl];exact h.num.2.2,fun j y r hy hr=>?_⟩;unfold Dh at hr;rw[List.getElem?_map,Option.map_eq_some_iff]at hr;obtain⟨⟨r0,y0⟩,hz,rfl⟩:=hr;obtain⟨h1,h2⟩:=List.getElem?_zip_eq_some.1 hz;obtain rfl:=zbB (hy.symm.trans h2);obtain⟨e1,e2⟩:=h.each j y r0 hy h1;have ht:=(Jd (hm r0 (zbI h1)).1).1;exact⟨e1,ht.1,ht.2,rfl,e2.any⟩
theorem zvk(l:List Rule)(yl:List LV)(hm:Bp l)(hl:l.length<=5):ko (Dh l yl)<=9000:=by
 have key:∀ (l:List Rule) (yl:List LV),Bp l->ko (Dh l yl)<=1001*l.length:=fun l=>by
  induction l with
  |nil=>intro yl _;simp[Dh,ko]
  |cons r l ih =>
   intro yl hm
   cases yl with
   |nil=>simp[Dh,ko]
   |cons y yl =>
    have h1:=ih yl (fun r hr=>hm r (by simp[hr]));have h2:=(Ae (hm r (by simp)).2).2.1;simp only[Dh,ko,List.zip_cons_cons,List.map_cons,List.sum_cons,List.length_cons]at h1 ⊢;omega
 have:=key l yl hm;omega
theorem MG.rules(h:MG w w3 gM n cap l ys yl n vg wr)(hm:Bp l):oV wr vg (ys.map GK) (l.map Je):=by
 have hrow:=h.grow;rw[List.take_of_length_le (by rw[h.num.2.1];exact zbA _)]at hrow;refine⟨?_,by rw[List.length_map,List.length_map,h.num.2.1];exact h.num.1,fun j y r hy hr=>?_⟩
 ·rw[List.length_map,<- h.num.1];exact zH hrow
 ·rw[List.getElem?_map,Option.map_eq_some_iff]at hy hr;obtain⟨y0,hy0,rfl⟩:=hy;obtain⟨r0,hr0,rfl⟩:=hr;have hj:j<yl.length:=by rw[h.num.2.2,<- h.num.2.1];exact(zbF.1 hy0).1
  have h1:=h.same j yl[j] y0 (zbC hj) hy0;have h2:=h.each j yl[j] r0 (zbC hj) hr0;rw[h1.1,h1.2]at h2;exact⟨h2.1,(Jd (hm r0 (zbI hr0)).1).1,h2.2.kept (M:=fun _=>False) (P':=fun _=>True) (zap.refl _ _) (fun _ _ _=>⟨id,trivial⟩)⟩
end
theorem MG.start{w w3:World}{gM n cap:Nat}{l:List Rule}{ys:List LV}(hn:n=l.length)(hb:Below w.heap.size w w3)(h:LT w3 (w.heap.size+1) (.slice (some ⟨gM,0,none⟩) n cap) l ys)(hm:Bp l):MG w w3 gM n cap l ys ys 0 (.slice none 0 0) w3:=by
 obtain⟨h1,h2,h3,_⟩:=h;rw[<- hn]at h2;have hbs:=iX h2;refine⟨hb,zbA _,⟨by omega,hbs.2.2.2⟩,⟨hn,by omega,by omega⟩,h2,fun j y y' hy hy'=>by rw[zbB (hy.symm.trans hy')];exact⟨rfl,rfl⟩,fun j y r hy hr=>?_,World.ownsRow_nil _ _ _ _⟩;obtain⟨e1,_,e3⟩:=h3 j y r hy hr;refine⟨e1,(e3.Ta 4 (Ae (hm r (zbI hr)).2).1).kept (M:=fun _=>False) (zap.refl _ _) (fun b hb' hl=>⟨id,fun e=>hb'.2 (by rw[e];rfl),hl⟩)⟩
end Go.Proofs.YtahibnnhjahmnaaGreatDoor
