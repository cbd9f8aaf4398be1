/- Part 1 of what the laws of the grammar rest on. -/
import Derived.Test.YtahibnnhjahmnaaGreatDoorA0
import Derived.Deep.AppendLies
import Derived.Deep.RegionLaw
import Derived.StillTailTactics
import Derived.Deep.CutRange
set_option linter.all false
set_option maxRecDepth 100000
set_option maxHeartbeats 8000000
namespace Go.Proofs.YtahibnnhjahmnaaGreatDoor
open Go.RowKit
def wG:List (List Int):=[[97],[98],[99],[119,111,114,100],[120,45,49]]
def Bj:List (List Int):=[[],[97],[98,32,99],[120,59],[105,102]]
def Dj:List Int:=[0,65,10,255,1114111]
inductive Mk:Nat->Tree->Prop
 |ref {d:Nat} {x:List Int}:x∈wG->Mk d (.mk 4 x [] 0 0 [])
 |fold {d:Nat} {x:List Int}:x∈Bj->Mk d (.mk 5 x [] 0 0 [])
 |nums {d:Nat} {n:Int} {l:List Int}:n∈Dj->l.length<=1->(∀ m∈l,97<=m/\m<=100)->Mk d (.mk 6 [] (n::l) 0 0 [])
 |span {d:Nat} {n m:Int}:0<=n->n<=m->m<=300->Mk d (.mk 7 [] [n,m] 0 0 [])
 |rep {d:Nat} {lo hi:Int} {t:Tree}:0<=lo->lo<=2->-1<=hi->hi<=3->(0<=hi->lo<=hi)->Mk d t->Mk (d+1) (.mk 3 [] [] lo hi [t])
 |many {d:Nat} {k:Int} {l:List Tree}:k=1\/k=2->2<=l.length->l.length<=3->(∀ t∈l,Mk d t)->Mk (d+1) (.mk k [] [] 0 0 l)
inductive bV (W:World) (base:Nat):XV->Tree->Prop
 |mk {k lo hi:Int} {x nums:List Int} {kids:List Tree} {ns ks:Value}:W.ownsRow base 3 1 ns nums.length (dA nums)->fK W base ks kids->(ns=.slice none 0 0\/ks=.slice none 0 0)->bV W base ⟨k,ak x,ns,lo,hi,ks⟩ (.mk k x nums lo hi kids)
theorem bV.tree{W:World}{base:Nat}{X:XV}{t:Tree}(h:bV W base X t):av W (fun b=>base<=b) X t:=by
 cases h with
 |mk h1 h2 _ =>
  obtain⟨vs,g1,g2,g3⟩:=h2;exact .mk vs (mW.mQ h1 (fun b hb=>hb)) (mW.mQ g2 (fun b hb=>hb)) g1 (fun i y t hy ht=>(g3 i y t hy ht).weak (fun b hP _=>hP.1))
theorem GZ(W:World)(base:Nat)(e:TypeId):W.ownsRow base e 1 (.slice none 0 0) 0 []:=World.ownsRow_nil _ _ _ _
theorem fK.nil(W:World)(base:Nat):fK W base (.slice none 0 0) []:=⟨[],rfl,World.ownsRow_nil _ _ _ _,fun i y t h=>by simp at h⟩
theorem dI{W W':World}{base size n:Nat}{e:TypeId}{v:Value}{xs:List Value}(h:W.ownsRow base e size v n xs)(hk:∀ b,base<=b->b<W.heap.size->W'.heap[b]?=W.heap[b]?):W'.ownsRow base e size v n xs:=by
 refine⟨h.1,?_⟩;rcases h.2 with hn|⟨g,cap,cur,hv,hb,hg,rest⟩
 ·exact .inl hn
 ·exact .inr ⟨g,cap,cur,hv,hb,(hk g hb (zbD.1 hg).1).trans hg,rest⟩
theorem bV.kept{W W':World}{base:Nat}{X:XV}{t:Tree}(h:bV W base X t)(hk:∀ b,base<=b->b<W.heap.size->W'.heap[b]?=W.heap[b]?)(hs:W.heap.size<=W'.heap.size):bV W' base X t:=by
 cases h with
 |mk h1 h2 h3=>exact .mk (dI h1 hk) (h2.kept hk hs) h3
theorem bV.aj{W:World}{base g:Nat}{X:XV}{t:Tree}(h:bV W base X t)(hg:g<base)(cs:Array Value):bV (W.setRow g cs) base X t :=
 h.kept (fun b hb _=>setRow_other _ _ _ _ (by omega)) (by simp[World.setRow])
theorem bV.leaf(W:World)(base:Nat)(k lo hi:Int)(x:List Int):bV W base ⟨k,ak x,.slice none 0 0,lo,hi,.slice none 0 0⟩ (.mk k x [] lo hi []) :=
 .mk (nums:=[]) (kids:=[]) (GZ W base _) (fK.nil W base) (.inl rfl)
def dV(R:Nat)(v:Value)(zs:List Int)(a c d:Nat)(w:World)(e:Ending)(w':World):Prop :=
 ∃ (X:XV) (t:Tree) (a':Nat),bV w' (w.heap.size+1) X t/\Mk d t/\e=.returned X.val/\a'<=a+c/\cu w' R v zs a'/\w.grownBy w' (some R)
theorem cK{R a a' c d:Nat}{v:Value}{zs:List Int}{w W:World}{X:XV}{t:Tree}(ht:bV W (w.heap.size+1) X t)(hm:Mk d t)(ha:a'<=a+c)(hp:cu W R v zs a')(hg:w.grownBy W (some R))(hR:R<w.heap.size) :
  dV R v zs a c d w (.returned X.val) (W.setRow w.heap.size X.arr) :=
 ⟨X,t,a',ht.aj (by omega) _,hm,rfl,ha,hp.aj hR _,dY hg (zbA _) _⟩
def gI:Nat->Nat
 |0=>4
 |d+1=>5+3*gI d
def jW(d:Nat):Prop:=∀ {R a:Nat} {v:Value} {zs:List Int} {w:World} (D:Int),D=d->cu w R v zs a->a+gI d<=1000000 ->
 Calls Tryz.prog 13 #[.pointer (some ⟨R,0,none⟩),.int .i64 D] w (dV R v zs a (gI d) d w)
theorem jW.use{d:Nat}(h:jW d){R a:Nat}{v:Value}{zs:List Int}{w:World}(D:Int)(hD:D=d)(hp:cu w R v zs a)(hc:a+gI d<=1000000) :
  Calls Tryz.prog 13 #[.pointer (some ⟨R,0,none⟩),.int .i64 D] w (dV R v zs a (gI d) d w):=h D hD hp hc
def qe3(R:Nat)(v:Value)(zs:List Int)(a c d:Nat)(w:World)(e:Ending)(w':World):Prop :=
 ∃ (k lo hi:Int) (s:ByteArray) (b1 b2:Option Addr) (n1 c1 n2 c2:Nat) (t:Tree) (a':Nat),av w' (fun b=>w.heap.size+1<=b) ⟨k,s,.slice b1 n1 c1,lo,hi,.slice b2 n2 c2⟩ t/\Mk d t /\
  e=.returned (.agg #[.int .i64 k,.string s,.slice b1 n1 c1,.int .i64 lo,.int .i64 hi,.slice b2 n2 c2])/\a'<=a+c/\cu w' R v zs a'/\w.grownBy w' (some R)
theorem Nv{W:World}{P:Nat->Prop}{v:Value}{n:Nat}{xs:List Value}(h:mW W P v n xs):∃ a n c,v=.slice a n c:=by
 rcases h with ⟨rfl,_⟩|⟨g,cap,rfl,_⟩<;>exact⟨_,_,_,rfl⟩
theorem jW.fields{d:Nat}(h:jW d){R a:Nat}{v:Value}{zs:List Int}{w:World}(D:Int)(hD:D=d)(hp:cu w R v zs a)(hc:a+gI d<=1000000) :
  Calls Tryz.prog 13 #[.pointer (some ⟨R,0,none⟩),.int .i64 D] w (qe3 R v zs a (gI d) d w):=by
 refine(h D hD hp hc).mono ?_;rintro e w' ⟨X,t,a',ht,hm,rfl,ha,hp,hg⟩;have ht:=ht.tree;obtain⟨k,s,ns,lo,hi,ks⟩:=X
 obtain⟨b1,n1,c1,rfl⟩:∃ a n c,ns=.slice a n c:=by
  cases ht with
  |mk vs h1 h2 h3 h4=>exact Nv h1
 obtain⟨b2,n2,c2,rfl⟩:∃ a n c,ks=.slice a n c:=by
  cases ht with
  |mk vs h1 h2 h3 h4=>exact Nv h2
 exact⟨k,lo,hi,s,b1,b2,n1,c1,n2,c2,t,a',ht,hm,rfl,ha,hp,hg⟩
theorem pE{W W':World}{R g j:Nat}{u:Value}(h:W.cell? ⟨g,j,none⟩=some u)(hg:W.grownBy W' (some R))(hl:g<W.heap.size)(hne:g≠R):W'.cell? ⟨g,j,none⟩=some u:=by
 rw[World.cell?_of_block (w:=W) (hg.block g hl (fun e=>hne (zbB e)))];exact h
theorem Dk(W:World)(cs:Array Value)(t:TypeId)(j:Nat){u:Value}(h:cs[j]?=some u):(W.alloc (.cells cs t)).cell? ⟨W.heap.size,j,none⟩=some u:=by
 have:=zbO W (.cells cs t);simp only[World.cell?,this];exact h
theorem Qf(j:Nat)(hj:j<5):∃ x∈wG,(#[.string ⟨#[97]⟩,.string ⟨#[98]⟩,.string ⟨#[99]⟩,.string ⟨#[119,111,114,100]⟩,.string ⟨#[120,45,49]⟩]:Array Value)[j]?=some (.string (ak x)):=by
 match j,hj with
 |0,_=>exact⟨[97],by simp[wG],rfl⟩
 |1,_=>exact⟨[98],by simp[wG],rfl⟩
 |2,_=>exact⟨[99],by simp[wG],rfl⟩
 |3,_=>exact⟨[119,111,114,100],by simp[wG],rfl⟩
 |4,_=>exact⟨[120,45,49],by simp[wG],rfl⟩
theorem Wh(j:Nat)(hj:j<5):∃ x∈Bj,(#[.string ⟨#[]⟩,.string ⟨#[97]⟩,.string ⟨#[98,32,99]⟩,.string ⟨#[120,59]⟩,.string ⟨#[105,102]⟩]:Array Value)[j]?=some (.string (ak x)):=by
 match j,hj with
 |0,_=>exact⟨[],by simp[Bj],rfl⟩
 |1,_=>exact⟨[97],by simp[Bj],rfl⟩
 |2,_=>exact⟨[98,32,99],by simp[Bj],rfl⟩
 |3,_=>exact⟨[120,59],by simp[Bj],rfl⟩
 |4,_=>exact⟨[105,102],by simp[Bj],rfl⟩
theorem qc5(j:Nat)(hj:j<5):∃ n∈Dj,(#[.int .i64 0,.int .i64 65,.int .i64 10,.int .i64 255,.int .i64 1114111]:Array Value)[j]?=some (.int .i64 n):=by
 match j,hj with
 |0,_=>exact⟨0,by simp[Dj],rfl⟩
 |1,_=>exact⟨65,by simp[Dj],rfl⟩
 |2,_=>exact⟨10,by simp[Dj],rfl⟩
 |3,_=>exact⟨255,by simp[Dj],rfl⟩
 |4,_=>exact⟨1114111,by simp[Dj],rfl⟩
theorem Jp(n:Int)(h:-9223372036854775808<=n/\n<=9223372036854775807):IntKind.i64.wrap n=n:=by
 simp[IntKind.wrap,IntKind.signed,IntKind.bits];omega
theorem um(W:World)(o:Obj)(b:Nat)(h:b=W.heap.size):(W.alloc o).heap[b]?=some o:=by subst h;exact zbO W o
def fM(W:World)(g:Nat):Prop:=W.heap[g]?=some (.cells yx 29 (0,0))
theorem fM.grown{W W':World}{g R:Nat}(h:fM W g)(hg:W.grownBy W' (some R))(hne:g≠R):fM W' g:=(hg.block g (zbD.1 h).1 (fun e=>hne (zbB e))).trans h
theorem fM.lt{W:World}{g:Nat}(h:fM W g):g<W.heap.size:=(zbD.1 h).1
theorem fM.alloc{W:World}{g:Nat}(h:fM W g)(o:Obj):fM (W.alloc o) g:=(zbP W o g h.lt).trans h
theorem fM.res{W:World}{g:Nat}(h:fM W g):bg W g:=⟨_,rfl,h⟩
theorem fM.cells{W:World}{g:Nat}(h:fM W g):W.cell? ⟨g,0,none⟩=some (.int .i64 0)/\W.cell? ⟨g,1,none⟩=some (.string ⟨#[]⟩)/\W.cell? ⟨g,2,none⟩=some (.slice none 0 0)/\W.cell? ⟨g,3,none⟩=some (.int .i64 0)/\W.cell? ⟨g,4,none⟩=some (.int .i64 0)/\W.cell? ⟨g,5,none⟩=some (.slice none 0 0) /\
  W.frozen? ⟨g,0,none⟩=false/\W.frozen? ⟨g,1,none⟩=false/\W.frozen? ⟨g,2,none⟩=false/\W.frozen? ⟨g,3,none⟩=false/\W.frozen? ⟨g,4,none⟩=false/\W.frozen? ⟨g,5,none⟩=false:=by
 unfold fM yx at h;simp[World.cell?,World.frozen?,h]
theorem Dl{W:World}{g:Nat}(h:fM W g)(c0 c1 c2 c3 c4 c5:Value) :
  (((((W.setCell ⟨g,0,none⟩ c0).setCell ⟨g,1,none⟩ c1).setCell ⟨g,2,none⟩ c2).setCell ⟨g,3,none⟩ c3).setCell ⟨g,4,none⟩ c4).setCell ⟨g,5,none⟩ c5=W.setRow g #[c0,c1,c2,c3,c4,c5]:=by
 rw[setCell_eq_setRow W g 0 _ _ _ c0 h];rw[setCell_eq_setRow _ g 1 _ _ _ c1 (setRow_heap _ _ _ _ _ _ h),setRow_setRow];rw[setCell_eq_setRow _ g 2 _ _ _ c2 (setRow_heap _ _ _ _ _ _ h),setRow_setRow];rw[setCell_eq_setRow _ g 3 _ _ _ c3 (setRow_heap _ _ _ _ _ _ h),setRow_setRow];rw[setCell_eq_setRow _ g 4 _ _ _ c4 (setRow_heap _ _ _ _ _ _ h),setRow_setRow];rw[setCell_eq_setRow _ g 5 _ _ _ c5 (setRow_heap _ _ _ _ _ _ h),setRow_setRow];rfl
theorem zzh{W:World}{base g m2:Nat}{n m:Int}(hB:W.heap[g]?=some (.cells #[.int .i64 n,.int .i64 m] 3 (0,0)))(hb:base<=g)(hm2:m2<2) :
  ∃ l:List Int,l.length<=1/\(∀ x∈l,x=m)/\W.ownsRow base 3 1 (.slice (some ⟨g,0,none⟩) (m2+1) 2) (n::l).length (dA (n::l)):=by
 match m2,hm2 with
 |0,_=>exact⟨[],by simp,by simp,rfl,.inr ⟨g,2,_,rfl,hb,hB,by simp,by unfold maxLen;omega,rfl,rfl⟩⟩
 |1,_=>exact⟨[m],by simp,by simp,rfl,.inr ⟨g,2,_,rfl,hb,hB,by simp,by unfold maxLen;omega,rfl,rfl⟩⟩
theorem Dm{R a c d g m1 m2:Nat}{n:Int}{v:Value}{zs:List Int}{w W:World}(hn:n∈Dj)(hB:W.heap[g]?=some (.cells #[.int .i64 n,.int .i64 (97+(m1:Int))] 3 (0,0)))(hb:w.heap.size+1<=g)(hm1:m1<4)(hm2:m2<2)
  (hc:4<=c) (hp:cu W R v zs (a+1+1+1+1)) (hg:w.grownBy W (some R)) (hR:R<w.heap.size) :
  dV R v zs a c d w (.returned (XV.val ⟨6,⟨#[]⟩,.slice (some ⟨g,0,none⟩) (m2+1) 2,0,0,.slice none 0 0⟩)) (W.setRow w.heap.size (XV.arr ⟨6,⟨#[]⟩,.slice (some ⟨g,0,none⟩) (m2+1) 2,0,0,.slice none 0 0⟩)):=by
 obtain⟨l,h1,h2,h3⟩:=zzh (base:=w.heap.size+1) hB hb hm2;exact cK (t:=.mk 6 [] (n::l) 0 0 []) (bV.mk (x:=[]) (kids:=[]) h3 (fK.nil _ _) (.inr rfl)) (.nums hn h1 (fun m hm=>by have:=h2 m hm;omega)) (a':=a+1+1+1+1) (by omega) hp hg hR
theorem cu.drew{W:World}{R a:Nat}{v:Value}{zs:List Int}(h:cu W R v zs a):cu W.drew R v zs a:=h
theorem Bl{w W:World}{row:Option Nat}(h:w.grownBy W row):w.grownBy W.drew row:=⟨h.os,h.tape,h.output,h.size,h.block⟩
def tJ(W:World)(E:Nat)(kd:Int)(ks:Value):Prop:=W.heap[E]?=some (.cells #[.int .i64 kd,.string ⟨#[]⟩,.slice none 0 0,.int .i64 0,.int .i64 0,ks] 29 (0,0))
theorem tJ.lt{W:World}{E:Nat}{kd:Int}{ks:Value}(h:tJ W E kd ks):E<W.heap.size:=(zbD.1 h).1
theorem tJ.five{W:World}{E:Nat}{kd:Int}{ks:Value}(h:tJ W E kd ks):W.cell? ⟨E,5,none⟩=some ks/\W.frozen? ⟨E,5,none⟩=false:=by
 unfold tJ at h;simp[World.cell?,World.frozen?,h]
theorem tJ.set{W:World}{E:Nat}{kd:Int}{ks:Value}(h:tJ W E kd ks)(v:Value):tJ (W.setCell ⟨E,5,none⟩ v) E kd v:=by
 unfold tJ at h ⊢;unfold World.setCell;simp only[Array.getElem?_modify,h];simp
theorem tJ.kept{W W':World}{E:Nat}{kd:Int}{ks:Value}(h:tJ W E kd ks)(hk:W'.heap[E]?=W.heap[E]?):tJ W' E kd ks:=hk.trans h
def Many(R:Nat)(v:Value)(zs:List Int)(a:Nat)(w wr:World)(E:Nat)(kd:Int)(d tot i:Nat)(l:List Tree)(ks:Value)(a':Nat):Prop :=
 tJ wr E kd ks/\fK wr (E+1) ks l/\l.length+i=tot/\(∀ t∈l,Mk d t)/\cu wr R v zs a'/\a'<=a+2+l.length*gI d/\w.grownBy wr (some R)/\fM wr w.heap.size/\w.heap.size+1<=E
theorem Nw{W:World}{base size n:Nat}{e:TypeId}{v:Value}{xs:List Value}(h:W.ownsRow base e size v n xs){b:Nat}(hb:b<base):some b≠v.ownBlock:=by
 rcases fB h with ⟨rfl,_⟩|⟨g,cap,rfl⟩
 ·simp[Value.ownBlock]
 ·have:=(iX h).1;intro e;have:=zbB e;simp at this;omega
theorem Many.push{R:Nat}{v:Value}{zs:List Int}{a:Nat}{w wr w5 w6:World}{E:Nat}{kd:Int}{d tot i:Nat}{l:List Tree}{ks ks':Value}{a' a'':Nat}{X:XV}{t:Tree}{vs:List XV}
  (h:Many R v zs a w wr E kd d tot (i+1) l ks a') (hR:R<w.heap.size)
  (ht:av w5 (fun b=>wr.heap.size+1<=b) X t) (hm:Mk d t) (ha:a''<=a'+gI d) (hp:cu w5 R v zs a'') (hg:wr.grownBy w5 (some R))
  (h1:vs.length=l.length) (h2:wr.ownsRow (E+1) 29 6 ks l.length (vs.flatMap XV.cells)) (h3:∀ (i:Nat) (y:XV) (t:Tree),vs[i]?=some y->l[i]?=some t->av wr (fun b=>E+1<=b/\some b≠ks.ownBlock) y t)
  (hown:w6.ownsRow (E+1) 29 6 ks' (l.length+1) (vs.flatMap XV.cells++X.cells)) (hgr:(w5.alloc (.cells X.arr 29)).grownBy w6 ks.ownBlock) (hat:ks'.ownBlock=ks.ownBlock\/∃ k,ks'.ownBlock=some k/\(w5.alloc (.cells X.arr 29)).heap.size<=k) :
  tJ w6 E kd ks/\Many R v zs a w (w6.setCell ⟨E,5,none⟩ ks') E kd d tot i (l++[t]) ks' a'':=by
 obtain⟨e1,e2,e3,e4,e5,e6,e7,e8,e9⟩:=h;have hE:=e1.lt;have hs:=hg.size;have hz:=e8.lt
 have keep:∀ b,b<=E->b≠R->w6.heap[b]?=wr.heap[b]?:=fun b hb hbR=>by
  rw[hgr.block b (by simp;omega) (Nw h2 (by omega)),zbP _ _ _ (by omega),hg.block b (by omega) (fun e=>hbR (zbB e))]
 have Jq:∀ b,b<=E->w6.heap[b]?=w5.heap[b]?:=fun b hb=>by
  rw[hgr.block b (by simp;omega) (Nw h2 (by omega)),zbP _ _ _ (by omega)]
 have k1:tJ w6 E kd ks:=e1.kept (keep E (zbA _) (by omega));have hk:fK (w5.alloc (.cells X.arr 29)) (E+1) ks l:=(e2.grown hg (by omega)).below ((zbE w5.heap.size w5).alloc (zbA _) _)
 have hA:∀ b,E+1<=b->b<wr.heap.size->(w5.alloc (.cells X.arr 29)).heap[b]?=wr.heap[b]?:=fun b hb hl=>by
  rw[zbP _ _ _ (by omega),hg.block b hl (fun e=>by have:=zbB e;omega)]
 have h2':=dI h2 hA;have h3':∀ (i:Nat) (y:XV) (t:Tree),vs[i]?=some y->l[i]?=some t->av (w5.alloc (.cells X.arr 29)) (fun b=>E+1<=b/\some b≠ks.ownBlock) y t:=fun i y t hy ht=>(h3 i y t hy ht).kept (fun b hP hl=>⟨hA b hP.1 hl,hP⟩) (by simp;omega)
 have hX:av (w5.alloc (.cells X.arr 29)) (fun b=>E+1<=b/\some b≠ks.ownBlock) X t:=by
  refine(ht.weak (P':=fun b=>E+1<=b/\some b≠ks.ownBlock) (fun b hP hl=>⟨by omega,fun e=>?_⟩)).under ((zbE w5.heap.size w5).alloc (zbA _) _);rcases fB h2 with ⟨rfl,_⟩|⟨g,cap,rfl⟩
  ·simp[Value.ownBlock]at e
  ·have:=(iX h2).2.2.2;have:=zbB e;simp at this;omega
 have G5:=fK.push h1 h2' h3' hX hown hgr hat;refine⟨k1,k1.set ks',G5.kept (fun b hb hl=>zbQ _ _ _ _ (by show b≠E;omega)) (by simp[World.setCell]),by simp;omega,?_,?_,?_,?_,?_,e9⟩
 ·intro u hu;rw[List.mem_append]at hu;rcases hu with hu|hu
  ·exact e4 u hu
  ·simp at hu;subst hu;exact hm
 ·exact hp.kept (fun b hb=>(zbQ _ _ _ _ (by show b≠E;omega)).trans (Jq b (by omega)))
 ·rw[zbG];have:(l.length+[t].length)*gI d=l.length*gI d+gI d:=by simp[Nat.add_mul]
  omega
 ·refine⟨hgr.os.trans (hg.os.trans e7.os),hgr.tape.trans (hg.tape.trans e7.tape),hgr.output.trans (hg.output.trans e7.output),?_,fun b hb hne=>?_⟩
  ·have:=e7.size;have:=hgr.size;simp[World.setCell]at this ⊢;omega
  ·rw[zbQ _ _ _ _ (by show b≠E;omega),keep b (by omega) (fun e=>hne (by rw[e]))];exact e7.block b hb hne
 ·exact(zbQ _ _ _ _ (by show w.heap.size≠E;omega)).trans ((keep w.heap.size (by omega) (by omega)).trans e8)
theorem fK.lower{W:World}{base base':Nat}{v:Value}{l:List Tree}(h:fK W base v l)(hb:base'<=base):fK W base' v l:=by
 obtain⟨vs,h1,h2,h3⟩:=h;refine⟨vs,h1,⟨h2.1,?_⟩,fun i y t hy ht=>(h3 i y t hy ht).weak (fun b hP _=>⟨by omega,hP.2⟩)⟩;rcases h2.2 with hn|⟨g,cap,cur,hv,hg,rest⟩
 ·exact .inl hn
 ·exact .inr ⟨g,cap,cur,hv,by omega,rest⟩
theorem nE{w W W':World}{R:Nat}(hg:W.grownBy W' (some R))(h:w.grownBy W (some R)):w.grownBy W' (some R):=h.trans hg
theorem zvq:jW 0:=by
 intro R a v zs w D hD h hc;obtain rfl:D=0:=by simpa using hD
 have hR:=h.lt;have HZ:Hid (fM (w.alloc (.cells #[.int .i64 0,.string ⟨#[]⟩,.slice none 0 0,.int .i64 0,.int .i64 0,.slice none 0 0] 29)) w.heap.size):=zbO w _;have HP:=hh9 (h.alloc (.cells #[.int .i64 0,.string ⟨#[]⟩,.slice none 0 0,.int .i64 0,.int .i64 0,.slice none 0 0] 29));have HG:=hh9 (World.grownBy_alloc w (.cells #[.int .i64 0,.string ⟨#[]⟩,.slice none 0 0,.int .i64 0,.int .i64 0,.slice none 0 0] 29) (some R));have hk:=mE zs a (n:=12) (by omega);obtain⟨k,hk0⟩:∃ k,k=jE zs a 12:=⟨_,rfl⟩
 rw[<- hk0]at hk;have HK:=hh9 hk0;obtain⟨q,hq⟩:∃ q:Nat,(k:Int)%5=q:=⟨((k:Int)%5).toNat,by omega⟩
 have yA:q<5:=by omega
 have hc0:4<=gI 0:=by decide
 clear h hD hk0;obtain g|g|g|g:q<2\/q=2\/q=3\/q=4:=by omega
 ·have q2:decide ((q:Int)<2)=true:=zbN (by omega);obtain⟨x,hx,hcell⟩:=Qf (jE zs (a+1) 5) (by have:=mE zs (a+1) (n:=5) (by omega);omega);have HX:=hh9 hx;clear hx;go_enter Tryz.func13,Tryz.ntmps13;go_wp2_with fail
  refine(iw (n:=12) HP.out (by omega) (by omega)).mono ?_;rintro e w1 ⟨rfl,hp,hg⟩;rw[<- HK.out];have iJ:=hh9 hp;have hz1:w.heap.size+1<=w1.heap.size:=by have:=hg.size;simp at this;omega
  have aT:=hh9 (HG.out.trans hg);have HZ1:=hh9 (HZ.out.grown hg (by omega));clear hp hg HP HG HZ;have yB:=hh9 (Dk w1 #[.string ⟨#[97]⟩,.string ⟨#[98]⟩,.string ⟨#[99]⟩,.string ⟨#[119,111,114,100]⟩,.string ⟨#[120,45,49]⟩] 9 _ hcell);have hj:=mE zs (a+1) (n:=5) (by omega);go_wp2_with fail
  refine(iw (n:=5) (iJ.out.alloc _) (by omega) (by omega)).mono ?_;rintro e w2 ⟨rfl,hp,hg⟩;have hc2:=pE yB.out hg (by simp) (by omega);obtain⟨j,hj0⟩:∃ j,j=jE zs (a+1) 5:=⟨_,rfl⟩
  rw[<- hj0]at hc2 hj ⊢;have fZ:=hh9 hp;have HG2:=hh9 ((dn aT.out _).trans hg);have HR2:=hh9 ((HZ1.out.alloc _).grown hg (by omega)).res;obtain⟨s,hs⟩:∃ s,s=ak x:=⟨_,rfl⟩
  rw[<- hs]at hc2
  have aU:Hid (dV R v zs a (gI (0)) (0) w (.returned (XV.val ⟨4,s,.slice none 0 0,0,0,.slice none 0 0⟩)) (w2.setRow w.heap.size (XV.arr ⟨4,s,.slice none 0 0,0,0,.slice none 0 0⟩))):=by
   rw[hs];exact cK (bV.leaf _ _ _ _ _ _) (.ref HX.out) (a':=a+1+1) (by omega) fZ.out HG2.out hR
  clear hp hg iJ aT HZ1 yB hcell hj0 hs;go_wp2_with (refine bA rfl _ _ rfl w.heap.size ⟨4,s,.slice none 0 0,0,0,.slice none 0 0⟩ rfl rfl HR2.out rfl rfl ?_)
  exact bodyPost_ret_by (zag rfl _ _ w.heap.size ⟨4,s,.slice none 0 0,0,0,.slice none 0 0⟩ rfl HR2.out) rfl aU.out
 ·subst g;have hq3:(k:Int)%5=2:=by omega
  clear hq yA;obtain⟨x,hx,hcell⟩:=Wh (jE zs (a+1) 5) (by have:=mE zs (a+1) (n:=5) (by omega);omega);have HX:=hh9 hx;clear hx;go_enter Tryz.func13,Tryz.ntmps13;go_wp2_with fail
  refine(iw (n:=12) HP.out (by omega) (by omega)).mono ?_;rintro e w1 ⟨rfl,hp,hg⟩;rw[<- HK.out];have iJ:=hh9 hp;have hz1:w.heap.size+1<=w1.heap.size:=by have:=hg.size;simp at this;omega
  have aT:=hh9 (HG.out.trans hg);have HZ1:=hh9 (HZ.out.grown hg (by omega));clear hp hg HP HG HZ;have yB:=hh9 (Dk w1 #[.string ⟨#[]⟩,.string ⟨#[97]⟩,.string ⟨#[98,32,99]⟩,.string ⟨#[120,59]⟩,.string ⟨#[105,102]⟩] 9 _ hcell);have hj:=mE zs (a+1) (n:=5) (by omega);go_wp2_with fail
  refine(iw (n:=5) (iJ.out.alloc _) (by omega) (by omega)).mono ?_;rintro e w2 ⟨rfl,hp,hg⟩;have hc2:=pE yB.out hg (by simp) (by omega);obtain⟨j,hj0⟩:∃ j,j=jE zs (a+1) 5:=⟨_,rfl⟩
  rw[<- hj0]at hc2 hj ⊢;have fZ:=hh9 hp;have HG2:=hh9 ((dn aT.out _).trans hg);have HR2:=hh9 ((HZ1.out.alloc _).grown hg (by omega)).res;obtain⟨s,hs⟩:∃ s,s=ak x:=⟨_,rfl⟩
  rw[<- hs]at hc2
  have aU:Hid (dV R v zs a (gI (0)) (0) w (.returned (XV.val ⟨5,s,.slice none 0 0,0,0,.slice none 0 0⟩)) (w2.setRow w.heap.size (XV.arr ⟨5,s,.slice none 0 0,0,0,.slice none 0 0⟩))):=by
   rw[hs];exact cK (bV.leaf _ _ _ _ _ _) (.fold HX.out) (a':=a+1+1) (by omega) fZ.out HG2.out hR
  clear hp hg iJ aT HZ1 yB hcell hj0 hs;go_wp2_with (refine bA rfl _ _ rfl w.heap.size ⟨5,s,.slice none 0 0,0,0,.slice none 0 0⟩ rfl rfl HR2.out rfl rfl ?_)
  exact bodyPost_ret_by (zag rfl _ _ w.heap.size ⟨5,s,.slice none 0 0,0,0,.slice none 0 0⟩ rfl HR2.out) rfl aU.out
 ·subst g;have hq3:(k:Int)%5=3:=by omega
  clear hq yA;obtain⟨n,hn,hcell⟩:=qc5 (jE zs (a+1) 5) (by have:=mE zs (a+1) (n:=5) (by omega);omega);have HN:=hh9 hn;clear hn;have hj:=mE zs (a+1) (n:=5) (by omega);have hm1:=mE zs (a+1+1) (n:=4) (by omega);have hm2:=mE zs (a+1+1+1) (n:=2) (by omega);go_enter Tryz.func13,Tryz.ntmps13;go_wp2_with fail
  refine(iw (n:=12) HP.out (by omega) (by omega)).mono ?_;rintro e w1 ⟨rfl,hp,hg⟩;rw[<- HK.out];have iJ:=hh9 hp;have hz1:w.heap.size+1<=w1.heap.size:=by have:=hg.size;simp at this;omega
  have aT:=hh9 (HG.out.trans hg);have HZ1:=hh9 (HZ.out.grown hg (by omega));clear hp hg HP HG HZ;have gq:=hh9 (fun W=>Dk W #[.int .i64 0,.int .i64 65,.int .i64 10,.int .i64 255,.int .i64 1114111] 3 _ hcell);clear hcell;obtain⟨j,hj0⟩:∃ j,j=jE zs (a+1) 5:=⟨_,rfl⟩
  obtain⟨m1,uo⟩:∃ j,j=jE zs (a+1+1) 4:=⟨_,rfl⟩
  obtain⟨m2,uq⟩:∃ j,j=jE zs (a+1+1+1) 2:=⟨_,rfl⟩
  rw[<- hj0]at hj gq;rw[<- uo]at hm1;rw[<- uq]at hm2;have Qg:IntKind.i64.wrap (97+(m1:Int))=97+(m1:Int):=Jp _ (by omega);have hs1:0<=1+(m2:Int):=by omega
  have hs2:1+(m2:Int)<=2:=by omega
  have hs3:(1+(m2:Int)).toNat=m2+1:=by omega
  have hwr2:IntKind.i64.wrap (1+(m2:Int))=1+(m2:Int):=Jp _ (by omega);have yC:=hh9 hj0;have yD:=hh9 uo;have tK:=hh9 uq;clear hj0 uo uq;go_wp2_with fail
  rw[hq3];go_cut []from 37 to 51 (fun W=>∃ (X:XV) (W0:World),fM W0 w.heap.size/\W=W0.setRow w.heap.size X.arr/\dV R v zs a (gI (0)) (0) w (.returned X.val) W)
  case rest =>
   obtain⟨X,W0,hz,rfl,hM⟩:=hcut;go_wp2_with fail
   exact bodyPost_ret_by (zag rfl _ _ w.heap.size X rfl hz.res) rfl hM
  go_region_law (first
   |(go_simp;go_at_call 12;(with_reducible (refine(iw (W:=w1.drew) (n:=5) (cu.drew iJ.out) (by omega) (by omega)).mono ?_));rintro e w2 ⟨rfl,hp,hg⟩;have hz2:w1.heap.size+0<=w2.heap.size:=(by have hs:=hg.size;(try simp at hs);omega);rw[<- yC.out];have fZ:=hh9 hp;have HG2:=hh9 (nE hg (Bl aT.out));have F2:=gq.out w2;have HZ2:=hh9 (fM.grown (W:=w1.drew) HZ1.out hg (by omega));clear hp hg)
   |(go_simp;go_at_call 12;(with_reducible (refine(iw (W:=(w1.alloc (.cells #[.int .i64 0,.int .i64 65,.int .i64 10,.int .i64 255,.int .i64 1114111] 3)).drew) (n:=5) (cu.drew (cu.alloc iJ.out _)) (by omega) (by omega)).mono ?_));rintro e w2 ⟨rfl,hp,hg⟩;have hz2:w1.heap.size+1<=w2.heap.size:=(by have hs:=hg.size;(try simp at hs);omega);rw[<- yC.out];have fZ:=hh9 hp;have HG2:=hh9 (nE hg (Bl (dn aT.out _)));have F1:w2.cell? ⟨w1.heap.size,j,none⟩=some (.int .i64 n):=pE (W:=(w1.alloc (.cells #[.int .i64 0,.int .i64 65,.int .i64 10,.int .i64 255,.int .i64 1114111] 3)).drew) (gq.out w1) hg (by simp) (by omega);have HZ2:=hh9 (fM.grown (W:=(w1.alloc (.cells #[.int .i64 0,.int .i64 65,.int .i64 10,.int .i64 255,.int .i64 1114111] 3)).drew) (HZ1.out.alloc _) hg (by omega));clear hp hg)
   |(go_simp;go_at_call 12;(with_reducible (refine(iw (W:=w2) (n:=4) fZ.out (by omega) (by omega)).mono ?_));rintro e w3 ⟨rfl,hp,hg⟩;have hz3:w2.heap.size+0<=w3.heap.size:=(by have hs:=hg.size;(try simp at hs);omega);rw[<- yD.out];have jP:=hh9 hp;have aG:=hh9 (nE hg HG2.out);have F3:=gq.out w3;(try (have F4:=pE F1 hg (by omega) (by omega)));have HZ3:=hh9 (fM.grown HZ2.out hg (by omega));clear hp hg)
   |(go_simp;go_at_call 12;(with_reducible (refine(iw (W:=w2.alloc (.cells #[.int .i64 0,.int .i64 65,.int .i64 10,.int .i64 255,.int .i64 1114111] 3)) (n:=4) (cu.alloc fZ.out _) (by omega) (by omega)).mono ?_));rintro e w3 ⟨rfl,hp,hg⟩;have hz3:w2.heap.size+1<=w3.heap.size:=(by have hs:=hg.size;(try simp at hs);omega);rw[<- yD.out];have jP:=hh9 hp;have aG:=hh9 (nE hg (dn HG2.out _));have F4:=pE F2 hg (by simp) (by omega);have HZ3:=hh9 (fM.grown (HZ2.out.alloc _) hg (by omega));clear hp hg)
   |(go_simp;go_at_call 12;(with_reducible (refine(iw (W:=w3) (n:=2) jP.out (by omega) (by omega)).mono ?_));rintro e w4 ⟨rfl,hp,hg⟩;have dF:w3.heap.size+0<=w4.heap.size:=(by have hs:=hg.size;(try simp at hs);omega);rw[<- tK.out];have su:=hh9 hp;have bD:=hh9 (nE hg aG.out);have F5:=gq.out w4;(try (have F6:=pE F4 hg (by omega) (by omega)));have jJ:=hh9 (fM.grown HZ3.out hg (by omega));obtain⟨z0,z1,z2,z3,z4,z5,y0,y1,y2,y3,y4,y5⟩:=jJ.out.cells;obtain⟨t0,t1,t2,t3,t4,t5,x0,x1,x2,x3,x4,x5⟩:=(jJ.out.alloc (.cells #[.int .i64 n,.int .i64 (97+(m1:Int))] 3)).cells;obtain⟨p0,p1,p2,p3,p4,p5,r0,r1,r2,r3,r4,r5⟩:=((jJ.out.alloc (.cells #[.int .i64 0,.int .i64 65,.int .i64 10,.int .i64 255,.int .i64 1114111] 3)).alloc (.cells #[.int .i64 n,.int .i64 (97+(m1:Int))] 3)).cells;clear hp hg)
   |(go_simp;go_at_call 12;(with_reducible (refine(iw (W:=w3.alloc (.cells #[.int .i64 0,.int .i64 65,.int .i64 10,.int .i64 255,.int .i64 1114111] 3)) (n:=2) (cu.alloc jP.out _) (by omega) (by omega)).mono ?_));rintro e w4 ⟨rfl,hp,hg⟩;have dF:w3.heap.size+1<=w4.heap.size:=(by have hs:=hg.size;(try simp at hs);omega);rw[<- tK.out];have su:=hh9 hp;have bD:=hh9 (nE hg (dn aG.out _));have F6:=pE F3 hg (by simp) (by omega);have jJ:=hh9 (fM.grown (fM.alloc HZ3.out _) hg (by omega));obtain⟨z0,z1,z2,z3,z4,z5,y0,y1,y2,y3,y4,y5⟩:=jJ.out.cells;obtain⟨t0,t1,t2,t3,t4,t5,x0,x1,x2,x3,x4,x5⟩:=(jJ.out.alloc (.cells #[.int .i64 n,.int .i64 (97+(m1:Int))] 3)).cells;clear hp hg)
   |(go_simp;go_at_call 12;(with_reducible (refine(iw (W:=w3.alloc (.cells #[.int .i64 n,.int .i64 (97+(m1:Int))] 3)) (n:=2) (cu.alloc jP.out _) (by omega) (by omega)).mono ?_));rintro e w4 ⟨rfl,hp,hg⟩;have dF:w3.heap.size+1<=w4.heap.size:=(by have hs:=hg.size;(try simp at hs);omega);rw[<- tK.out];have su:=hh9 hp;have bD:=hh9 (nE hg (dn aG.out _));have jX:=hh9 ((hg.block w3.heap.size (by simp) (fun e=>by have:=zbB e;have:=jP.out.lt;omega)).trans (zbO w3 _));have jJ:=hh9 (fM.grown (fM.alloc HZ3.out _) hg (by omega));obtain⟨z0,z1,z2,z3,z4,z5,y0,y1,y2,y3,y4,y5⟩:=jJ.out.cells;clear hp hg)
   |(go_simp;go_at_call 12;(with_reducible (refine(iw (W:=(w3.alloc (.cells #[.int .i64 0,.int .i64 65,.int .i64 10,.int .i64 255,.int .i64 1114111] 3)).alloc (.cells #[.int .i64 n,.int .i64 (97+(m1:Int))] 3)) (n:=2) (cu.alloc (cu.alloc jP.out _) _) (by omega) (by omega)).mono ?_));rintro e w4 ⟨rfl,hp,hg⟩;have dF:w3.heap.size+2<=w4.heap.size:=(by have hs:=hg.size;(try simp at hs);omega);rw[<- tK.out];have su:=hh9 hp;have bD:=hh9 (nE hg (dn (dn aG.out _) _));have jX:=hh9 ((hg.block (w3.heap.size+1) (by simp) (fun e=>by have:=zbB e;have:=jP.out.lt;omega)).trans (um _ _ _ (by simp)));have jJ:=hh9 (fM.grown (fM.alloc (fM.alloc HZ3.out _) _) hg (by omega));obtain⟨z0,z1,z2,z3,z4,z5,y0,y1,y2,y3,y4,y5⟩:=jJ.out.cells;clear hp hg)
   |fail)
  all_goals first
   |(rw[Dl (W:=(w4.alloc (.cells #[.int .i64 0,.int .i64 65,.int .i64 10,.int .i64 255,.int .i64 1114111] 3)).alloc (.cells #[.int .i64 n,.int .i64 (97+(m1:Int))] 3)) (fM.alloc (fM.alloc jJ.out _) _)];have aU:=hh9 (Dm (a:=a) (c:=gI (0)) (d:=0) (m1:=m1) (m2:=m2) (w:=w) (W:=(w4.alloc (.cells #[.int .i64 0,.int .i64 65,.int .i64 10,.int .i64 255,.int .i64 1114111] 3)).alloc (.cells #[.int .i64 n,.int .i64 (97+(m1:Int))] 3)) (g:=w4.heap.size+1) HN.out (um _ _ _ (by simp)) (by omega) (by omega) (by omega) (by omega) (cu.alloc (cu.alloc su.out _) _) (dn (dn bD.out _) _) hR);(try clear z0 z1 z2 z3 z4 z5 y0 y1 y2 y3 y4 y5);(try clear t0 t1 t2 t3 t4 t5 x0 x1 x2 x3 x4 x5);(try clear p0 p1 p2 p3 p4 p5 r0 r1 r2 r3 r4 r5);(try clear F1);(try clear F2);(try clear F3);(try clear F4);(try clear F5);(try clear F6);go_wp2_with fail;go_meet;exact⟨⟨6,⟨#[]⟩,.slice (some ⟨w4.heap.size+1,0,none⟩) (m2+1) 2,0,0,.slice none 0 0⟩,_,(fM.alloc (fM.alloc jJ.out _) _),rfl,aU.out⟩)
   |(rw[Dl (W:=w4.alloc (.cells #[.int .i64 n,.int .i64 (97+(m1:Int))] 3)) (fM.alloc jJ.out _)];have aU:=hh9 (Dm (a:=a) (c:=gI (0)) (d:=0) (m1:=m1) (m2:=m2) (w:=w) (W:=w4.alloc (.cells #[.int .i64 n,.int .i64 (97+(m1:Int))] 3)) (g:=w4.heap.size) HN.out (um _ _ _ rfl) (by omega) (by omega) (by omega) (by omega) (cu.alloc su.out _) (dn bD.out _) hR);(try clear z0 z1 z2 z3 z4 z5 y0 y1 y2 y3 y4 y5);(try clear t0 t1 t2 t3 t4 t5 x0 x1 x2 x3 x4 x5);(try clear p0 p1 p2 p3 p4 p5 r0 r1 r2 r3 r4 r5);(try clear F1);(try clear F2);(try clear F3);(try clear F4);(try clear F5);(try clear F6);go_wp2_with fail;go_meet;exact⟨⟨6,⟨#[]⟩,.slice (some ⟨w4.heap.size,0,none⟩) (m2+1) 2,0,0,.slice none 0 0⟩,_,(fM.alloc jJ.out _),rfl,aU.out⟩)
   |(rw[Dl (W:=w4) jJ.out];have aU:=hh9 (Dm (a:=a) (c:=gI (0)) (d:=0) (m1:=m1) (m2:=m2) (w:=w) (W:=w4) (g:=w3.heap.size+1) HN.out jX.out (by omega) (by omega) (by omega) (by omega) su.out bD.out hR);(try clear z0 z1 z2 z3 z4 z5 y0 y1 y2 y3 y4 y5);(try clear t0 t1 t2 t3 t4 t5 x0 x1 x2 x3 x4 x5);(try clear p0 p1 p2 p3 p4 p5 r0 r1 r2 r3 r4 r5);(try clear F1);(try clear F2);(try clear F3);(try clear F4);(try clear F5);(try clear F6);go_wp2_with fail;go_meet;exact⟨⟨6,⟨#[]⟩,.slice (some ⟨w3.heap.size+1,0,none⟩) (m2+1) 2,0,0,.slice none 0 0⟩,_,jJ.out,rfl,aU.out⟩)
   |(rw[Dl (W:=w4) jJ.out];have aU:=hh9 (Dm (a:=a) (c:=gI (0)) (d:=0) (m1:=m1) (m2:=m2) (w:=w) (W:=w4) (g:=w3.heap.size) HN.out jX.out (by omega) (by omega) (by omega) (by omega) su.out bD.out hR);(try clear z0 z1 z2 z3 z4 z5 y0 y1 y2 y3 y4 y5);(try clear t0 t1 t2 t3 t4 t5 x0 x1 x2 x3 x4 x5);(try clear p0 p1 p2 p3 p4 p5 r0 r1 r2 r3 r4 r5);(try clear F1);(try clear F2);(try clear F3);(try clear F4);(try clear F5);(try clear F6);go_wp2_with fail;go_meet;exact⟨⟨6,⟨#[]⟩,.slice (some ⟨w3.heap.size,0,none⟩) (m2+1) 2,0,0,.slice none 0 0⟩,_,jJ.out,rfl,aU.out⟩)
   |fail
 ·subst g;have hq3:(k:Int)%5=4:=by omega
  clear hq yA;have hn1:=mE zs (a+1) (n:=200) (by omega);have hn2:=mE zs (a+1+1) (n:=60) (by omega);go_enter Tryz.func13,Tryz.ntmps13;go_wp2_with fail
  refine(iw (n:=12) HP.out (by omega) (by omega)).mono ?_;rintro e w1 ⟨rfl,hp,hg⟩;rw[<- HK.out];have iJ:=hh9 hp;have hz1:w.heap.size+1<=w1.heap.size:=by have:=hg.size;simp at this;omega
  have aT:=hh9 (HG.out.trans hg);have HZ1:=hh9 (HZ.out.grown hg (by omega));clear hp hg HP HG HZ;obtain⟨n1,jo⟩:∃ j,j=jE zs (a+1) 200:=⟨_,rfl⟩
  obtain⟨n2,oC⟩:∃ j,j=jE zs (a+1+1) 60:=⟨_,rfl⟩
  rw[<- jo]at hn1;rw[<- oC]at hn2;have Bn:=hh9 jo;have gY:=hh9 oC;clear jo oC;go_wp2_with fail
  refine(iw (n:=200) iJ.out (by omega) (by omega)).mono ?_;rintro e w2 ⟨rfl,hp,hg⟩;rw[<- Bn.out];have fZ:=hh9 hp;have HG2:=hh9 (aT.out.trans hg);have HZ2:=hh9 (HZ1.out.grown hg (by omega));have hz2:w.heap.size+1<=w2.heap.size:=by have:=hg.size;omega
  clear hp hg iJ aT HZ1;go_wp2_with fail
  refine(iw (n:=60) fZ.out (by omega) (by omega)).mono ?_;rintro e w3 ⟨rfl,hp,hg⟩;rw[<- gY.out];have jP:=hh9 (hp.alloc (.cells #[.int .i64 (n1:Int),.int .i64 ((n1:Int)+(n2:Int))] 3));have aG:=hh9 (dn (HG2.out.trans hg) (.cells #[.int .i64 (n1:Int),.int .i64 ((n1:Int)+(n2:Int))] 3));have HZ3:=hh9 ((HZ2.out.grown hg (by omega)).alloc (.cells #[.int .i64 (n1:Int),.int .i64 ((n1:Int)+(n2:Int))] 3));have hz3:w.heap.size+1<=w3.heap.size:=by have:=hg.size;omega
  have aU:Hid (dV R v zs a (gI (0)) (0) w (.returned (XV.val ⟨7,⟨#[]⟩,.slice (some ⟨w3.heap.size,0,none⟩) 2 2,0,0,.slice none 0 0⟩)) ((w3.alloc (.cells #[.int .i64 (n1:Int),.int .i64 ((n1:Int)+(n2:Int))] 3)).setRow w.heap.size (XV.arr ⟨7,⟨#[]⟩,.slice (some ⟨w3.heap.size,0,none⟩) 2 2,0,0,.slice none 0 0⟩))) :=
   cK (bV.mk (x:=[]) (nums:=[(n1:Int),(n1:Int)+(n2:Int)]) (kids:=[]) (bq (n:=2) hz3 (um _ _ _ rfl) (by unfold maxLen;omega) rfl) (fK.nil _ _) (.inr rfl)) (.span (by omega) (by omega) (by omega)) (a':=a+1+1+1) (by omega) jP.out aG.out hR
  have HRR:=hh9 HZ3.out.res;clear hp hg fZ HG2 HZ2 jP aG HZ3;go_wp2_with (refine bA rfl _ _ rfl w.heap.size ⟨7,⟨#[]⟩,.slice (some ⟨w3.heap.size,0,none⟩) 2 2,0,0,.slice none 0 0⟩ rfl rfl HRR.out rfl rfl ?_)
  exact bodyPost_ret_by (zag rfl _ _ w.heap.size ⟨7,⟨#[]⟩,.slice (some ⟨w3.heap.size,0,none⟩) 2 2,0,0,.slice none 0 0⟩ rfl HRR.out) rfl aU.out
end Go.Proofs.YtahibnnhjahmnaaGreatDoor
