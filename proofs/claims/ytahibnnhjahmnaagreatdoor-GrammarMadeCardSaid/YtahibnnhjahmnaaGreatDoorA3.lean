/- Part 3 of what the laws of the grammar rest on. -/
import Derived.Test.YtahibnnhjahmnaaGreatDoorA2
set_option linter.all false
set_option maxRecDepth 100000
set_option maxHeartbeats 8000000
namespace Go.Proofs.YtahibnnhjahmnaaGreatDoor
open Go.RowKit
def iH(W:World)(g:Nat):Prop:=W.heap[g]?=some (.cells #[.string ⟨#[]⟩,.bool false,.int .i64 0,.string ⟨#[]⟩,.slice none 0 0,.int .i64 0,.int .i64 0,.slice none 0 0] 31 (0,0))
theorem iH.lt{W:World}{g:Nat}(h:iH W g):g<W.heap.size:=(zbD.1 h).1
theorem iH.grown{W W':World}{g R:Nat}(h:iH W g)(hg:W.grownBy W' (some R))(hne:g≠R):iH W' g:=(hg.block g h.lt (fun e=>hne (zbB e))).trans h
theorem iH.alloc{W:World}{g:Nat}(h:iH W g)(o:Obj):iH (W.alloc o) g:=(zbP W o g h.lt).trans h
theorem iH.new(W:World){g:Nat}(h:g=W.heap.size):iH (W.alloc (.cells #[.string ⟨#[]⟩,.bool false,.int .i64 0,.string ⟨#[]⟩,.slice none 0 0,.int .i64 0,.int .i64 0,.slice none 0 0] 31)) g:=by subst h;exact zbO W _
theorem iH.drew{W:World}{g:Nat}(h:iH W g):iH W.drew g:=h
theorem iH.cells{W:World}{g:Nat}(h:iH W g):W.cell? ⟨g,0,none⟩=some (.string ⟨#[]⟩)/\W.cell? ⟨g,1,none⟩=some (.bool false)/\W.cell? ⟨g,2,none⟩=some (.int .i64 0)/\W.cell? ⟨g,3,none⟩=some (.string ⟨#[]⟩)/\W.cell? ⟨g,4,none⟩=some (.slice none 0 0)/\W.cell? ⟨g,5,none⟩=some (.int .i64 0)/\W.cell? ⟨g,6,none⟩=some (.int .i64 0)/\W.cell? ⟨g,7,none⟩=some (.slice none 0 0) /\
  W.frozen? ⟨g,0,none⟩=false/\W.frozen? ⟨g,1,none⟩=false/\W.frozen? ⟨g,2,none⟩=false/\W.frozen? ⟨g,3,none⟩=false/\W.frozen? ⟨g,4,none⟩=false/\W.frozen? ⟨g,5,none⟩=false/\W.frozen? ⟨g,6,none⟩=false/\W.frozen? ⟨g,7,none⟩=false:=by
 unfold iH at h;simp[World.cell?,World.frozen?,h]
theorem Wu{W:World}{g:Nat}(h:iH W g)(c0 c1 c2 c3 c4 c5 c6 c7:Value) :
  (((((((W.setCell ⟨g,0,none⟩ c0).setCell ⟨g,1,none⟩ c1).setCell ⟨g,2,none⟩ c2).setCell ⟨g,3,none⟩ c3).setCell ⟨g,4,none⟩ c4).setCell ⟨g,5,none⟩ c5).setCell ⟨g,6,none⟩ c6).setCell ⟨g,7,none⟩ c7=W.setRow g #[c0,c1,c2,c3,c4,c5,c6,c7]:=by
 rw[setCell_eq_setRow W g 0 _ _ _ c0 h];rw[setCell_eq_setRow _ g 1 _ _ _ c1 (setRow_heap _ _ _ _ _ _ h),setRow_setRow];rw[setCell_eq_setRow _ g 2 _ _ _ c2 (setRow_heap _ _ _ _ _ _ h),setRow_setRow];rw[setCell_eq_setRow _ g 3 _ _ _ c3 (setRow_heap _ _ _ _ _ _ h),setRow_setRow];rw[setCell_eq_setRow _ g 4 _ _ _ c4 (setRow_heap _ _ _ _ _ _ h),setRow_setRow];rw[setCell_eq_setRow _ g 5 _ _ _ c5 (setRow_heap _ _ _ _ _ _ h),setRow_setRow];rw[setCell_eq_setRow _ g 6 _ _ _ c6 (setRow_heap _ _ _ _ _ _ h),setRow_setRow];rw[setCell_eq_setRow _ g 7 _ _ _ c7 (setRow_heap _ _ _ _ _ _ h),setRow_setRow];simp only[List.setIfInBounds_toArray,List.set_cons_zero,List.set_cons_succ]
def xV(W:World)(g:Nat)(s:ByteArray)(b:Bool):Prop:=W.heap[g]?=some (.cells #[.string s,.bool b,.int .i64 0,.string ⟨#[]⟩,.slice none 0 0,.int .i64 0,.int .i64 0,.slice none 0 0] 31 (0,0))
theorem xV.lt{W:World}{g:Nat}{s:ByteArray}{b:Bool}(h:xV W g s b):g<W.heap.size:=(zbD.1 h).1
theorem xV.grown{W W':World}{g R:Nat}{s:ByteArray}{b:Bool}(h:xV W g s b)(hg:W.grownBy W' (some R))(hne:g≠R):xV W' g s b:=(hg.block g h.lt (fun e=>hne (zbB e))).trans h
theorem xV.cells{W:World}{g:Nat}{s:ByteArray}{b:Bool}(h:xV W g s b):W.cell? ⟨g,2,none⟩=some (.int .i64 0)/\W.cell? ⟨g,3,none⟩=some (.string ⟨#[]⟩)/\W.cell? ⟨g,4,none⟩=some (.slice none 0 0)/\W.cell? ⟨g,5,none⟩=some (.int .i64 0)/\W.cell? ⟨g,6,none⟩=some (.int .i64 0)/\W.cell? ⟨g,7,none⟩=some (.slice none 0 0) /\
  W.frozen? ⟨g,2,none⟩=false/\W.frozen? ⟨g,3,none⟩=false/\W.frozen? ⟨g,4,none⟩=false/\W.frozen? ⟨g,5,none⟩=false/\W.frozen? ⟨g,6,none⟩=false/\W.frozen? ⟨g,7,none⟩=false:=by
 unfold xV at h;simp[World.cell?,World.frozen?,h]
theorem zzi{W:World}{g:Nat}{s:ByteArray}{b:Bool}(h:xV W g s b)(c2 c3 c4 c5 c6 c7:Value) :
  (((((W.setCell ⟨g,2,none⟩ c2).setCell ⟨g,3,none⟩ c3).setCell ⟨g,4,none⟩ c4).setCell ⟨g,5,none⟩ c5).setCell ⟨g,6,none⟩ c6).setCell ⟨g,7,none⟩ c7=W.setRow g #[.string s,.bool b,c2,c3,c4,c5,c6,c7]:=by
 rw[setCell_eq_setRow W g 2 _ _ _ c2 h];rw[setCell_eq_setRow _ g 3 _ _ _ c3 (setRow_heap _ _ _ _ _ _ h),setRow_setRow];rw[setCell_eq_setRow _ g 4 _ _ _ c4 (setRow_heap _ _ _ _ _ _ h),setRow_setRow];rw[setCell_eq_setRow _ g 5 _ _ _ c5 (setRow_heap _ _ _ _ _ _ h),setRow_setRow];rw[setCell_eq_setRow _ g 6 _ _ _ c6 (setRow_heap _ _ _ _ _ _ h),setRow_setRow];rw[setCell_eq_setRow _ g 7 _ _ _ c7 (setRow_heap _ _ _ _ _ _ h),setRow_setRow];rfl
def Named(R:Nat)(v:Value)(zs:List Int)(a:Nat)(wr W:World)(s6:Value)(g:Nat)(x:List Int)(b:Bool):Prop :=
 s6=.pointer (some ⟨g,0,none⟩)/\x∈wG/\xV W g (ak x) b/\wr.heap.size<=g/\cu W R v zs a/\wr.grownBy W (some R)
theorem Wv{R:Nat}{v:Value}{zs:List Int}{a:Nat}{wr W:World}{g:Nat}{x:List Int}{s:ByteArray}(b:Bool)(hz:iH W g)(hgl:wr.heap.size<=g)(hp:cu W R v zs a)(hg:wr.grownBy W (some R))(hx:x∈wG)(hs:s=ak x)(hR:R<wr.heap.size) :
  Named R v zs a wr (W.setRow g #[.string s,.bool b,.int .i64 0,.string ⟨#[]⟩,.slice none 0 0,.int .i64 0,.int .i64 0,.slice none 0 0]) (.pointer (some ⟨g,0,none⟩)) g x b:=by
 subst hs;exact⟨rfl,hx,setRow_heap _ _ _ _ _ _ hz,hgl,hp.aj (by omega) _,dY hg hgl _⟩
theorem Qj{R:Nat}{v:Value}{zs:List Int}{a:Nat}{wr W:World}{g:Nat}{x:List Int}{s:ByteArray}{b:Bool}(hz:xV W g s b)(hgl:wr.heap.size<=g)(hp:cu W R v zs a)(hg:wr.grownBy W (some R))(hx:x∈wG)(hs:s=ak x) :
  Named R v zs a wr W (.pointer (some ⟨g,0,none⟩)) g x b:=by
 subst hs;exact⟨rfl,hx,hz,hgl,hp,hg⟩
def qe4(R:Nat)(v:Value)(zs:List Int)(a c d:Nat)(w:World)(e:Ending)(w':World):Prop :=
 ∃ (k lo hi:Int) (s:ByteArray) (b1 b2:Option Addr) (n1 c1 n2 c2:Nat) (t:Tree) (a':Nat),bV w' (w.heap.size+1) ⟨k,s,.slice b1 n1 c1,lo,hi,.slice b2 n2 c2⟩ t/\Mk d t /\
  e=.returned (.agg #[.int .i64 k,.string s,.slice b1 n1 c1,.int .i64 lo,.int .i64 hi,.slice b2 n2 c2])/\a'<=a+c/\cu w' R v zs a'/\w.grownBy w' (some R)
theorem jW.Qk{d:Nat}(h:jW d){R a:Nat}{v:Value}{zs:List Int}{w:World}(D:Int)(hD:D=d)(hp:cu w R v zs a)(hc:a+gI d<=1000000) :
  Calls Tryz.prog 13 #[.pointer (some ⟨R,0,none⟩),.int .i64 D] w (qe4 R v zs a (gI d) d w):=by
 refine(h D hD hp hc).mono ?_;rintro e w' ⟨X,t,a',ht,hm,rfl,ha,hp,hg⟩;have ht2:=ht.tree;obtain⟨k,s,ns,lo,hi,ks⟩:=X
 obtain⟨b1,n1,c1,rfl⟩:∃ a n c,ns=.slice a n c:=by
  cases ht2 with
  |mk vs h1 h2 h3 h4=>exact Nv h1
 obtain⟨b2,n2,c2,rfl⟩:∃ a n c,ks=.slice a n c:=by
  cases ht2 with
  |mk vs h1 h2 h3 h4=>exact Nv h2
 exact⟨k,lo,hi,s,b1,b2,n1,c1,n2,c2,t,a',ht,hm,rfl,ha,hp,hg⟩
def qe5(R:Nat)(v:Value)(zs:List Int)(a:Nat)(wr wc w5 W:World)(g:Nat)(s:ByteArray)(b:Bool)(X:XV)(t:Tree)(a':Nat):Prop :=
 W=w5.setRow g #[.string s,.bool b,.int .i64 X.kind,.string X.text,X.ns,.int .i64 X.lo,.int .i64 X.hi,X.ks]/\bV w5 (wc.heap.size+1) X t/\Mk 3 t/\a'<=a+gI 3/\cu w5 R v zs a'/\wc.grownBy w5 (some R)/\xV w5 g s b
theorem qc6:(Tryz.prog.info? 31).map (fun i=>(i.zero,i.size,i.bytes))=some (some (.agg #[.string ⟨#[]⟩,.bool false,.int .i64 0,.string ⟨#[]⟩,.slice none 0 0,.int .i64 0,.int .i64 0,.slice none 0 0]),8,112):=by kernel_rfl
theorem qe6:(Tryz.prog.info? 31).map (·.size)=some 8:=by kernel_rfl
theorem ztr{ops:Array Oper}{rest:List Oper}{o:Oper}{a:Act}{w:World}{Q:Exit->Act->World->Prop}(hgd:o.guard=none)(x:Operand)(ho:o.op=.load 31 x)
  (g:Nat) (y:LV) (hx:a.eval x=.pointer (some ⟨g,0,none⟩)) (hg:w.heap[g]?=some (.cells y.arr 31 (0,0)))
  (h:wpList Tryz.prog ops Q rest (a.put o.dst y.val) w):wpList Tryz.prog ops Q (o::rest) a w :=
 wpList_load_row hgd 31 x ho g hx 31 y.arr (0,0) _ hg Tryz.underlying31 rfl qe6 h
theorem zts(y:LV)(h1:y.expr.ns.oneCell'=true)(h2:y.expr.ks.oneCell'=true) :
  Instr.fill (fun i=>some (i*8,8)) ((Array.range (1*8)).map ((Value.agg #[.string ⟨#[]⟩,.bool false,.int .i64 0,.string ⟨#[]⟩,.slice none 0 0,.int .i64 0,.int .i64 0,.slice none 0 0]).cells[·%8]!)) [(0,y.val)]=some y.arr:=by
 obtain⟨a,b,c⟩:=y
 cases c
 kernel_rfl
theorem zqr{ops:Array Oper}{rest:List Oper}{o:Oper}{a:Act}{w:World}{Q:Exit->Act->World->Prop}(hgd:o.guard=none)(z:Operand)(ho:o.op=.buildSlice 23 1 #[(0,z)])
  (y:LV) (hy:a.eval z=y.val) (h1:y.expr.ns.oneCell'=true) (h2:y.expr.ks.oneCell'=true)
  (h:wpList Tryz.prog ops Q rest (a.put o.dst (.slice (some ⟨w.heap.size,0,none⟩) 1 1)) (w.alloc (.cells y.arr 31))):wpList Tryz.prog ops Q (o::rest) a w:=by
 obtain⟨i0,hi0,hi1⟩:=Option.map_eq_some_iff.1 qc6;obtain⟨hz0,hz1,hz2⟩:i0.zero=some _/\i0.size=8/\i0.bytes=_:=by simpa using hi1
 refine wpList_buildSlice hgd 23 31 1 #[(0,z)] ho y.arr i0 _ Tryz.underlying23 hi0 hz0 (by rw[hz1];decide) (by rw[hz1];decide) ?_ h;rw[hz1];simp only[List.map_toArray,List.map_cons,List.map_nil,hy];exact zts y h1 h2
theorem zqs{w:World}{g:Nat}{y:LV}(hb:w.heap[g]?=some (.cells y.arr 31 (0,0))):∀ (j:Nat) (u:Value),y.cells[j]?=some u->w.cell? ((⟨g,0,none⟩:Addr).add j)=some u:=by
 intro j u hj;have e:(⟨g,0,none⟩:Addr).add j=⟨g,j,none⟩:=by cases j<;>simp[Addr.add]
 rw[e];simp only[World.cell?,hb];have:y.arr.toList=y.cells:=rfl;rw[<- this]at hj;simpa using hj
theorem qco{ops:Array Oper}{rest:List Oper}{o:Oper}{a:Act}{w:World}{Q:Exit->Act->World->Prop}(hgd:o.guard=none)(sx xx:Operand)
  (ho:o.op=.call { callee:=.builtin .append,args:=#[sx,xx],argTypes:=#[23,23] }) (base:Nat) (v:Value) (n:Nat) (ys:List LV) (x:LV) (g:Nat)
  (hs:a.eval sx=v) (hx:a.eval xx=.slice (some ⟨g,0,none⟩) 1 1) (h2:w.ownsRow base 31 8 v n (ys.flatMap LV.cells))
  (hb:w.heap[g]?=some (.cells x.arr 31 (0,0))) (o2:x.expr.ns.oneCell'=true) (o5:x.expr.ks.oneCell'=true) (hl:n<=100000) (hbase:base<=w.heap.size)
  (h:∀ v' w',w'.ownsRow base 31 8 v' (n+1) (ys.flatMap LV.cells++x.cells)->w.grownBy w' v.ownBlock->(v'.ownBlock=v.ownBlock\/∃ k,v'.ownBlock=some k/\w.heap.size<=k)->wpList Tryz.prog ops Q rest (a.put o.dst v') w'):wpList Tryz.prog ops Q (o::rest) a w:=by
 obtain⟨i0,hi0,hi1⟩:=Option.map_eq_some_iff.1 qc6;obtain⟨hz0,hz1,hz2⟩:i0.zero=some _/\i0.size=8/\i0.bytes=_:=by simpa using hi1
 refine wpList_append_own_at _ hgd sx xx 23 ho base 31 i0 _ 8 112 Tryz.underlying23 hi0 hz0 hz1 hz2 rfl (by decide) v n (ys.flatMap LV.cells) hs h2 ⟨g,0,none⟩ 1 1 x.cells hx rfl (zqs hb) ?_ (by unfold maxLen;omega) (by omega) hbase ?_
 ·intro u hu;simp[LV.cells]at hu;rcases hu with rfl|rfl|rfl|rfl|rfl|rfl|rfl|rfl
  all_goals first|assumption|rfl
 ·intro v' w' hown hgrow _ hat;exact h v' w' hown hgrow (hat.imp id (fun e=>⟨_,e,zbA _⟩))
theorem jr{W:World}{g j:Nat}{u:Value}(h:W.cell? ⟨g,j,none⟩=some u)(o:Obj):(W.alloc o).cell? ⟨g,j,none⟩=some u:=by
 have hl:g<W.heap.size:=World.block_lt_of_cell? W ⟨g,j,none⟩ h;rw[World.cell?_of_block (w:=W) (zbP W o g hl)];exact h
theorem zqt{W:World}{g j:Nat}{u:Value}(h:W.cell? ⟨g,j,none⟩=some u)(o:Obj):(W.alloc o).cell? ⟨g,j,none⟩=some u:=jr h o
theorem zoo{w wr w':World}{R:Nat}(hb:Below w.heap.size w wr)(hg:wr.grownBy w' (some R))(hR:w.heap.size<=R):Below w.heap.size w w' :=
 hb.trans ⟨hg.os,hg.tape,hg.output,hg.size,fun k hk=>hg.block k (by have:=hb.size;omega) (fun e=>by have:=zbB e;omega)⟩
def Bp(l:List Rule):Prop:=∀ r∈l,r.name∈wG/\Mk 3 r.expr
def Ql(w wr:World)(R:Nat)(v:Value)(zs:List Int)(v4:Value)(n1 i:Nat)(l:List Rule)(ys:List LV)(a:Nat):Prop :=
 LT wr (R+1) v4 l ys/\l.length+i=1+n1/\Bp l/\cu wr R v zs a/\a<=1+l.length*1000/\Below w.heap.size w wr
def Ww(w:World)(e:Ending)(w':World):Prop :=
 ∃ (v:Value) (l:List Rule) (ys:List LV),e=.returned v/\LT w' (w.heap.size+1) v l ys/\1<=l.length/\l.length<=5/\Bp l/\Below w.heap.size w w'
theorem zzj{v:Value}{zs:List Int}{w:World}(hv:GY w w.heap.size v zs):Calls Tryz.prog 4 #[v] w (Ww w):=by
 obtain⟨R,hR⟩:∃ R,R=w.heap.size:=⟨_,rfl⟩
 rw[<- hR]at hv
 have HP:Hid (cu (w.alloc (.cells #[v,.int .i64 0] 43)) R v zs 0):=by
  refine⟨?_,hv.kept (fun b hb=>zbP _ _ _ (by omega))⟩;rw[hR];exact zbO w _
 have HB:=hh9 ((zbE w.heap.size w).alloc (zbA _) (.cells #[v,.int .i64 0] 43));have hn1:=mE zs 0 (n:=5) (by omega);obtain⟨n1,jo⟩:∃ j,j=jE zs 0 5:=⟨_,rfl⟩
 rw[<- jo]at hn1;have Bn:=hh9 jo;have HRW:=hh9 hR;obtain⟨p,cap,rfl,_⟩:=hv;clear jo;go_enter Tryz.func4,Tryz.ntmps4;go_wp2_with fail
 rw[<- hR];refine(iw (n:=5) HP.out (by omega) (by omega)).mono ?_;rintro e w1 ⟨rfl,hp,hg⟩;rw[<- Bn.out];have Jr:Hid (Ql w w1 R (.slice p zs.length cap) zs (.slice none 0 0) n1 (1+n1) [] [] (0+1)):=⟨LT.nil _ _,by simp,fun r h=>by simp at h,hp,by simp,zoo HB.out hg (by omega)⟩
 clear hp hg HP HB hR;go_wp2_with fail
 go_loopw [4,5] (fun v4 v5 wr=>∃ (i:Nat) (l:List Rule) (ys:List LV) (a:Nat),v5=.int .i64 i/\Hid (Ql w wr R (.slice p zs.length cap) zs v4 n1 i l ys a)) (fun _ v5 _=>(intOf v5).toNat)
 case atStart=>exact⟨1+n1,[],[],_,by go_num,Jr⟩
 case round =>
  clear Jr;obtain⟨i,l,ys,a,rfl,HM⟩:=hrel;have G6:=HM.out.2.1;have ha1:=HM.out.2.2.2.2.1;by_cases hi:0<i
  ·have q1:decide ((0:Int)<(i:Int))=true:=zbN (by omega);obtain⟨x,hx,hcell⟩:=Qf (jE zs a 5) (by have:=mE zs a (n:=5) (by omega);omega);have HX:=hh9 hx;have hj:=mE zs a (n:=5) (by omega);have hp2:=mE zs (a+1) (n:=5) (by omega);obtain⟨s,hs⟩:∃ s,s=ak x:=⟨_,rfl⟩
   have HS:=hh9 hs;rw[<- hs]at hcell;obtain⟨j,hj0⟩:∃ j,j=jE zs a 5:=⟨_,rfl⟩
   obtain⟨p2,EB⟩:∃ j,j=jE zs (a+1) 5:=⟨_,rfl⟩
   rw[<- hj0]at hj hcell;rw[<- EB]at hp2;have gq:Hid (∀ (W:World) (g:Nat),g=W.heap.size->(W.alloc (.cells #[.string ⟨#[97]⟩,.string ⟨#[98]⟩,.string ⟨#[99]⟩,.string ⟨#[119,111,114,100]⟩,.string ⟨#[120,45,49]⟩] 9)).cell? ⟨g,j,none⟩=some (.string s)):=fun W g hg=>by subst hg;exact Dk W _ _ _ hcell
   have yC:=hh9 hj0;have yD:=hh9 EB;have iJ:=hh9 HM.out.2.2.2.1;have aT:=hh9 (iq wr (some R));have hRr:R<wr.heap.size:=iJ.out.lt;clear hx hs hj0 EB hcell;go_wp2_with fail
   go_cut [6]from 17 to 25 (fun s6 W=>∃ (g:Nat) (x:List Int) (b:Bool),Named R (.slice p zs.length cap) zs (a+1+1) wr W s6 g x b)
   case first =>
    go_region_law (first
     |(go_simp;go_at_call 12;(with_reducible (refine(iw (W:=wr.drew) (n:=5) (cu.drew iJ.out) (by omega) (by omega)).mono ?_));rintro e w2 ⟨rfl,hp,hg⟩;have hz2:wr.heap.size+0<=w2.heap.size:=(by have hs:=hg.size;(try simp at hs);omega);rw[<- yC.out];have fZ:=hh9 hp;have HG2:=hh9 (nE hg (Bl aT.out));(try (have Bq:=jr F1 (.cells #[.string ⟨#[]⟩,.bool false,.int .i64 0,.string ⟨#[]⟩,.slice none 0 0,.int .i64 0,.int .i64 0,.slice none 0 0] 31)));have Br:=gq.out w2 (w2.heap.size) (by simp);have Bt:=gq.out (w2.alloc (.cells #[.string ⟨#[]⟩,.bool false,.int .i64 0,.string ⟨#[]⟩,.slice none 0 0,.int .i64 0,.int .i64 0,.slice none 0 0] 31)) (w2.heap.size+1) (by simp);have Bu:=jr (gq.out w2 (w2.heap.size) (by simp)) (.cells #[.string ⟨#[]⟩,.bool false,.int .i64 0,.string ⟨#[]⟩,.slice none 0 0,.int .i64 0,.int .i64 0,.slice none 0 0] 31);clear hp hg)
     |(go_simp;go_at_call 12;(with_reducible (refine(iw (W:=(wr.alloc (.cells #[.string ⟨#[97]⟩,.string ⟨#[98]⟩,.string ⟨#[99]⟩,.string ⟨#[119,111,114,100]⟩,.string ⟨#[120,45,49]⟩] 9)).drew) (n:=5) (cu.drew (cu.alloc iJ.out _)) (by omega) (by omega)).mono ?_));rintro e w2 ⟨rfl,hp,hg⟩;have hz2:wr.heap.size+1<=w2.heap.size:=(by have hs:=hg.size;(try simp at hs);omega);rw[<- yC.out];have fZ:=hh9 hp;have HG2:=hh9 (nE hg (Bl (dn aT.out _)));have F1:w2.cell? ⟨wr.heap.size,j,none⟩=some (.string s):=pE (W:=(wr.alloc (.cells #[.string ⟨#[97]⟩,.string ⟨#[98]⟩,.string ⟨#[99]⟩,.string ⟨#[119,111,114,100]⟩,.string ⟨#[120,45,49]⟩] 9)).drew) (gq.out wr (wr.heap.size) (by simp)) hg (by simp<;>omega) (by omega);(try (have Bq:=jr F1 (.cells #[.string ⟨#[]⟩,.bool false,.int .i64 0,.string ⟨#[]⟩,.slice none 0 0,.int .i64 0,.int .i64 0,.slice none 0 0] 31)));have Br:=gq.out w2 (w2.heap.size) (by simp);have Bt:=gq.out (w2.alloc (.cells #[.string ⟨#[]⟩,.bool false,.int .i64 0,.string ⟨#[]⟩,.slice none 0 0,.int .i64 0,.int .i64 0,.slice none 0 0] 31)) (w2.heap.size+1) (by simp);have Bu:=jr (gq.out w2 (w2.heap.size) (by simp)) (.cells #[.string ⟨#[]⟩,.bool false,.int .i64 0,.string ⟨#[]⟩,.slice none 0 0,.int .i64 0,.int .i64 0,.slice none 0 0] 31);clear hp hg)
     |(go_simp;go_at_call 12;(with_reducible (refine(iw (W:=(wr.alloc (.cells #[.string ⟨#[]⟩,.bool false,.int .i64 0,.string ⟨#[]⟩,.slice none 0 0,.int .i64 0,.int .i64 0,.slice none 0 0] 31)).drew) (n:=5) (cu.drew (cu.alloc iJ.out _)) (by omega) (by omega)).mono ?_));rintro e w2 ⟨rfl,hp,hg⟩;have hz2:wr.heap.size+1<=w2.heap.size:=(by have hs:=hg.size;(try simp at hs);omega);rw[<- yC.out];have fZ:=hh9 hp;have HG2:=hh9 (nE hg (Bl (dn aT.out _)));have gY:Hid (iH w2 (wr.heap.size)):=iH.grown (W:=(wr.alloc (.cells #[.string ⟨#[]⟩,.bool false,.int .i64 0,.string ⟨#[]⟩,.slice none 0 0,.int .i64 0,.int .i64 0,.slice none 0 0] 31)).drew) (iH.drew (iH.new (g:=wr.heap.size) wr (by simp))) hg (by(try simp)<;>omega);(try (have Bq:=jr F1 (.cells #[.string ⟨#[]⟩,.bool false,.int .i64 0,.string ⟨#[]⟩,.slice none 0 0,.int .i64 0,.int .i64 0,.slice none 0 0] 31)));have Br:=gq.out w2 (w2.heap.size) (by simp);have Bt:=gq.out (w2.alloc (.cells #[.string ⟨#[]⟩,.bool false,.int .i64 0,.string ⟨#[]⟩,.slice none 0 0,.int .i64 0,.int .i64 0,.slice none 0 0] 31)) (w2.heap.size+1) (by simp);have Bu:=jr (gq.out w2 (w2.heap.size) (by simp)) (.cells #[.string ⟨#[]⟩,.bool false,.int .i64 0,.string ⟨#[]⟩,.slice none 0 0,.int .i64 0,.int .i64 0,.slice none 0 0] 31);clear hp hg)
     |(go_simp;go_at_call 12;(with_reducible (refine(iw (W:=((wr.alloc (.cells #[.string ⟨#[97]⟩,.string ⟨#[98]⟩,.string ⟨#[99]⟩,.string ⟨#[119,111,114,100]⟩,.string ⟨#[120,45,49]⟩] 9)).alloc (.cells #[.string ⟨#[]⟩,.bool false,.int .i64 0,.string ⟨#[]⟩,.slice none 0 0,.int .i64 0,.int .i64 0,.slice none 0 0] 31)).drew) (n:=5) (cu.drew (cu.alloc (cu.alloc iJ.out _) _)) (by omega) (by omega)).mono ?_));rintro e w2 ⟨rfl,hp,hg⟩;have hz2:wr.heap.size+2<=w2.heap.size:=(by have hs:=hg.size;(try simp at hs);omega);rw[<- yC.out];have fZ:=hh9 hp;have HG2:=hh9 (nE hg (Bl (dn (dn aT.out _) _)));have F1:w2.cell? ⟨wr.heap.size,j,none⟩=some (.string s):=pE (W:=((wr.alloc (.cells #[.string ⟨#[97]⟩,.string ⟨#[98]⟩,.string ⟨#[99]⟩,.string ⟨#[119,111,114,100]⟩,.string ⟨#[120,45,49]⟩] 9)).alloc (.cells #[.string ⟨#[]⟩,.bool false,.int .i64 0,.string ⟨#[]⟩,.slice none 0 0,.int .i64 0,.int .i64 0,.slice none 0 0] 31)).drew) ((jr (gq.out wr (wr.heap.size) (by simp)) (.cells #[.string ⟨#[]⟩,.bool false,.int .i64 0,.string ⟨#[]⟩,.slice none 0 0,.int .i64 0,.int .i64 0,.slice none 0 0] 31))) hg (by simp<;>omega) (by omega);have gY:Hid (iH w2 (wr.heap.size+1)):=iH.grown (W:=((wr.alloc (.cells #[.string ⟨#[97]⟩,.string ⟨#[98]⟩,.string ⟨#[99]⟩,.string ⟨#[119,111,114,100]⟩,.string ⟨#[120,45,49]⟩] 9)).alloc (.cells #[.string ⟨#[]⟩,.bool false,.int .i64 0,.string ⟨#[]⟩,.slice none 0 0,.int .i64 0,.int .i64 0,.slice none 0 0] 31)).drew) (iH.drew (iH.new (g:=wr.heap.size+1) (wr.alloc (.cells #[.string ⟨#[97]⟩,.string ⟨#[98]⟩,.string ⟨#[99]⟩,.string ⟨#[119,111,114,100]⟩,.string ⟨#[120,45,49]⟩] 9)) (by simp))) hg (by(try simp)<;>omega);(try (have Bq:=jr F1 (.cells #[.string ⟨#[]⟩,.bool false,.int .i64 0,.string ⟨#[]⟩,.slice none 0 0,.int .i64 0,.int .i64 0,.slice none 0 0] 31)));have Br:=gq.out w2 (w2.heap.size) (by simp);have Bt:=gq.out (w2.alloc (.cells #[.string ⟨#[]⟩,.bool false,.int .i64 0,.string ⟨#[]⟩,.slice none 0 0,.int .i64 0,.int .i64 0,.slice none 0 0] 31)) (w2.heap.size+1) (by simp);have Bu:=jr (gq.out w2 (w2.heap.size) (by simp)) (.cells #[.string ⟨#[]⟩,.bool false,.int .i64 0,.string ⟨#[]⟩,.slice none 0 0,.int .i64 0,.int .i64 0,.slice none 0 0] 31);clear hp hg)
     |(go_simp;go_at_call 12;(with_reducible (refine(iw (W:=((wr.alloc (.cells #[.string ⟨#[]⟩,.bool false,.int .i64 0,.string ⟨#[]⟩,.slice none 0 0,.int .i64 0,.int .i64 0,.slice none 0 0] 31)).alloc (.cells #[.string ⟨#[97]⟩,.string ⟨#[98]⟩,.string ⟨#[99]⟩,.string ⟨#[119,111,114,100]⟩,.string ⟨#[120,45,49]⟩] 9)).drew) (n:=5) (cu.drew (cu.alloc (cu.alloc iJ.out _) _)) (by omega) (by omega)).mono ?_));rintro e w2 ⟨rfl,hp,hg⟩;have hz2:wr.heap.size+2<=w2.heap.size:=(by have hs:=hg.size;(try simp at hs);omega);rw[<- yC.out];have fZ:=hh9 hp;have HG2:=hh9 (nE hg (Bl (dn (dn aT.out _) _)));have F1:w2.cell? ⟨wr.heap.size+1,j,none⟩=some (.string s):=pE (W:=((wr.alloc (.cells #[.string ⟨#[]⟩,.bool false,.int .i64 0,.string ⟨#[]⟩,.slice none 0 0,.int .i64 0,.int .i64 0,.slice none 0 0] 31)).alloc (.cells #[.string ⟨#[97]⟩,.string ⟨#[98]⟩,.string ⟨#[99]⟩,.string ⟨#[119,111,114,100]⟩,.string ⟨#[120,45,49]⟩] 9)).drew) (gq.out (wr.alloc (.cells #[.string ⟨#[]⟩,.bool false,.int .i64 0,.string ⟨#[]⟩,.slice none 0 0,.int .i64 0,.int .i64 0,.slice none 0 0] 31)) (wr.heap.size+1) (by simp)) hg (by simp<;>omega) (by omega);have gY:Hid (iH w2 (wr.heap.size)):=iH.grown (W:=((wr.alloc (.cells #[.string ⟨#[]⟩,.bool false,.int .i64 0,.string ⟨#[]⟩,.slice none 0 0,.int .i64 0,.int .i64 0,.slice none 0 0] 31)).alloc (.cells #[.string ⟨#[97]⟩,.string ⟨#[98]⟩,.string ⟨#[99]⟩,.string ⟨#[119,111,114,100]⟩,.string ⟨#[120,45,49]⟩] 9)).drew) (iH.drew (iH.alloc (iH.new (g:=wr.heap.size) wr (by simp)) _)) hg (by(try simp)<;>omega);(try (have Bq:=jr F1 (.cells #[.string ⟨#[]⟩,.bool false,.int .i64 0,.string ⟨#[]⟩,.slice none 0 0,.int .i64 0,.int .i64 0,.slice none 0 0] 31)));have Br:=gq.out w2 (w2.heap.size) (by simp);have Bt:=gq.out (w2.alloc (.cells #[.string ⟨#[]⟩,.bool false,.int .i64 0,.string ⟨#[]⟩,.slice none 0 0,.int .i64 0,.int .i64 0,.slice none 0 0] 31)) (w2.heap.size+1) (by simp);have Bu:=jr (gq.out w2 (w2.heap.size) (by simp)) (.cells #[.string ⟨#[]⟩,.bool false,.int .i64 0,.string ⟨#[]⟩,.slice none 0 0,.int .i64 0,.int .i64 0,.slice none 0 0] 31);clear hp hg)
     |(go_simp;go_at_call 12;(with_reducible (refine(iw (W:=w2) (n:=5) fZ.out (by omega) (by omega)).mono ?_));rintro e w3 ⟨rfl,hp,hg⟩;have hz3:w2.heap.size+0<=w3.heap.size:=(by have hs:=hg.size;(try simp at hs);omega);rw[<- yD.out];have jP:=hh9 hp;have aG:=hh9 (nE hg HG2.out);(try (have F2:=pE (W:=w2) F1 hg (by(try simp);omega) (by omega)));(try (have rO:=hh9 (iH.grown (W:=w2) gY.out hg (by omega))));(try (have Bw:=jr F2 (.cells #[.string ⟨#[]⟩,.bool false,.int .i64 0,.string ⟨#[]⟩,.slice none 0 0,.int .i64 0,.int .i64 0,.slice none 0 0] 31)));have Bz:=gq.out w3 (w3.heap.size) (by simp);have BA:=gq.out (w3.alloc (.cells #[.string ⟨#[]⟩,.bool false,.int .i64 0,.string ⟨#[]⟩,.slice none 0 0,.int .i64 0,.int .i64 0,.slice none 0 0] 31)) (w3.heap.size+1) (by simp);have BD:=jr (gq.out w3 (w3.heap.size) (by simp)) (.cells #[.string ⟨#[]⟩,.bool false,.int .i64 0,.string ⟨#[]⟩,.slice none 0 0,.int .i64 0,.int .i64 0,.slice none 0 0] 31);(try (obtain⟨z0,z1,z2,z3,z4,z5,z6,z7,z8,z9,BF,BG,z12,BH,BI,BJ⟩:=rO.out.cells));(try (obtain⟨y0,y1,y2,y3,y4,y5,y6,y7,y8,y9,qM,qN,qO,y13,qP,qQ⟩:=(rO.out.alloc (.cells #[.string ⟨#[97]⟩,.string ⟨#[98]⟩,.string ⟨#[99]⟩,.string ⟨#[119,111,114,100]⟩,.string ⟨#[120,45,49]⟩] 9)).cells));clear hp hg)
     |(go_simp;go_at_call 12;(with_reducible (refine(iw (W:=(w2.alloc (.cells #[.string ⟨#[97]⟩,.string ⟨#[98]⟩,.string ⟨#[99]⟩,.string ⟨#[119,111,114,100]⟩,.string ⟨#[120,45,49]⟩] 9))) (n:=5) (cu.alloc fZ.out _) (by omega) (by omega)).mono ?_));rintro e w3 ⟨rfl,hp,hg⟩;have hz3:w2.heap.size+1<=w3.heap.size:=(by have hs:=hg.size;(try simp at hs);omega);rw[<- yD.out];have jP:=hh9 hp;have aG:=hh9 (nE hg (dn HG2.out _));have F2:w3.cell? ⟨w2.heap.size,j,none⟩=some (.string s):=pE (W:=(w2.alloc (.cells #[.string ⟨#[97]⟩,.string ⟨#[98]⟩,.string ⟨#[99]⟩,.string ⟨#[119,111,114,100]⟩,.string ⟨#[120,45,49]⟩] 9))) (gq.out w2 (w2.heap.size) (by simp)) hg (by simp<;>omega) (by omega);(try (have rO:=hh9 (iH.grown (W:=(w2.alloc (.cells #[.string ⟨#[97]⟩,.string ⟨#[98]⟩,.string ⟨#[99]⟩,.string ⟨#[119,111,114,100]⟩,.string ⟨#[120,45,49]⟩] 9))) (iH.alloc gY.out _) hg (by omega))));(try (have Bw:=jr F2 (.cells #[.string ⟨#[]⟩,.bool false,.int .i64 0,.string ⟨#[]⟩,.slice none 0 0,.int .i64 0,.int .i64 0,.slice none 0 0] 31)));have Bz:=gq.out w3 (w3.heap.size) (by simp);have BA:=gq.out (w3.alloc (.cells #[.string ⟨#[]⟩,.bool false,.int .i64 0,.string ⟨#[]⟩,.slice none 0 0,.int .i64 0,.int .i64 0,.slice none 0 0] 31)) (w3.heap.size+1) (by simp);have BD:=jr (gq.out w3 (w3.heap.size) (by simp)) (.cells #[.string ⟨#[]⟩,.bool false,.int .i64 0,.string ⟨#[]⟩,.slice none 0 0,.int .i64 0,.int .i64 0,.slice none 0 0] 31);(try (obtain⟨z0,z1,z2,z3,z4,z5,z6,z7,z8,z9,BF,BG,z12,BH,BI,BJ⟩:=rO.out.cells));(try (obtain⟨y0,y1,y2,y3,y4,y5,y6,y7,y8,y9,qM,qN,qO,y13,qP,qQ⟩:=(rO.out.alloc (.cells #[.string ⟨#[97]⟩,.string ⟨#[98]⟩,.string ⟨#[99]⟩,.string ⟨#[119,111,114,100]⟩,.string ⟨#[120,45,49]⟩] 9)).cells));clear hp hg)
     |(go_simp;go_at_call 12;(with_reducible (refine(iw (W:=(w2.alloc (.cells #[.string ⟨#[]⟩,.bool false,.int .i64 0,.string ⟨#[]⟩,.slice none 0 0,.int .i64 0,.int .i64 0,.slice none 0 0] 31))) (n:=5) (cu.alloc fZ.out _) (by omega) (by omega)).mono ?_));rintro e w3 ⟨rfl,hp,hg⟩;have hz3:w2.heap.size+1<=w3.heap.size:=(by have hs:=hg.size;(try simp at hs);omega);rw[<- yD.out];have jP:=hh9 hp;have aG:=hh9 (nE hg (dn HG2.out _));(try (have F2:=pE (W:=(w2.alloc (.cells #[.string ⟨#[]⟩,.bool false,.int .i64 0,.string ⟨#[]⟩,.slice none 0 0,.int .i64 0,.int .i64 0,.slice none 0 0] 31))) (zqt F1 _) hg (by(try simp);omega) (by omega)));have rO:Hid (iH w3 (w2.heap.size)):=iH.grown (W:=(w2.alloc (.cells #[.string ⟨#[]⟩,.bool false,.int .i64 0,.string ⟨#[]⟩,.slice none 0 0,.int .i64 0,.int .i64 0,.slice none 0 0] 31))) (iH.new (g:=w2.heap.size) w2 (by simp)) hg (by(try simp)<;>omega);(try (have Bw:=jr F2 (.cells #[.string ⟨#[]⟩,.bool false,.int .i64 0,.string ⟨#[]⟩,.slice none 0 0,.int .i64 0,.int .i64 0,.slice none 0 0] 31)));have Bz:=gq.out w3 (w3.heap.size) (by simp);have BA:=gq.out (w3.alloc (.cells #[.string ⟨#[]⟩,.bool false,.int .i64 0,.string ⟨#[]⟩,.slice none 0 0,.int .i64 0,.int .i64 0,.slice none 0 0] 31)) (w3.heap.size+1) (by simp);have BD:=jr (gq.out w3 (w3.heap.size) (by simp)) (.cells #[.string ⟨#[]⟩,.bool false,.int .i64 0,.string ⟨#[]⟩,.slice none 0 0,.int .i64 0,.int .i64 0,.slice none 0 0] 31);(try (obtain⟨z0,z1,z2,z3,z4,z5,z6,z7,z8,z9,BF,BG,z12,BH,BI,BJ⟩:=rO.out.cells));(try (obtain⟨y0,y1,y2,y3,y4,y5,y6,y7,y8,y9,qM,qN,qO,y13,qP,qQ⟩:=(rO.out.alloc (.cells #[.string ⟨#[97]⟩,.string ⟨#[98]⟩,.string ⟨#[99]⟩,.string ⟨#[119,111,114,100]⟩,.string ⟨#[120,45,49]⟩] 9)).cells));clear hp hg)
     |(go_simp;go_at_call 12;(with_reducible (refine(iw (W:=((w2.alloc (.cells #[.string ⟨#[97]⟩,.string ⟨#[98]⟩,.string ⟨#[99]⟩,.string ⟨#[119,111,114,100]⟩,.string ⟨#[120,45,49]⟩] 9)).alloc (.cells #[.string ⟨#[]⟩,.bool false,.int .i64 0,.string ⟨#[]⟩,.slice none 0 0,.int .i64 0,.int .i64 0,.slice none 0 0] 31))) (n:=5) (cu.alloc (cu.alloc fZ.out _) _) (by omega) (by omega)).mono ?_));rintro e w3 ⟨rfl,hp,hg⟩;have hz3:w2.heap.size+2<=w3.heap.size:=(by have hs:=hg.size;(try simp at hs);omega);rw[<- yD.out];have jP:=hh9 hp;have aG:=hh9 (nE hg (dn (dn HG2.out _) _));have F2:w3.cell? ⟨w2.heap.size,j,none⟩=some (.string s):=pE (W:=((w2.alloc (.cells #[.string ⟨#[97]⟩,.string ⟨#[98]⟩,.string ⟨#[99]⟩,.string ⟨#[119,111,114,100]⟩,.string ⟨#[120,45,49]⟩] 9)).alloc (.cells #[.string ⟨#[]⟩,.bool false,.int .i64 0,.string ⟨#[]⟩,.slice none 0 0,.int .i64 0,.int .i64 0,.slice none 0 0] 31))) ((jr (gq.out w2 (w2.heap.size) (by simp)) (.cells #[.string ⟨#[]⟩,.bool false,.int .i64 0,.string ⟨#[]⟩,.slice none 0 0,.int .i64 0,.int .i64 0,.slice none 0 0] 31))) hg (by simp<;>omega) (by omega);have rO:Hid (iH w3 (w2.heap.size+1)):=iH.grown (W:=((w2.alloc (.cells #[.string ⟨#[97]⟩,.string ⟨#[98]⟩,.string ⟨#[99]⟩,.string ⟨#[119,111,114,100]⟩,.string ⟨#[120,45,49]⟩] 9)).alloc (.cells #[.string ⟨#[]⟩,.bool false,.int .i64 0,.string ⟨#[]⟩,.slice none 0 0,.int .i64 0,.int .i64 0,.slice none 0 0] 31))) (iH.new (g:=w2.heap.size+1) (w2.alloc (.cells #[.string ⟨#[97]⟩,.string ⟨#[98]⟩,.string ⟨#[99]⟩,.string ⟨#[119,111,114,100]⟩,.string ⟨#[120,45,49]⟩] 9)) (by simp)) hg (by(try simp)<;>omega);(try (have Bw:=jr F2 (.cells #[.string ⟨#[]⟩,.bool false,.int .i64 0,.string ⟨#[]⟩,.slice none 0 0,.int .i64 0,.int .i64 0,.slice none 0 0] 31)));have Bz:=gq.out w3 (w3.heap.size) (by simp);have BA:=gq.out (w3.alloc (.cells #[.string ⟨#[]⟩,.bool false,.int .i64 0,.string ⟨#[]⟩,.slice none 0 0,.int .i64 0,.int .i64 0,.slice none 0 0] 31)) (w3.heap.size+1) (by simp);have BD:=jr (gq.out w3 (w3.heap.size) (by simp)) (.cells #[.string ⟨#[]⟩,.bool false,.int .i64 0,.string ⟨#[]⟩,.slice none 0 0,.int .i64 0,.int .i64 0,.slice none 0 0] 31);(try (obtain⟨z0,z1,z2,z3,z4,z5,z6,z7,z8,z9,BF,BG,z12,BH,BI,BJ⟩:=rO.out.cells));(try (obtain⟨y0,y1,y2,y3,y4,y5,y6,y7,y8,y9,qM,qN,qO,y13,qP,qQ⟩:=(rO.out.alloc (.cells #[.string ⟨#[97]⟩,.string ⟨#[98]⟩,.string ⟨#[99]⟩,.string ⟨#[119,111,114,100]⟩,.string ⟨#[120,45,49]⟩] 9)).cells));clear hp hg)
     |(go_simp;go_at_call 12;(with_reducible (refine(iw (W:=((w2.alloc (.cells #[.string ⟨#[]⟩,.bool false,.int .i64 0,.string ⟨#[]⟩,.slice none 0 0,.int .i64 0,.int .i64 0,.slice none 0 0] 31)).alloc (.cells #[.string ⟨#[97]⟩,.string ⟨#[98]⟩,.string ⟨#[99]⟩,.string ⟨#[119,111,114,100]⟩,.string ⟨#[120,45,49]⟩] 9))) (n:=5) (cu.alloc (cu.alloc fZ.out _) _) (by omega) (by omega)).mono ?_));rintro e w3 ⟨rfl,hp,hg⟩;have hz3:w2.heap.size+2<=w3.heap.size:=(by have hs:=hg.size;(try simp at hs);omega);rw[<- yD.out];have jP:=hh9 hp;have aG:=hh9 (nE hg (dn (dn HG2.out _) _));have F2:w3.cell? ⟨w2.heap.size+1,j,none⟩=some (.string s):=pE (W:=((w2.alloc (.cells #[.string ⟨#[]⟩,.bool false,.int .i64 0,.string ⟨#[]⟩,.slice none 0 0,.int .i64 0,.int .i64 0,.slice none 0 0] 31)).alloc (.cells #[.string ⟨#[97]⟩,.string ⟨#[98]⟩,.string ⟨#[99]⟩,.string ⟨#[119,111,114,100]⟩,.string ⟨#[120,45,49]⟩] 9))) (gq.out (w2.alloc (.cells #[.string ⟨#[]⟩,.bool false,.int .i64 0,.string ⟨#[]⟩,.slice none 0 0,.int .i64 0,.int .i64 0,.slice none 0 0] 31)) (w2.heap.size+1) (by simp)) hg (by simp<;>omega) (by omega);have rO:Hid (iH w3 (w2.heap.size)):=iH.grown (W:=((w2.alloc (.cells #[.string ⟨#[]⟩,.bool false,.int .i64 0,.string ⟨#[]⟩,.slice none 0 0,.int .i64 0,.int .i64 0,.slice none 0 0] 31)).alloc (.cells #[.string ⟨#[97]⟩,.string ⟨#[98]⟩,.string ⟨#[99]⟩,.string ⟨#[119,111,114,100]⟩,.string ⟨#[120,45,49]⟩] 9))) (iH.alloc (iH.new (g:=w2.heap.size) w2 (by simp)) _) hg (by(try simp)<;>omega);(try (have Bw:=jr F2 (.cells #[.string ⟨#[]⟩,.bool false,.int .i64 0,.string ⟨#[]⟩,.slice none 0 0,.int .i64 0,.int .i64 0,.slice none 0 0] 31)));have Bz:=gq.out w3 (w3.heap.size) (by simp);have BA:=gq.out (w3.alloc (.cells #[.string ⟨#[]⟩,.bool false,.int .i64 0,.string ⟨#[]⟩,.slice none 0 0,.int .i64 0,.int .i64 0,.slice none 0 0] 31)) (w3.heap.size+1) (by simp);have BD:=jr (gq.out w3 (w3.heap.size) (by simp)) (.cells #[.string ⟨#[]⟩,.bool false,.int .i64 0,.string ⟨#[]⟩,.slice none 0 0,.int .i64 0,.int .i64 0,.slice none 0 0] 31);(try (obtain⟨z0,z1,z2,z3,z4,z5,z6,z7,z8,z9,BF,BG,z12,BH,BI,BJ⟩:=rO.out.cells));(try (obtain⟨y0,y1,y2,y3,y4,y5,y6,y7,y8,y9,qM,qN,qO,y13,qP,qQ⟩:=(rO.out.alloc (.cells #[.string ⟨#[97]⟩,.string ⟨#[98]⟩,.string ⟨#[99]⟩,.string ⟨#[119,111,114,100]⟩,.string ⟨#[120,45,49]⟩] 9)).cells));clear hp hg)
     |fail)
    all_goals first
     |(obtain⟨W0,hW0⟩:∃ W0,W0=((w3.alloc (.cells #[.string ⟨#[97]⟩,.string ⟨#[98]⟩,.string ⟨#[99]⟩,.string ⟨#[119,111,114,100]⟩,.string ⟨#[120,45,49]⟩] 9)).alloc (.cells #[.string s,.bool ((p2:Int)==4),.int .i64 0,.string ⟨#[]⟩,.slice none 0 0,.int .i64 0,.int .i64 0,.slice none 0 0] 31)):=⟨_,rfl⟩;rw[<- hW0];have aU:Hid (Named R (.slice p zs.length cap) zs (a+1+1) wr W0 (.pointer (some ⟨w3.heap.size+1,0,none⟩)) (w3.heap.size+1) x ((p2:Int)==4)):=(by rw[hW0];exact Qj (s:=s) (um _ _ _ (by simp)) (by omega) (cu.alloc (cu.alloc jP.out _) _) (dn (dn aG.out _) _) HX.out HS.out);clear hW0;(try clear z0 z1 z2 z3 z4 z5 z6 z7 z8 z9 BF BG z12 BH BI BJ);(try clear y0 y1 y2 y3 y4 y5 y6 y7 y8 y9 qM qN qO y13 qP qQ);(try clear F1);(try clear F2);(try clear Br Bt Bu);(try clear Bz BA BD);(try clear Bq);(try clear Bw);go_wp2_with fail;go_meet;exact⟨_,x,_,aU.out⟩)
     |(obtain⟨W0,hW0⟩:∃ W0,W0=((w3.alloc (.cells #[.string s,.bool ((p2:Int)==4),.int .i64 0,.string ⟨#[]⟩,.slice none 0 0,.int .i64 0,.int .i64 0,.slice none 0 0] 31)).alloc (.cells #[.string ⟨#[97]⟩,.string ⟨#[98]⟩,.string ⟨#[99]⟩,.string ⟨#[119,111,114,100]⟩,.string ⟨#[120,45,49]⟩] 9)):=⟨_,rfl⟩;rw[<- hW0];have aU:Hid (Named R (.slice p zs.length cap) zs (a+1+1) wr W0 (.pointer (some ⟨w3.heap.size,0,none⟩)) (w3.heap.size) x ((p2:Int)==4)):=(by rw[hW0];exact Qj (s:=s) ((zbP _ _ _ (by simp)).trans (um _ _ _ rfl)) (by omega) (cu.alloc (cu.alloc jP.out _) _) (dn (dn aG.out _) _) HX.out HS.out);clear hW0;(try clear z0 z1 z2 z3 z4 z5 z6 z7 z8 z9 BF BG z12 BH BI BJ);(try clear y0 y1 y2 y3 y4 y5 y6 y7 y8 y9 qM qN qO y13 qP qQ);(try clear F1);(try clear F2);(try clear Br Bt Bu);(try clear Bz BA BD);(try clear Bq);(try clear Bw);go_wp2_with fail;go_meet;exact⟨_,x,_,aU.out⟩)
     |(obtain⟨W0,hW0⟩:∃ W0,W0=(w3.alloc (.cells #[.string s,.bool ((p2:Int)==4),.int .i64 0,.string ⟨#[]⟩,.slice none 0 0,.int .i64 0,.int .i64 0,.slice none 0 0] 31)):=⟨_,rfl⟩;rw[<- hW0];have aU:Hid (Named R (.slice p zs.length cap) zs (a+1+1) wr W0 (.pointer (some ⟨w3.heap.size,0,none⟩)) (w3.heap.size) x ((p2:Int)==4)):=(by rw[hW0];exact Qj (s:=s) (um _ _ _ (by simp)) (by omega) (cu.alloc jP.out _) (dn aG.out _) HX.out HS.out);clear hW0;(try clear z0 z1 z2 z3 z4 z5 z6 z7 z8 z9 BF BG z12 BH BI BJ);(try clear y0 y1 y2 y3 y4 y5 y6 y7 y8 y9 qM qN qO y13 qP qQ);(try clear F1);(try clear F2);(try clear Br Bt Bu);(try clear Bz BA BD);(try clear Bq);(try clear Bw);go_wp2_with fail;go_meet;exact⟨_,x,_,aU.out⟩)
     |(rw[Wu (W:=(w3.alloc (.cells #[.string ⟨#[97]⟩,.string ⟨#[98]⟩,.string ⟨#[99]⟩,.string ⟨#[119,111,114,100]⟩,.string ⟨#[120,45,49]⟩] 9))) (iH.alloc rO.out _)];have aU:=hh9 (Wv (W:=(w3.alloc (.cells #[.string ⟨#[97]⟩,.string ⟨#[98]⟩,.string ⟨#[99]⟩,.string ⟨#[119,111,114,100]⟩,.string ⟨#[120,45,49]⟩] 9))) (wr:=wr) (x:=x) (s:=s) ((p2:Int)==4) (iH.alloc rO.out _) (by omega) (cu.alloc jP.out _) (dn aG.out _) HX.out HS.out hRr);(try clear z0 z1 z2 z3 z4 z5 z6 z7 z8 z9 BF BG z12 BH BI BJ);(try clear y0 y1 y2 y3 y4 y5 y6 y7 y8 y9 qM qN qO y13 qP qQ);(try clear F1);(try clear F2);(try clear Br Bt Bu);(try clear Bz BA BD);(try clear Bq);(try clear Bw);go_wp2_with fail;go_meet;exact⟨_,x,_,aU.out⟩)
     |(rw[Wu (W:=w3) rO.out];have aU:=hh9 (Wv (W:=w3) (wr:=wr) (x:=x) (s:=s) ((p2:Int)==4) rO.out (by omega) jP.out aG.out HX.out HS.out hRr);(try clear z0 z1 z2 z3 z4 z5 z6 z7 z8 z9 BF BG z12 BH BI BJ);(try clear y0 y1 y2 y3 y4 y5 y6 y7 y8 y9 qM qN qO y13 qP qQ);(try clear F1);(try clear F2);(try clear Br Bt Bu);(try clear Bz BA BD);(try clear Bq);(try clear Bw);go_wp2_with fail;go_meet;exact⟨_,x,_,aU.out⟩)
     |fail
   case rest =>
    obtain⟨g,x,b,rfl,hx,hn,hgl,hp,hg⟩:=hcut;have HX:=hh9 hx;have HN:=hh9 hn;have Js:=hh9 hp;have wH:=hh9 hg;have hgc:=hn.lt;have hwc:=hg.size
    have qK:Hid (a+1+1+gI 3<=1000000):=by
     have:gI 3<=200:=by decide
     unfold Hid;omega
    clear hx hn hp hg;obtain⟨s,hs⟩:∃ s,s=ak x:=⟨_,rfl⟩
    have HS:=hh9 hs;rw[<- hs]at HN;clear hs
    go_upto_region 7 with fail
    go_cut []from 26 to 28 (fun W=>∃ (X:XV) (t:Tree) (a':Nat) (w5:World),qe5 R (.slice p zs.length cap) zs (a+1+1) wr wc w5 W g s b X t a')
    case first =>
     go_wp2_with fail
     with_reducible refine(jW.Qk (w:=wc) (Wn 3 (by omega)) 3 (by omega) Js.out qK.out).mono ?_
     rintro e w5 ⟨kx,lx,hx,sx,b1,b2,m1,c1,m2,c2,t,a',ht,hm,rfl,ha,hp,hg⟩;have HT:=hh9 ht;have Ez:=hh9 hm;have HA:=hh9 ha;have nG:=hh9 hp;have rM:=hh9 hg;have HL:=hh9 (HN.out.grown hg (by omega));obtain⟨z2,z3,z4,z5,z6,z7,y2,y3,y4,y5,y6,y7⟩:=HL.out.cells;clear ht hm ha hp hg;go_wp2_with fail
     rw[zzi HL.out];go_meet;exact⟨⟨kx,sx,.slice b1 m1 c1,lx,hx,.slice b2 m2 c2⟩,t,a',w5,rfl,HT.out,Ez.out,HA.out,nG.out,rM.out,HL.out⟩
    case rest =>
     obtain⟨X,t,a',w5,rfl,ht,hm,ha,hp,hg,hl5⟩:=hcut;have hone:=fq ht.tree;have Dn:=eU ht.tree;have jv:=hh9 hone;have Aj:=hh9 Dn;have HT:=hh9 ht;have Ez:=hh9 hm;have HA:=hh9 ha;have nG:=hh9 hp;have rM:=hh9 hg;have Qm:Hid ((w5.setRow g (LV.arr ⟨s,b,X⟩)).heap[g]?=some (.cells (LV.arr ⟨s,b,X⟩) 31 (0,0))):=setRow_heap _ _ _ _ _ _ hl5;have Jt:=hh9 HM.out.1;have EC:=hg.size;have hg5:=hl5.lt;obtain⟨k1,k2,k3,k4⟩:=HM.out.1
     have HOW:Hid (((w5.setRow g (LV.arr ⟨s,b,X⟩)).alloc (.cells (LV.arr ⟨s,b,X⟩) 31)).ownsRow (R+1) 31 8 u4 l.length (ys.flatMap LV.cells)) :=
      dI k2 (fun c hc hl=>by rw[zbP _ _ _ (by simp[World.setRow];omega),setRow_other _ _ _ _ (by omega),rM.out.block c (by omega) (fun e=>by have:=zbB e;omega),wH.out.block c hl (fun e=>by have:=zbB e;omega)])
     clear hone Dn ht hm ha hp hg k1 k2 k3 k4 hl5;rw[show w5.setRow g #[.string s,.bool b,.int .i64 X.kind,.string X.text,X.ns,.int .i64 X.lo,.int .i64 X.hi,X.ks]=w5.setRow g (LV.arr ⟨s,b,X⟩) from rfl]
     go_wp2_with (first
      |(refine ztr rfl _ rfl g ⟨s,b,X⟩ rfl Qm.out ?_)
      |(refine zqr rfl _ rfl ⟨s,b,X⟩ rfl jv.out Aj.out ?_)
      |(at_builtin;go_loud (refine qco rfl _ _ rfl (R+1) _ l.length ys ⟨s,b,X⟩ (w5.setRow g (LV.arr ⟨s,b,X⟩)).heap.size rfl rfl HOW.out (zbO _ _) jv.out Aj.out ?hq1 ?hq2 ?_)))
     case hq1=>omega
     case hq2=>simp[World.setRow];omega
     intro v' w6 hown hgrow hat
     have HIN:Hid (Ql w w6 R (.slice p zs.length cap) zs v' n1 (i-1) (l++[⟨x,b,t⟩]) (ys++[⟨s,b,X⟩]) a'):=by
      have hin:=HM.out
      have e1:∀ c,c<=R->c≠R->w6.heap[c]?=wr.heap[c]?:=fun c hc hcR=>by
       rw[hgrow.block c (by simp[World.setRow];omega) (Nw HOW.out (by omega)),zbP _ _ _ (by simp[World.setRow];omega),setRow_other _ _ _ _ (by omega),rM.out.block c (by omega) (fun e=>by have:=zbB e;omega),wH.out.block c (by omega) (fun e=>by have:=zbB e;omega)]
      have e2:∀ c,c<=R->w6.heap[c]?=w5.heap[c]?:=fun c hc=>by
       rw[hgrow.block c (by simp[World.setRow];omega) (Nw HOW.out (by omega)),zbP _ _ _ (by simp[World.setRow];omega),setRow_other _ _ _ _ (by omega)]
      have Ak:bV ((w5.setRow g (LV.arr ⟨s,b,X⟩)).alloc (.cells (LV.arr ⟨s,b,X⟩) 31)) (wc.heap.size+1) X t :=
       (HT.out.aj (by omega) _).kept (fun c hc hl=>zbP _ _ _ hl) (by simp)
      refine⟨LT.push (m:=wc.heap.size+1) Jt.out (fun c hc hl=>?_) (by simp[World.setRow];omega) (x:=⟨s,b,X⟩) (t:=⟨x,b,t⟩) Ak (by omega) (by omega) ⟨HS.out,rfl⟩ hown hgrow (hat.imp id (fun ⟨k,e,hk⟩=>⟨k,e,by have h:=hk;simp[World.setRow];omega⟩)),by simp;omega,?_,?_,?_,?_⟩
      ·rw[zbP _ _ _ (by simp[World.setRow];omega),setRow_other _ _ _ _ (by omega),rM.out.block c (by omega) (fun e=>by have:=zbB e;omega),wH.out.block c hl (fun e=>by have:=zbB e;omega)]
      ·intro r hr;rw[List.mem_append]at hr;rcases hr with hr|hr
       ·exact hin.2.2.1 r hr
       ·simp at hr;subst hr;exact⟨HX.out,Ez.out⟩
      ·exact nG.out.kept (fun c hc=>e2 c hc)
      ·have:=HA.out;have h4:gI 3<=200:=by decide
       have:(l++[(⟨x,b,t⟩:Rule)]).length=l.length+1:=by simp
       omega
      ·have hb:=hin.2.2.2.2.2;have hRW:=HRW.out;refine⟨hgrow.os.trans (rM.out.os.trans (wH.out.os.trans hb.os)),hgrow.tape.trans (rM.out.tape.trans (wH.out.tape.trans hb.tape)),hgrow.output.trans (rM.out.output.trans (wH.out.output.trans hb.output)),?_,fun c hc=>?_⟩
       ·have:=hgrow.size;have:=hb.size;simp[World.setRow]at *;omega
       ·rw[e1 c (by omega) (by omega)];exact hb.block c hc
     clear hown hgrow hat HM;go_wp2_with fail
     go_roundw
     case rel=>exact⟨i-1,l++[⟨x,b,t⟩],ys++[⟨s,b,X⟩],a',by go_num,HIN⟩
     case measure=>simp[intOf];omega
  ·obtain rfl:i=0:=by omega
   obtain⟨e1,e2,e3,e4,e5,e6⟩:=HM.out;have aU:Hid (Ww w (.returned u4) wr):=⟨u4,l,ys,rfl,by rw[<- HRW.out];exact e1,by omega,by omega,e3,e6⟩
   clear e1 e2 e3 e4 e5 e6 HM;go_wp2_with fail
   go_ret;exact aU.out
end Go.Proofs.YtahibnnhjahmnaaGreatDoor
namespace Go.Proofs.YtahibnnhjahmnaaGreatDoor
def uw(c:Int):Bool:=decide (97<=c)&&decide (c<=122)
def kS(c:Int):Bool:=uw c||aS c||c==45
def mF:List Int->Bool
 |[]=>false
 |c::l=>decide ((c::l).length<=40)&&uw c&&(c::l).all kS
def kZ(c:Int):Bool:=decide (32<=c)&&decide (c<=126)&&!(c==34)&&!(decide (65<=c)&&decide (c<=90))
def bK(n:Int):Bool:=decide (0<=n)&&decide (n<=1114111)
def dN(lo hi:Int):Bool:=decide (0<=lo)&&decide (lo<=200)&&(hi==-1||(decide (lo<=hi)&&decide (hi<=200)))
def oo(k:Int)(x ns:List Int)(lo hi:Int)(n:Nat):Bool :=
 if k=1\/k=2 then x.isEmpty&&ns.isEmpty&&lo==0&&hi==0&&decide (2<=n)
 else if k=3 then x.isEmpty&&ns.isEmpty&&decide (n=1)&&dN lo hi
 else if k=4 then ns.isEmpty&&lo==0&&hi==0&&decide (n=0)&&mF x
 else if k=5 then ns.isEmpty&&lo==0&&hi==0&&decide (n=0)&&x.all kZ
 else if k=6 then x.isEmpty&&lo==0&&hi==0&&decide (n=0)&&decide (1<=ns.length)&&decide (ns.length<=10000)&&ns.all bK
 else if k=7 then x.isEmpty&&lo==0&&hi==0&&decide (n=0)&&decide (ns.length=2)&&ns.all bK&&decide (ns.getD 0 0<=ns.getD 1 0)
 else false
def dK:Nat->Tree->Bool
 |0,.mk k x ns lo hi kids=>oo k x ns lo hi kids.length&&kids.isEmpty
 |d+1,.mk k x ns lo hi kids=>oo k x ns lo hi kids.length&&kids.all (dK d)
def cZ(n:Nat):Int:=if n<10 then 48+n else 55+n
def dx:Nat->Nat->List Int
 |0,_=>[]
 |f+1,n=>(if n<16 then [] else dx f (n / 16))++[cZ (n%16)]
def aL(n:Nat):List Int:=if n<16 then [48,cZ n] else dx 6 n
def iK:Nat->Nat->List Int
 |0,_=>[]
 |f+1,n=>(if n<10 then [] else iK f (n / 10))++[48+((n%10:Nat):Int)]
def fA(n:Nat):List Int:=iK 20 n
def aO(s:List Int):List (List Int)->List Int
 |[]=>[]
 |[x]=>x
 |x::y::l=>x++s++aO s (y::l)
def Tree.kind:Tree->Int
 |.mk k _ _ _ _ _=>k
def cB(lo hi:Int):List Int :=
 if hi=0 then [48] else (if 0<lo then fA lo.toNat else [])++(if hi=lo then [] else [42]++(if 0<=hi then fA hi.toNat else []))
def dD(b:Bool)(x:List Int):List Int:=if b=true then [40]++x++[41] else x
def tL(f:Tree->List Int):Tree->List Int
 |.mk k x ns lo hi kids =>
  if k=1 then aO [32,47,32] (kids.map fun t=>dD (t.kind==1) (f t))
  else if k=2 then aO [32] (kids.map fun t=>dD (t.kind==1||t.kind==2) (f t))
  else if k=3 then
   if lo=0/\hi=1 then [91]++(kids.map f).flatten++[93]
   else cB lo hi++(kids.map fun t=>dD (t.kind==1||t.kind==2||t.kind==3) (f t)).flatten
  else if k=4 then x
  else if k=5 then [34]++x++[34]
  else [37,120]++aO (if k=6 then [46] else [45]) (ns.map fun n=>aL n.toNat)
def aI:Nat->Tree->List Int
 |0,t=>tL (fun _=>[]) t
 |d+1,t=>tL (aI d) t
def dZ(r:Rule):List Int:=r.name++(if r.more=true then [32,61,47,32] else [32,61,32])++aI 50 r.expr++[10]
def G7(l:List Rule):Bool:=l.all fun r=>mF r.name&&dK 50 r.expr
end Go.Proofs.YtahibnnhjahmnaaGreatDoor
