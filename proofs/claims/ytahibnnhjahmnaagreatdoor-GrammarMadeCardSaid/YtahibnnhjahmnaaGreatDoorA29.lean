/- Part 29 of what the laws of the grammar rest on. -/
import Derived.Test.YtahibnnhjahmnaaGreatDoorA28
set_option linter.all false
set_option maxRecDepth 100000
set_option maxHeartbeats 8000000
namespace Go.Proofs.YtahibnnhjahmnaaGreatDoor
open Go.RowKit
inductive SP
 |x (t:Tree)
 |k (l:List Tree)
 |r (g:GR)
 |rs (b:Nat) (l:List GR)
def SP.at:SP->World->Value->Prop
 |.x t,W,v=>∃ k tx lo hi a1 n1 c1 a2 n2 c2,v=.agg #[.int .i64 k,.string tx,.slice a1 n1 c1,.int .i64 lo,.int .i64 hi,.slice a2 n2 c2]/\dX W (fun _=>True) ⟨k,tx,.slice a1 n1 c1,lo,hi,.slice a2 n2 c2⟩ t
 |.k l,W,v=>∃ a c vs,v=.slice a l.length c/\zK W v vs l
 |.r g,W,v=>∃ nm k tx lo hi a1 n1 c1 a2 n2 c2,v=.agg #[.string nm,.int .i64 k,.string tx,.slice a1 n1 c1,.int .i64 lo,.int .i64 hi,.slice a2 n2 c2]/\FK W ⟨nm,⟨k,tx,.slice a1 n1 c1,lo,hi,.slice a2 n2 c2⟩⟩ g
 |.rs b l,W,v=>∃ ys g c,v=.slice (some ⟨g,0,none⟩) l.length c/\b<=g/\oV W v ys l
theorem SP.under{s:SP}{W W':World}{v:Value}(h:s.at W v)(hb:Below W.heap.size W W'):s.at W' v:=by
 cases s with
 |x t=>obtain⟨_,_,_,_,_,_,_,_,_,_,e,h⟩:=h;exact⟨_,_,_,_,_,_,_,_,_,_,e,h.under hb⟩
 |k l=>obtain⟨_,_,_,e,h⟩:=h;exact⟨_,_,_,e,h.under hb⟩
 |r g=>obtain⟨_,_,_,_,_,_,_,_,_,_,_,e,h⟩:=h;exact⟨_,_,_,_,_,_,_,_,_,_,_,e,h.under hb⟩
 |rs b l=>obtain⟨ys,g,c,e,hl,h⟩:=h;exact⟨ys,g,c,e,hl,h.below hb⟩
section
variable {o:Oper} {a:Act} {w:World} {K:Act → World → Prop} {Q:Exit → Act → World → Prop}
theorem Uj{F:FuncId}{x:Operand}{u:Value}{T:Array TypeId}{R:Ending->World->Prop}{s:SP}(ho:o.op=.call { callee:=.value (.func F),args:=#[x],argTypes:=T })(hx:a.eval x=u)(hc:Calls Tryz.prog F #[u] w R)
  (hF:∀ args w,(callFunc F args).run Tryz.prog w=.ok (.enter F args) w)
  (hR:∀ e w',R e w'->∃ v,e=.returned v/\s.at w' v/\Below w.heap.size w w') (hK:∀ v w',s.at w' v->Below w.heap.size w w'->K (a.put o.dst v) w'):o.wp Tryz.prog a w K Q:=by
 unfold Oper.wp;have hf:a.eval (.func F)=.func (.func F) #[] #[]:=rfl;generalize a.eval=ev at hx hf ⊢;simp[execOp,ho,hx,hf,go_sem,hF,resolve,invoke];refine hc.mono (fun e w' hr=>?_);obtain⟨v,rfl,hs,hb⟩:=hR e w' hr;exact hK v w' hs hb
theorem qbc{F:FuncId}{x y:Operand}{u z:Value}{T:Array TypeId}{R:Ending->World->Prop}{s:SP}(ho:o.op=.call { callee:=.value (.func F),args:=#[x,y],argTypes:=T })(hx:a.eval x=u)(hy:a.eval y=z)(hc:Calls Tryz.prog F #[u,z] w R)
  (hF:∀ args w,(callFunc F args).run Tryz.prog w=.ok (.enter F args) w)
  (hR:∀ e w',R e w'->∃ v,e=.returned v/\s.at w' v/\Below w.heap.size w w') (hK:∀ v w',s.at w' v->Below w.heap.size w w'->K (a.put o.dst v) w'):o.wp Tryz.prog a w K Q:=by
 unfold Oper.wp;have hf:a.eval (.func F)=.func (.func F) #[] #[]:=rfl;generalize a.eval=ev at hx hy hf ⊢;simp[execOp,ho,hx,hy,hf,go_sem,hF,resolve,invoke];refine hc.mono (fun e w' hr=>?_);obtain⟨v,rfl,hs,hb⟩:=hR e w' hr;exact hK v w' hs hb
theorem O4{t:Tree}{w:World}{e:Ending}{w':World}(h:Ls t w e w'):∃ v,e=.returned v/\(SP.x t).at w' v/\Below w.heap.size w w':=by
 obtain⟨k,tx,lo,hi,a1,n1,c1,a2,n2,c2,rfl,h1,h2⟩:=h;exact⟨_,rfl,⟨k,tx,lo,hi,a1,n1,c1,a2,n2,c2,rfl,h1⟩,h2⟩
theorem FM{n m:Int}{T:Array TypeId}(ho:o.op=.call { callee:=.value (.func 57),args:=#[.const (.int .i64 n),.const (.int .i64 m)],argTypes:=T })(hK:∀ v w',(SP.x (jK n m)).at w' v->Below w.heap.size w w'->K (a.put o.dst v) w'):o.wp Tryz.prog a w K Q :=
 qbc ho rfl rfl zy8 (enters_of Tryz.func57 (by kernel_rfl) rfl) (fun _ _ h=>O4 h) hK
theorem Iz{n:Int}{T:Array TypeId}(ho:o.op=.call { callee:=.value (.func 58),args:=#[.const (.int .i64 n)],argTypes:=T })(hK:∀ v w',(SP.x (mX n)).at w' v->Below w.heap.size w w'->K (a.put o.dst v) w'):o.wp Tryz.prog a w K Q :=
 Uj ho rfl qba (enters_of Tryz.func58 (by kernel_rfl) rfl) (fun _ _ h=>O4 h) hK
theorem O5{S:ByteArray}{T:Array TypeId}(x:List Int)(hS:S=ak x)(hx:bJ x)(ho:o.op=.call { callee:=.value (.func 56),args:=#[.const (.string S)],argTypes:=T })(hK:∀ v w',(SP.x (bZ x)).at w' v->Below w.heap.size w w'->K (a.put o.dst v) w'):o.wp Tryz.prog a w K Q :=
 Uj ho rfl (zt6 hS hx) (enters_of Tryz.func56 (by kernel_rfl) rfl) (fun _ _ h=>O4 h) hK
theorem Lu{d:Tmp}{T:Array TypeId}{l:List Tree}(hd:(SP.k l).at w (a.tmps.getD d undef))(ho:o.op=.call { callee:=.value (.func 55),args:=#[.tmp d],argTypes:=T })(hK:∀ v w',(SP.x (jh l)).at w' v->Below w.heap.size w w'->K (a.put o.dst v) w'):o.wp Tryz.prog a w K Q:=by
 obtain⟨sa,sc,vs,e,hk⟩:=hd;rw[e]at hk;exact Uj ho (show a.eval (.tmp d)=.slice sa l.length sc from e) (zpz hk) (enters_of Tryz.func55 (by kernel_rfl) rfl) (fun _ _ h=>O4 h) hK
theorem zn0{W:World}{b:Nat}{cs:Array Value}{vs:List XV}{l:List Tree}(h:W.heap[b]?=some (.cells cs 29 (0,0)))(hc:cs.toList=vs.flatMap XV.cells)(hl:vs.length=l.length)(hn:l.length<=1000)(ht:∀ (i:Nat) (y:XV) (t:Tree),vs[i]?=some y->l[i]?=some t->dX W (fun _=>True) y t):zK W (.slice (some ⟨b,0,none⟩) l.length l.length) vs l:=by
 refine⟨.inr ⟨b,0,l.length,rfl,zbA _,by unfold maxLen;omega,⟨_,_,by unfold KT;decide,h⟩,trivial,fun j u hj=>?_⟩,hl,ht⟩;unfold World.cell?;simp only[h,Nat.zero_add];rw[<- hc]at hj;simpa using hj
def xH(X Y:XV):Array Value:=#[.int .i64 X.kind,.string X.text,X.ns,.int .i64 X.lo,.int .i64 X.hi,X.ks,.int .i64 Y.kind,.string Y.text,Y.ns,.int .i64 Y.lo,.int .i64 Y.hi,Y.ks]
theorem zya(X Y:XV):Instr.fill (fun i=>some (i*6,6)) ((Array.range (2*6)).map ((Value.agg #[.int .i64 0,.string ⟨#[]⟩,.slice none 0 0,.int .i64 0,.int .i64 0,.slice none 0 0]).cells[·%6]!)) [(0,X.val),(1,Y.val)]=some (xH X Y):=by
 cases X
 cases Y
 kernel_rfl
theorem Uk(w:World)(X Y:XV){t u:Tree}(hX:dX w (fun _=>True) X t)(hY:dX w (fun _=>True) Y u):zK (w.alloc (.cells (xH X Y) 29)) (.slice (some ⟨w.heap.size,0,none⟩) 2 2) [X,Y] [t,u]:=by
 have hb:Below w.heap.size w (w.alloc (.cells (xH X Y) 29)):=(zbE _ _).alloc (zbA _) _;refine zn0 (zbO w _) rfl rfl (by simp) (fun i y t hy ht=>?_)
 match i with
 |0=>simp at hy ht;subst hy ht;exact hX.under hb
 |1=>simp at hy ht;subst hy ht;exact hY.under hb
 |i+2=>simp at hy
theorem zyb(w:World)(X:XV){t:Tree}(hX:dX w (fun _=>True) X t):zK (w.alloc (.cells X.arr 29)) (.slice (some ⟨w.heap.size,0,none⟩) 1 1) [X] [t]:=by
 have hb:Below w.heap.size w (w.alloc (.cells X.arr 29)):=(zbE _ _).alloc (zbA _) _;refine zn0 (zbO w _) rfl rfl (by simp) (fun i y t hy ht=>?_)
 match i with
 |0=>simp at hy ht;subst hy ht;exact hX.under hb
 |i+1=>simp at hy
theorem Lv{d1 d2:Tmp}{t u:Tree}(h1:(SP.x t).at w (a.tmps.getD d1 undef))(h2:(SP.x u).at w (a.tmps.getD d2 undef))(ho:o.op=.buildSlice 27 2 #[(0,.tmp d1),(1,.tmp d2)])(hK:∀ v w',(SP.k [t,u]).at w' v->Below w.heap.size w w'->K (a.put o.dst v) w'):o.wp Tryz.prog a w K Q:=by
 obtain⟨k1,x1,l1,g1,a1,n1,c1,b1,m1,e1,he1,hE1⟩:=h1;obtain⟨k2,x2,l2,g2,a2,n2,c2,b2,m2,e2,he2,hE2⟩:=h2;obtain⟨i0,hi0,hi1⟩:=Option.map_eq_some_iff.1 Jl;obtain⟨hz0,hz1,hz2⟩:i0.zero=some _/\i0.size=6/\i0.bytes=_:=by simpa using hi1
 refine wp_buildSlice 27 29 2 #[(0,.tmp d1),(1,.tmp d2)] ho (xH _ _) i0 _ Tryz.underlying27 hi0 hz0 (by rw[hz1];decide) (by rw[hz1];decide) ?_ (hK _ _ ⟨_,_,_,rfl,Uk w _ _ hE1 hE2⟩ ((zbE _ _).alloc (zbA _) _));rw[hz1];simp only[List.map_toArray,List.map_cons,List.map_nil];rw[show a.eval (.tmp d1)=XV.val ⟨k1,x1,.slice a1 n1 c1,l1,g1,.slice b1 m1 e1⟩ from he1,show a.eval (.tmp d2)=XV.val ⟨k2,x2,.slice a2 n2 c2,l2,g2,.slice b2 m2 e2⟩ from he2];exact zya _ _
theorem zyc{d1:Tmp}{t:Tree}(h1:(SP.x t).at w (a.tmps.getD d1 undef))(ho:o.op=.buildSlice 27 1 #[(0,.tmp d1)])(hK:∀ v w',(SP.k [t]).at w' v->Below w.heap.size w w'->K (a.put o.dst v) w'):o.wp Tryz.prog a w K Q:=by
 obtain⟨k1,x1,l1,g1,a1,n1,c1,b1,m1,e1,he1,hE1⟩:=h1;obtain⟨i0,hi0,hi1⟩:=Option.map_eq_some_iff.1 Jl;obtain⟨hz0,hz1,hz2⟩:i0.zero=some _/\i0.size=6/\i0.bytes=_:=by simpa using hi1
 refine wp_buildSlice 27 29 1 #[(0,.tmp d1)] ho (XV.arr _) i0 _ Tryz.underlying27 hi0 hz0 (by rw[hz1];decide) (by rw[hz1];decide) ?_ (hK _ _ ⟨_,_,_,rfl,zyb w _ hE1⟩ ((zbE _ _).alloc (zbA _) _));rw[hz1];simp only[List.map_toArray,List.map_cons,List.map_nil];rw[show a.eval (.tmp d1)=XV.val ⟨k1,x1,.slice a1 n1 c1,l1,g1,.slice b1 m1 e1⟩ from he1];exact Wd _ rfl rfl
theorem O6{ty:TypeId}{parts:Array (Nat × Operand)}{row:Array Value}{s:SP}(ho:o.op=.build ty parts)(hb:Tryz.prog.built ty (parts.map fun (i,x)=>(i,a.eval x)).toList=some row)(hs:s.at w (.agg row))(hK:∀ v w',s.at w' v->Below w.heap.size w w'->K (a.put o.dst v) w'):o.wp Tryz.prog a w K Q:=by
 refine wp_build ty parts ho (by rw[hb];rfl) ?_;rw[hb];exact hK _ _ hs (zbE _ _)
theorem zuy(x:Option Addr)(n c:Nat):Tryz.prog.built 29 [(0,.int .i64 2),(5,.slice x n c)]=some #[.int .i64 2,.string ⟨#[]⟩,.slice none 0 0,.int .i64 0,.int .i64 0,.slice x n c]:=by kernel_rfl
theorem zuz(x:Option Addr)(n c:Nat):Tryz.prog.built 29 [(0,.int .i64 3),(4,.int .i64 (-1)),(5,.slice x n c)]=some #[.int .i64 3,.string ⟨#[]⟩,.slice none 0 0,.int .i64 0,.int .i64 (-1),.slice x n c]:=by kernel_rfl
theorem zv0(s:ByteArray):Tryz.prog.built 29 [(0,.int .i64 5),(1,.string s)]=some #[.int .i64 5,.string s,.slice none 0 0,.int .i64 0,.int .i64 0,.slice none 0 0]:=by kernel_rfl
theorem zrm(s:ByteArray)(k:Int)(tx:ByteArray)(lo hi:Int)(a1:Option Addr)(n1 c1:Nat)(a2:Option Addr)(n2 c2:Nat):Tryz.prog.built 33 [(0,.string s),(1,.agg #[.int .i64 k,.string tx,.slice a1 n1 c1,.int .i64 lo,.int .i64 hi,.slice a2 n2 c2])]=some #[.string s,.int .i64 k,.string tx,.slice a1 n1 c1,.int .i64 lo,.int .i64 hi,.slice a2 n2 c2]:=by kernel_rfl
theorem qey{d:Tmp}{l:List Tree}(hd:(SP.k l).at w (a.tmps.getD d undef))(ho:o.op=.build 29 #[(0,.const (.int .i64 2)),(5,.tmp d)])(hK:∀ v w',(SP.x (rP l)).at w' v->Below w.heap.size w w'->K (a.put o.dst v) w'):o.wp Tryz.prog a w K Q:=by
 obtain⟨sa,sc,vs,e,hk⟩:=hd;rw[e]at hk;refine O6 (s:=.x (rP l)) ho ?_ ⟨_,_,_,_,_,_,_,_,_,_,rfl,hk.tree 2 0 0⟩ hK;simp only[List.map_toArray,List.map_cons,List.map_nil];rw[show a.eval (.tmp d)=.slice sa l.length sc from e];exact zuy _ _ _
theorem qez{d:Tmp}{l:List Tree}(hd:(SP.k l).at w (a.tmps.getD d undef))(ho:o.op=.build 29 #[(0,.const (.int .i64 3)),(4,.const (.int .i64 (-1))),(5,.tmp d)])(hK:∀ v w',(SP.x (.mk 3 [] [] 0 (-1) l)).at w' v->Below w.heap.size w w'->K (a.put o.dst v) w'):o.wp Tryz.prog a w K Q:=by
 obtain⟨sa,sc,vs,e,hk⟩:=hd;rw[e]at hk;refine O6 (s:=.x (.mk 3 [] [] 0 (-1) l)) ho ?_ ⟨_,_,_,_,_,_,_,_,_,_,rfl,hk.tree 3 0 (-1)⟩ hK;simp only[List.map_toArray,List.map_cons,List.map_nil];rw[show a.eval (.tmp d)=.slice sa l.length sc from e];exact zuz _ _ _
theorem qch{S:ByteArray}(x:List Int)(hS:S=ak x)(hx:bJ x)(ho:o.op=.build 29 #[(0,.const (.int .i64 5)),(1,.const (.string S))])(hK:∀ v w',(SP.x (dH x)).at w' v->Below w.heap.size w w'->K (a.put o.dst v) w'):o.wp Tryz.prog a w K Q:=by
 refine O6 (s:=.x (dH x)) ho ?_ ⟨5,S,0,0,none,0,0,none,0,0,rfl,by rw[hS];exact Ui hx⟩ hK;simp only[List.map_toArray,List.map_cons,List.map_nil];exact zv0 _
theorem uf{d:Tmp}{S:ByteArray}{t:Tree}(x:List Int)(hd:(SP.x t).at w (a.tmps.getD d undef))(hS:S=ak x)(hx:bJ x)(ho:o.op=.build 33 #[(0,.const (.string S)),(1,.tmp d)])(hK:∀ v w',(SP.r ⟨x,t⟩).at w' v->Below w.heap.size w w'->K (a.put o.dst v) w'):o.wp Tryz.prog a w K Q:=by
 obtain⟨k1,x1,l1,g1,a1,n1,c1,b1,m1,e1,he1,hE1⟩:=hd;refine O6 (s:=.r ⟨x,t⟩) ho ?_ ⟨S,k1,x1,l1,g1,a1,n1,c1,b1,m1,e1,rfl,hS,hx,hE1⟩ hK;simp only[List.map_toArray,List.map_cons,List.map_nil];rw[show a.eval (.tmp d)=.agg #[.int .i64 k1,.string x1,.slice a1 n1 c1,.int .i64 l1,.int .i64 g1,.slice b1 m1 e1]from he1];exact zrm _ _ _ _ _ _ _ _ _ _ _
theorem qdn{d:Tmp}{s:SP}(hd:s.at w (a.tmps.getD d undef))(ho:o.op=.move (.tmp d))(hK:∀ v w',s.at w' v->Below w.heap.size w w'->K (a.put o.dst v) w'):o.wp Tryz.prog a w K Q:=by
 unfold Oper.wp execOp;simp only[ho];exact hK _ _ hd (zbE _ _)
theorem zyd{d:Tmp}{s:SP}(hd:s.at w (a.tmps.getD d undef))(ho:o.op=.assign (.tmp d))(hK:∀ v w',s.at w' v->Below w.heap.size w w'->K (a.put o.dst v) w'):o.wp Tryz.prog a w K Q:=by
 unfold Oper.wp execOp;simp only[ho];exact hK _ _ hd (zbE _ _)
theorem qbd{d:Tmp}{g:Nat}{k:Int}{tx:ByteArray}{lo hi:Int}{a1:Option Addr}{n1 c1:Nat}{a2:Option Addr}{n2 c2:Nat}{t:Tree}(hd:a.tmps.getD d undef=.pointer (some ⟨g,0,none⟩))(hg:w.heap[g]?=some (.cells #[.int .i64 k,.string tx,.slice a1 n1 c1,.int .i64 lo,.int .i64 hi,.slice a2 n2 c2] 29 (0,0)))(hE:dX w (fun _=>True) ⟨k,tx,.slice a1 n1 c1,lo,hi,.slice a2 n2 c2⟩ t)(ho:o.op=.load 29 (.tmp d))(hK:∀ v w',(SP.x t).at w' v->Below w.heap.size w w'->K (a.put o.dst v) w'):o.wp Tryz.prog a w K Q :=
 wp_load_row 29 (.tmp d) ho g hd 29 _ (0,0) _ hg Tryz.underlying29 rfl GV (hK _ _ ⟨_,_,_,_,_,_,_,_,_,_,rfl,hE⟩ (zbE _ _))
def RE(W:World):List RV->List GR->Prop
 |[],[]=>True
 |y::ys,g::gs=>FK W y g/\RE W ys gs
 |_,_=>False
theorem RE.len{W:World}:∀ {ys:List RV} {gs:List GR},RE W ys gs->ys.length=gs.length
 |[],[],_=>rfl
 |y::ys,g::gs,h=>by simp[RE.len h.2]
theorem RE.each{W:World}:∀ {ys:List RV} {gs:List GR},RE W ys gs->∀ (i:Nat) (y:RV) (r:GR),ys[i]?=some y->gs[i]?=some r->FK W y r
 |[],[],_,i,y,r,hy,_=>by simp at hy
 |y::ys,g::gs,h,0,y',r,hy,hr=>by
  simp at hy hr;subst hy hr;exact h.1
 |y::ys,g::gs,h,i+1,y',r,hy,hr=>h.2.each i y' r (by simpa using hy) (by simpa using hr)
theorem RE.under{W W':World}:∀ {ys:List RV} {gs:List GR},RE W ys gs->Below W.heap.size W W'->RE W' ys gs
 |[],[],_,_=>trivial
 |y::ys,g::gs,h,hb=>⟨h.1.under hb,RE.under h.2 hb⟩
theorem qf0:(Tryz.prog.info? 33).map (fun i=>(i.zero,i.size))=some (some (.agg #[.string ⟨#[]⟩,.int .i64 0,.string ⟨#[]⟩,.slice none 0 0,.int .i64 0,.int .i64 0,.slice none 0 0]),7):=by kernel_rfl
theorem zv1(y0 y1 y2 y3 y4 y5 y6 y7 y8 y9 qM qN qO y13 qP qQ:RV):Instr.fill (fun i=>some (i*7,7)) ((Array.range (16*7)).map ((Value.agg #[.string ⟨#[]⟩,.int .i64 0,.string ⟨#[]⟩,.slice none 0 0,.int .i64 0,.int .i64 0,.slice none 0 0]).cells[·%7]!)) [(0,y0.val),(1,y1.val),(2,y2.val),(3,y3.val),(4,y4.val),(5,y5.val),(6,y6.val),(7,y7.val),(8,y8.val),(9,y9.val),(10,qM.val),(11,qN.val),(12,qO.val),(13,y13.val),(14,qP.val),(15,qQ.val)]=some ⟨[y0,y1,y2,y3,y4,y5,y6,y7,y8,y9,qM,qN,qO,y13,qP,qQ].flatMap RV.cells⟩:=by
 kernel_rfl
theorem SP.rv{g:GR}{v:Value}(h:(SP.r g).at w v):∃ y:RV,v=y.val/\FK w y g:=by
 obtain⟨nm,k1,x1,l1,g1,a1,n1,c1,b1,m1,e1,he1,hE1⟩:=h;exact⟨⟨nm,⟨k1,x1,.slice a1 n1 c1,l1,g1,.slice b1 m1 e1⟩⟩,he1,hE1⟩
theorem qbe{B:Nat}(hB:B<=w.heap.size){d0 d1 d2 d3 d4 d5 d6 d7 d8 d9 Lx LA LB LC LD LG:Tmp}{g0 g1 g2 g3 g4 g5 g6 g7 g8 g9 g10 g11 g12 g13 g14 g15:GR}(h0:(SP.r g0).at w (a.tmps.getD d0 undef))(h1:(SP.r g1).at w (a.tmps.getD d1 undef))(h2:(SP.r g2).at w (a.tmps.getD d2 undef))(h3:(SP.r g3).at w (a.tmps.getD d3 undef))(h4:(SP.r g4).at w (a.tmps.getD d4 undef))(h5:(SP.r g5).at w (a.tmps.getD d5 undef))(h6:(SP.r g6).at w (a.tmps.getD d6 undef))(h7:(SP.r g7).at w (a.tmps.getD d7 undef))(h8:(SP.r g8).at w (a.tmps.getD d8 undef))(h9:(SP.r g9).at w (a.tmps.getD d9 undef))(h10:(SP.r g10).at w (a.tmps.getD Lx undef))(h11:(SP.r g11).at w (a.tmps.getD LA undef))(h12:(SP.r g12).at w (a.tmps.getD LB undef))(nM:(SP.r g13).at w (a.tmps.getD LC undef))(h14:(SP.r g14).at w (a.tmps.getD LD undef))(h15:(SP.r g15).at w (a.tmps.getD LG undef))(ho:o.op=.buildSlice 25 16 #[(0,.tmp d0),(1,.tmp d1),(2,.tmp d2),(3,.tmp d3),(4,.tmp d4),(5,.tmp d5),(6,.tmp d6),(7,.tmp d7),(8,.tmp d8),(9,.tmp d9),(10,.tmp Lx),(11,.tmp LA),(12,.tmp LB),(13,.tmp LC),(14,.tmp LD),(15,.tmp LG)])(hK:∀ v w',(SP.rs B [g0,g1,g2,g3,g4,g5,g6,g7,g8,g9,g10,g11,g12,g13,g14,g15]).at w' v->Below w.heap.size w w'->K (a.put o.dst v) w'):o.wp Tryz.prog a w K Q:=by
 obtain⟨y0,e0,r0⟩:=SP.rv h0;obtain⟨y1,e1,r1⟩:=SP.rv h1;obtain⟨y2,e2,r2⟩:=SP.rv h2;obtain⟨y3,e3,r3⟩:=SP.rv h3;obtain⟨y4,e4,r4⟩:=SP.rv h4;obtain⟨y5,e5,r5⟩:=SP.rv h5;obtain⟨y6,e6,r6⟩:=SP.rv h6;obtain⟨y7,e7,r7⟩:=SP.rv h7;obtain⟨y8,e8,r8⟩:=SP.rv h8;obtain⟨y9,e9,r9⟩:=SP.rv h9;obtain⟨qM,e10,r10⟩:=SP.rv h10;obtain⟨qN,e11,r11⟩:=SP.rv h11;obtain⟨qO,e12,r12⟩:=SP.rv h12;obtain⟨y13,e13,r13⟩:=SP.rv nM;obtain⟨qP,e14,r14⟩:=SP.rv h14;obtain⟨qQ,e15,r15⟩:=SP.rv h15;obtain⟨i0,hi0,hi1⟩:=Option.map_eq_some_iff.1 qf0;obtain⟨hz0,hz1⟩:i0.zero=some _/\i0.size=7:=by simpa using hi1
 have hb:Below w.heap.size w (w.alloc (.cells ⟨[y0,y1,y2,y3,y4,y5,y6,y7,y8,y9,qM,qN,qO,y13,qP,qQ].flatMap RV.cells⟩ 33)):=(zbE _ _).alloc (zbA _) _;have hn:=zbO w (.cells ⟨[y0,y1,y2,y3,y4,y5,y6,y7,y8,y9,qM,qN,qO,y13,qP,qQ].flatMap RV.cells⟩ 33);have hre:RE w [y0,y1,y2,y3,y4,y5,y6,y7,y8,y9,qM,qN,qO,y13,qP,qQ] [g0,g1,g2,g3,g4,g5,g6,g7,g8,g9,g10,g11,g12,g13,g14,g15]:=⟨r0,r1,r2,r3,r4,r5,r6,r7,r8,r9,r10,r11,r12,r13,r14,r15,trivial⟩
 refine wp_buildSlice 25 33 16 #[(0,.tmp d0),(1,.tmp d1),(2,.tmp d2),(3,.tmp d3),(4,.tmp d4),(5,.tmp d5),(6,.tmp d6),(7,.tmp d7),(8,.tmp d8),(9,.tmp d9),(10,.tmp Lx),(11,.tmp LA),(12,.tmp LB),(13,.tmp LC),(14,.tmp LD),(15,.tmp LG)] ho _ i0 _ Tryz.underlying25 hi0 hz0 (by rw[hz1];decide) (by rw[hz1];decide) ?_ (hK _ _ ⟨[y0,y1,y2,y3,y4,y5,y6,y7,y8,y9,qM,qN,qO,y13,qP,qQ],w.heap.size,16,rfl,hB,.inr ⟨w.heap.size,0,16,rfl,zbA _,by unfold maxLen;omega,(zbD.1 hn).1,fun j u hj=>?_⟩,rfl,fun i y r hy hr=>(hre.under hb).each i y r hy hr⟩ hb)
 ·rw[hz1];simp only[List.map_toArray,List.map_cons,List.map_nil];rw[show a.eval (.tmp d0)=y0.val from e0,show a.eval (.tmp d1)=y1.val from e1,show a.eval (.tmp d2)=y2.val from e2,show a.eval (.tmp d3)=y3.val from e3,show a.eval (.tmp d4)=y4.val from e4,show a.eval (.tmp d5)=y5.val from e5,show a.eval (.tmp d6)=y6.val from e6,show a.eval (.tmp d7)=y7.val from e7,show a.eval (.tmp d8)=y8.val from e8,show a.eval (.tmp d9)=y9.val from e9,show a.eval (.tmp Lx)=qM.val from e10,show a.eval (.tmp LA)=qN.val from e11,show a.eval (.tmp LB)=qO.val from e12,show a.eval (.tmp LC)=y13.val from e13,show a.eval (.tmp LD)=qP.val from e14,show a.eval (.tmp LG)=qQ.val from e15];exact zv1 y0 y1 y2 y3 y4 y5 y6 y7 y8 y9 qM qN qO y13 qP qQ
 ·unfold World.cell?;simp only[hn,Nat.zero_add];simpa using hj
end
noncomputable def O7 (n:Nat):Code->Array Oper
 |.region m ops _=>if m=n then ops else #[]
 |.seq a b=>if (O7 n a).size=0 then O7 n b else O7 n a
 |_=>#[]
noncomputable def qp:Array Oper:=((Tryz.prog.funcs[37]?.bind (·.body)).map (O7 7)).getD #[]
theorem zq1:qp.size=52:=by kernel_rfl
theorem zv2:(qp.toList.zipIdx.all fun x=>x.1.after.all fun e=>decide (e.on<x.2))=true:=by kernel_rfl
theorem qbg(i:Nat)(o:Oper)(h:qp[i]?=some o):∀ e∈o.after,e.on<i:=by
 have h1:=List.all_eq_true.1 zv2 (o,i) (by rw[List.mem_zipIdx_iff_getElem?];simpa using h);intro e he;simpa using(Array.all_eq_true_iff_forall_mem.1 h1) e he
def dC(i:Nat):Nat:=if i=51 then 0 else i+25
def sC(B:Nat):List SP:=[
 .x (jK 65 90),
 .x (jK 97 122),
 .k [jK 65 90,jK 97 122],
 .x (jh [jK 65 90,jK 97 122]),
 .r ⟨Ju,jh [jK 65 90,jK 97 122]⟩,
 .x (dH [48]),
 .x (dH [49]),
 .k [dH [48],dH [49]],
 .x (jh [dH [48],dH [49]]),
 .r ⟨EF,jh [dH [48],dH [49]]⟩,
 .x (jK 1 127),
 .r ⟨Qo,jK 1 127⟩,
 .x (mX 13),
 .r ⟨Am,mX 13⟩,
 .x (bZ Am),
 .x (bZ Ap),
 .k [bZ Am,bZ Ap],
 .x (rP [bZ Am,bZ Ap]),
 .r ⟨tO,rP [bZ Am,bZ Ap]⟩,
 .x (jK 0 31),
 .x (mX 127),
 .k [jK 0 31,mX 127],
 .x (jh [jK 0 31,mX 127]),
 .r ⟨yF,jh [jK 0 31,mX 127]⟩,
 .x (jK 48 57),
 .r ⟨iQ,jK 48 57⟩,
 .x (mX 34),
 .r ⟨Qp,mX 34⟩,
 .k [bZ iQ,dH [97],dH [98],dH [99],dH [100],dH [101],dH [102]],
 .x (jh [bZ iQ,dH [97],dH [98],dH [99],dH [100],dH [101],dH [102]]),
 .r ⟨Jv,jh [bZ iQ,dH [97],dH [98],dH [99],dH [100],dH [101],dH [102]]⟩,
 .x (mX 9),
 .r ⟨Ao,mX 9⟩,
 .x (mX 10),
 .r ⟨Ap,mX 10⟩,
 .x (jh [bZ iT,rP [bZ tO,bZ iT]]),
 .k [jh [bZ iT,rP [bZ tO,bZ iT]]],
 .x (.mk 3 [] [] 0 (-1) [jh [bZ iT,rP [bZ tO,bZ iT]]]),
 .r ⟨Jw,.mk 3 [] [] 0 (-1) [jh [bZ iT,rP [bZ tO,bZ iT]]]⟩,
 .x (jK 0 255),
 .r ⟨Qq,jK 0 255⟩,
 .x (mX 32),
 .r ⟨Aq,mX 32⟩,
 .x (jK 33 126),
 .r ⟨Qr,jK 33 126⟩,
 .x (bZ Aq),
 .x (bZ Ao),
 .k [bZ Aq,bZ Ao],
 .x (jh [bZ Aq,bZ Ao]),
 .r ⟨iT,jh [bZ Aq,bZ Ao]⟩,
 .rs B fJ,
 .rs B fJ]
def JC(W:World)(V:Value)(g:Nat)(L:Array Bool)(a:Act)(w:World):Prop :=
 a.tmps.size=76/\a.defers=[]/\Below W.heap.size W w/\a.tmps.getD 1 undef=V/\a.tmps.getD 3 undef=.pointer (some ⟨g,0,none⟩)/\∀ (i:Nat) (s:SP),(sC W.heap.size)[i]?=some s->L.getD i false=true->s.at w (a.tmps.getD (dC i) undef)
theorem qci{B i:Nat}{s:SP}(h:(sC B)[i]?=some s):i<52:=(zbF.1 h).1
section
variable {W w w':World} {V v:Value} {g i j:Nat} {L:Array Bool} {a:Act} {s:SP} {K:Act → World → Prop} {Q:Exit → Act → World → Prop}
theorem JC.step(h:JC W V g L a w)(hi:(sC W.heap.size)[i]?=some s)(hL:L.size=52)(hs:s.at w' v)(hb:Below w.heap.size w w'):JC W V g (L.setIfInBounds i true) (a.put (some (dC i)) v) w':=by
 obtain⟨h1,h2,h3,h4,h5,h6⟩:=h;have hi':=qci hi;have hd:dC i<76/\dC i≠1/\dC i≠3:=by unfold dC;split<;>omega
 refine⟨by simpa[Act.put]using h1,h2,aJ h3 hb,?_,?_,fun k s' hk hl=>?_⟩
 ·simp only[Act.put];rw[Array.getD_eq_getD_getElem?,Array.getElem?_setIfInBounds_ne hd.2.1,<- Array.getD_eq_getD_getElem?];exact h4
 ·simp only[Act.put];rw[Array.getD_eq_getD_getElem?,Array.getElem?_setIfInBounds_ne hd.2.2,<- Array.getD_eq_getD_getElem?];exact h5
 ·have hk':=qci hk;simp only[Act.put];by_cases e:k=i
  ·subst e;rw[hi]at hk;obtain rfl:=zbB hk;rw[Array.getD_eq_getD_getElem?,Array.getElem?_setIfInBounds_self_of_lt (by omega)];exact hs
  ·have hne:dC i≠dC k:=by unfold dC;split<;>split<;>omega
   rw[Array.getD_eq_getD_getElem?,Array.getElem?_setIfInBounds_ne hne,<- Array.getD_eq_getD_getElem?];rw[Array.getD_eq_getD_getElem?,Array.getElem?_setIfInBounds_ne (Ne.symm e),<- Array.getD_eq_getD_getElem?]at hl;exact SP.under (h6 k s' hk hl) hb
theorem JC.get(h:JC W V g L a w)(hr:i∈Region.ready .any qp L)(hd:((qp[i]?).map fun o=>o.after.any fun e=>decide (e.on=j)&&Region.binds .any e)=some true)(hj:(sC W.heap.size)[j]?=some s):s.at w (a.tmps.getD (dC j) undef):=by
 obtain⟨_,_,o,ho,h3⟩:=KL.1 hr;rw[ho]at hd;have hd':(o.after.any fun e=>decide (e.on=j)&&Region.binds .any e)=true:=zbB hd;rw[<- Array.any_toList]at hd';obtain⟨e,he,hc⟩:=List.any_eq_true.1 hd';have he:=Array.mem_toList_iff.1 he;simp only[zbJ,decide_eq_true_eq]at hc;have:=h3 e he hc.2;rw[hc.1]at this;exact h.2.2.2.2.2 j s hj this
theorem gH{d:Nat}{X:Op}(hm:((qp[i]?).map fun o=>(o.dst,o.op,o.guard))=some (some d,X,none))(h:∀ o:Oper,o.op=X->o.dst=some d->o.wp Tryz.prog a w K Q):wpOp Tryz.prog qp Q i K a w:=by
 obtain⟨o,ho,he⟩:=Option.map_eq_some_iff.1 hm;simp only[Prod.mk.injEq]at he;unfold wpOp;rw[ho];show if Region.wanted o _ then _ else _
 rw[if_pos (by unfold Region.wanted;rw[he.2.2])];exact .inl (h o he.2.1 he.1)
theorem qdo{k:Int}{tx:ByteArray}{lo hi:Int}{a1:Option Addr}{n1 c1:Nat}{a2:Option Addr}{n2 c2:Nat}(hV:(SP.k [bZ iQ,dH [97],dH [98],dH [99],dH [100],dH [101],dH [102]]).at W V)(hg2:g<W.heap.size)(hg:W.heap[g]?=some (.cells #[.int .i64 k,.string tx,.slice a1 n1 c1,.int .i64 lo,.int .i64 hi,.slice a2 n2 c2] 29 (0,0)))(hE:dX W (fun _=>True) ⟨k,tx,.slice a1 n1 c1,lo,hi,.slice a2 n2 c2⟩ (jh [bZ iT,rP [bZ tO,bZ iT]]))
  (hL:L.size=52) (hJ:JC W V g L a w) (hr:i∈Region.ready .any qp L) (Ul:i<52):wpOp Tryz.prog qp Q i (JC W V g (L.setIfInBounds i true)) a w:=by
 match i,Ul with
 |0,_=>exact gH (d:=25) (by kernel_rfl) fun o ho hd=>FM (n:=65) (m:=90) (T:=#[3,3]) ho (fun v w' hs hb=>by rw[hd];exact hJ.step (i:=0) rfl hL hs hb)
 |1,_=>exact gH (d:=26) (by kernel_rfl) fun o ho hd=>FM (n:=97) (m:=122) (T:=#[3,3]) ho (fun v w' hs hb=>by rw[hd];exact hJ.step (i:=1) rfl hL hs hb)
 |2,_=>exact gH (d:=27) (by kernel_rfl) fun o ho hd=>Lv (d1:=25) (d2:=26) (hJ.get (i:=2) (j:=0) hr (by kernel_rfl) rfl) (hJ.get (i:=2) (j:=1) hr (by kernel_rfl) rfl) ho (fun v w' hs hb=>by rw[hd];exact hJ.step (i:=2) rfl hL hs hb)
 |3,_=>exact gH (d:=28) (by kernel_rfl) fun o ho hd=>Lu (d:=27) (T:=#[27]) (hJ.get (i:=3) (j:=2) hr (by kernel_rfl) rfl) ho (fun v w' hs hb=>by rw[hd];exact hJ.step (i:=3) rfl hL hs hb)
 |4,_=>exact gH (d:=29) (by kernel_rfl) fun o ho hd=>uf (d:=28) (S:=⟨#[97,108,112,104,97]⟩) Ju (hJ.get (i:=4) (j:=3) hr (by kernel_rfl) rfl) (by kernel_rfl) (by unfold bJ;decide) ho (fun v w' hs hb=>by rw[hd];exact hJ.step (i:=4) rfl hL hs hb)
 |5,_=>exact gH (d:=30) (by kernel_rfl) fun o ho hd=>qch (S:=⟨#[48]⟩) [48] (by kernel_rfl) (by unfold bJ;decide) ho (fun v w' hs hb=>by rw[hd];exact hJ.step (i:=5) rfl hL hs hb)
 |6,_=>exact gH (d:=31) (by kernel_rfl) fun o ho hd=>qch (S:=⟨#[49]⟩) [49] (by kernel_rfl) (by unfold bJ;decide) ho (fun v w' hs hb=>by rw[hd];exact hJ.step (i:=6) rfl hL hs hb)
 |7,_=>exact gH (d:=32) (by kernel_rfl) fun o ho hd=>Lv (d1:=30) (d2:=31) (hJ.get (i:=7) (j:=5) hr (by kernel_rfl) rfl) (hJ.get (i:=7) (j:=6) hr (by kernel_rfl) rfl) ho (fun v w' hs hb=>by rw[hd];exact hJ.step (i:=7) rfl hL hs hb)
 |8,_=>exact gH (d:=33) (by kernel_rfl) fun o ho hd=>Lu (d:=32) (T:=#[27]) (hJ.get (i:=8) (j:=7) hr (by kernel_rfl) rfl) ho (fun v w' hs hb=>by rw[hd];exact hJ.step (i:=8) rfl hL hs hb)
 |9,_=>exact gH (d:=34) (by kernel_rfl) fun o ho hd=>uf (d:=33) (S:=⟨#[98,105,116]⟩) EF (hJ.get (i:=9) (j:=8) hr (by kernel_rfl) rfl) (by kernel_rfl) (by unfold bJ;decide) ho (fun v w' hs hb=>by rw[hd];exact hJ.step (i:=9) rfl hL hs hb)
 |10,_=>exact gH (d:=35) (by kernel_rfl) fun o ho hd=>FM (n:=1) (m:=127) (T:=#[3,3]) ho (fun v w' hs hb=>by rw[hd];exact hJ.step (i:=10) rfl hL hs hb)
 |11,_=>exact gH (d:=36) (by kernel_rfl) fun o ho hd=>uf (d:=35) (S:=⟨#[99,104,97,114]⟩) Qo (hJ.get (i:=11) (j:=10) hr (by kernel_rfl) rfl) (by kernel_rfl) (by unfold bJ;decide) ho (fun v w' hs hb=>by rw[hd];exact hJ.step (i:=11) rfl hL hs hb)
 |12,_=>exact gH (d:=37) (by kernel_rfl) fun o ho hd=>Iz (n:=13) (T:=#[3]) ho (fun v w' hs hb=>by rw[hd];exact hJ.step (i:=12) rfl hL hs hb)
 |13,_=>exact gH (d:=38) (by kernel_rfl) fun o ho hd=>uf (d:=37) (S:=⟨#[99,114]⟩) Am (hJ.get (i:=13) (j:=12) hr (by kernel_rfl) rfl) (by kernel_rfl) (by unfold bJ;decide) ho (fun v w' hs hb=>by rw[hd];exact hJ.step (i:=13) rfl hL hs hb)
 |14,_=>exact gH (d:=39) (by kernel_rfl) fun o ho hd=>O5 (S:=⟨#[99,114]⟩) (T:=#[9]) Am (by kernel_rfl) (by unfold bJ;decide) ho (fun v w' hs hb=>by rw[hd];exact hJ.step (i:=14) rfl hL hs hb)
 |15,_=>exact gH (d:=40) (by kernel_rfl) fun o ho hd=>O5 (S:=⟨#[108,102]⟩) (T:=#[9]) Ap (by kernel_rfl) (by unfold bJ;decide) ho (fun v w' hs hb=>by rw[hd];exact hJ.step (i:=15) rfl hL hs hb)
 |16,_=>exact gH (d:=41) (by kernel_rfl) fun o ho hd=>Lv (d1:=39) (d2:=40) (hJ.get (i:=16) (j:=14) hr (by kernel_rfl) rfl) (hJ.get (i:=16) (j:=15) hr (by kernel_rfl) rfl) ho (fun v w' hs hb=>by rw[hd];exact hJ.step (i:=16) rfl hL hs hb)
 |17,_=>exact gH (d:=42) (by kernel_rfl) fun o ho hd=>qey (d:=41) (hJ.get (i:=17) (j:=16) hr (by kernel_rfl) rfl) ho (fun v w' hs hb=>by rw[hd];exact hJ.step (i:=17) rfl hL hs hb)
 |18,_=>exact gH (d:=43) (by kernel_rfl) fun o ho hd=>uf (d:=42) (S:=⟨#[99,114,108,102]⟩) tO (hJ.get (i:=18) (j:=17) hr (by kernel_rfl) rfl) (by kernel_rfl) (by unfold bJ;decide) ho (fun v w' hs hb=>by rw[hd];exact hJ.step (i:=18) rfl hL hs hb)
 |19,_=>exact gH (d:=44) (by kernel_rfl) fun o ho hd=>FM (n:=0) (m:=31) (T:=#[3,3]) ho (fun v w' hs hb=>by rw[hd];exact hJ.step (i:=19) rfl hL hs hb)
 |20,_=>exact gH (d:=45) (by kernel_rfl) fun o ho hd=>Iz (n:=127) (T:=#[3]) ho (fun v w' hs hb=>by rw[hd];exact hJ.step (i:=20) rfl hL hs hb)
 |21,_=>exact gH (d:=46) (by kernel_rfl) fun o ho hd=>Lv (d1:=44) (d2:=45) (hJ.get (i:=21) (j:=19) hr (by kernel_rfl) rfl) (hJ.get (i:=21) (j:=20) hr (by kernel_rfl) rfl) ho (fun v w' hs hb=>by rw[hd];exact hJ.step (i:=21) rfl hL hs hb)
 |22,_=>exact gH (d:=47) (by kernel_rfl) fun o ho hd=>Lu (d:=46) (T:=#[27]) (hJ.get (i:=22) (j:=21) hr (by kernel_rfl) rfl) ho (fun v w' hs hb=>by rw[hd];exact hJ.step (i:=22) rfl hL hs hb)
 |23,_=>exact gH (d:=48) (by kernel_rfl) fun o ho hd=>uf (d:=47) (S:=⟨#[99,116,108]⟩) yF (hJ.get (i:=23) (j:=22) hr (by kernel_rfl) rfl) (by kernel_rfl) (by unfold bJ;decide) ho (fun v w' hs hb=>by rw[hd];exact hJ.step (i:=23) rfl hL hs hb)
 |24,_=>exact gH (d:=49) (by kernel_rfl) fun o ho hd=>FM (n:=48) (m:=57) (T:=#[3,3]) ho (fun v w' hs hb=>by rw[hd];exact hJ.step (i:=24) rfl hL hs hb)
 |25,_=>exact gH (d:=50) (by kernel_rfl) fun o ho hd=>uf (d:=49) (S:=⟨#[100,105,103,105,116]⟩) iQ (hJ.get (i:=25) (j:=24) hr (by kernel_rfl) rfl) (by kernel_rfl) (by unfold bJ;decide) ho (fun v w' hs hb=>by rw[hd];exact hJ.step (i:=25) rfl hL hs hb)
 |26,_=>exact gH (d:=51) (by kernel_rfl) fun o ho hd=>Iz (n:=34) (T:=#[3]) ho (fun v w' hs hb=>by rw[hd];exact hJ.step (i:=26) rfl hL hs hb)
 |27,_=>exact gH (d:=52) (by kernel_rfl) fun o ho hd=>uf (d:=51) (S:=⟨#[100,113,117,111,116,101]⟩) Qp (hJ.get (i:=27) (j:=26) hr (by kernel_rfl) rfl) (by kernel_rfl) (by unfold bJ;decide) ho (fun v w' hs hb=>by rw[hd];exact hJ.step (i:=27) rfl hL hs hb)
 |28,_=>exact gH (d:=53) (by kernel_rfl) fun o ho hd=>qdn (d:=1) (s:=.k [bZ iQ,dH [97],dH [98],dH [99],dH [100],dH [101],dH [102]]) (by rw[hJ.2.2.2.1];exact SP.under hV hJ.2.2.1) ho (fun v w' hs hb=>by rw[hd];exact hJ.step (i:=28) rfl hL hs hb)
 |29,_=>exact gH (d:=54) (by kernel_rfl) fun o ho hd=>Lu (d:=53) (T:=#[27]) (hJ.get (i:=29) (j:=28) hr (by kernel_rfl) rfl) ho (fun v w' hs hb=>by rw[hd];exact hJ.step (i:=29) rfl hL hs hb)
 |30,_=>exact gH (d:=55) (by kernel_rfl) fun o ho hd=>uf (d:=54) (S:=⟨#[104,101,120,100,105,103]⟩) Jv (hJ.get (i:=30) (j:=29) hr (by kernel_rfl) rfl) (by kernel_rfl) (by unfold bJ;decide) ho (fun v w' hs hb=>by rw[hd];exact hJ.step (i:=30) rfl hL hs hb)
 |31,_=>exact gH (d:=56) (by kernel_rfl) fun o ho hd=>Iz (n:=9) (T:=#[3]) ho (fun v w' hs hb=>by rw[hd];exact hJ.step (i:=31) rfl hL hs hb)
 |32,_=>exact gH (d:=57) (by kernel_rfl) fun o ho hd=>uf (d:=56) (S:=⟨#[104,116,97,98]⟩) Ao (hJ.get (i:=32) (j:=31) hr (by kernel_rfl) rfl) (by kernel_rfl) (by unfold bJ;decide) ho (fun v w' hs hb=>by rw[hd];exact hJ.step (i:=32) rfl hL hs hb)
 |33,_=>exact gH (d:=58) (by kernel_rfl) fun o ho hd=>Iz (n:=10) (T:=#[3]) ho (fun v w' hs hb=>by rw[hd];exact hJ.step (i:=33) rfl hL hs hb)
 |34,_=>exact gH (d:=59) (by kernel_rfl) fun o ho hd=>uf (d:=58) (S:=⟨#[108,102]⟩) Ap (hJ.get (i:=34) (j:=33) hr (by kernel_rfl) rfl) (by kernel_rfl) (by unfold bJ;decide) ho (fun v w' hs hb=>by rw[hd];exact hJ.step (i:=34) rfl hL hs hb)
 |35,_=>exact gH (d:=60) (by kernel_rfl) fun o ho hd=>qbd (d:=3) hJ.2.2.2.2.1 ((hJ.2.2.1.block g hg2).trans hg) (hE.under hJ.2.2.1) ho (fun v w' hs hb=>by rw[hd];exact hJ.step (i:=35) rfl hL hs hb)
 |36,_=>exact gH (d:=61) (by kernel_rfl) fun o ho hd=>zyc (d1:=60) (hJ.get (i:=36) (j:=35) hr (by kernel_rfl) rfl) ho (fun v w' hs hb=>by rw[hd];exact hJ.step (i:=36) rfl hL hs hb)
 |37,_=>exact gH (d:=62) (by kernel_rfl) fun o ho hd=>qez (d:=61) (hJ.get (i:=37) (j:=36) hr (by kernel_rfl) rfl) ho (fun v w' hs hb=>by rw[hd];exact hJ.step (i:=37) rfl hL hs hb)
 |38,_=>exact gH (d:=63) (by kernel_rfl) fun o ho hd=>uf (d:=62) (S:=⟨#[108,119,115,112]⟩) Jw (hJ.get (i:=38) (j:=37) hr (by kernel_rfl) rfl) (by kernel_rfl) (by unfold bJ;decide) ho (fun v w' hs hb=>by rw[hd];exact hJ.step (i:=38) rfl hL hs hb)
 |39,_=>exact gH (d:=64) (by kernel_rfl) fun o ho hd=>FM (n:=0) (m:=255) (T:=#[3,3]) ho (fun v w' hs hb=>by rw[hd];exact hJ.step (i:=39) rfl hL hs hb)
 |40,_=>exact gH (d:=65) (by kernel_rfl) fun o ho hd=>uf (d:=64) (S:=⟨#[111,99,116,101,116]⟩) Qq (hJ.get (i:=40) (j:=39) hr (by kernel_rfl) rfl) (by kernel_rfl) (by unfold bJ;decide) ho (fun v w' hs hb=>by rw[hd];exact hJ.step (i:=40) rfl hL hs hb)
 |41,_=>exact gH (d:=66) (by kernel_rfl) fun o ho hd=>Iz (n:=32) (T:=#[3]) ho (fun v w' hs hb=>by rw[hd];exact hJ.step (i:=41) rfl hL hs hb)
 |42,_=>exact gH (d:=67) (by kernel_rfl) fun o ho hd=>uf (d:=66) (S:=⟨#[115,112]⟩) Aq (hJ.get (i:=42) (j:=41) hr (by kernel_rfl) rfl) (by kernel_rfl) (by unfold bJ;decide) ho (fun v w' hs hb=>by rw[hd];exact hJ.step (i:=42) rfl hL hs hb)
 |43,_=>exact gH (d:=68) (by kernel_rfl) fun o ho hd=>FM (n:=33) (m:=126) (T:=#[3,3]) ho (fun v w' hs hb=>by rw[hd];exact hJ.step (i:=43) rfl hL hs hb)
 |44,_=>exact gH (d:=69) (by kernel_rfl) fun o ho hd=>uf (d:=68) (S:=⟨#[118,99,104,97,114]⟩) Qr (hJ.get (i:=44) (j:=43) hr (by kernel_rfl) rfl) (by kernel_rfl) (by unfold bJ;decide) ho (fun v w' hs hb=>by rw[hd];exact hJ.step (i:=44) rfl hL hs hb)
 |45,_=>exact gH (d:=70) (by kernel_rfl) fun o ho hd=>O5 (S:=⟨#[115,112]⟩) (T:=#[9]) Aq (by kernel_rfl) (by unfold bJ;decide) ho (fun v w' hs hb=>by rw[hd];exact hJ.step (i:=45) rfl hL hs hb)
 |46,_=>exact gH (d:=71) (by kernel_rfl) fun o ho hd=>O5 (S:=⟨#[104,116,97,98]⟩) (T:=#[9]) Ao (by kernel_rfl) (by unfold bJ;decide) ho (fun v w' hs hb=>by rw[hd];exact hJ.step (i:=46) rfl hL hs hb)
 |47,_=>exact gH (d:=72) (by kernel_rfl) fun o ho hd=>Lv (d1:=70) (d2:=71) (hJ.get (i:=47) (j:=45) hr (by kernel_rfl) rfl) (hJ.get (i:=47) (j:=46) hr (by kernel_rfl) rfl) ho (fun v w' hs hb=>by rw[hd];exact hJ.step (i:=47) rfl hL hs hb)
 |48,_=>exact gH (d:=73) (by kernel_rfl) fun o ho hd=>Lu (d:=72) (T:=#[27]) (hJ.get (i:=48) (j:=47) hr (by kernel_rfl) rfl) ho (fun v w' hs hb=>by rw[hd];exact hJ.step (i:=48) rfl hL hs hb)
 |49,_=>exact gH (d:=74) (by kernel_rfl) fun o ho hd=>uf (d:=73) (S:=⟨#[119,115,112]⟩) iT (hJ.get (i:=49) (j:=48) hr (by kernel_rfl) rfl) (by kernel_rfl) (by unfold bJ;decide) ho (fun v w' hs hb=>by rw[hd];exact hJ.step (i:=49) rfl hL hs hb)
 |50,_=>exact gH (d:=75) (by kernel_rfl) fun o ho hd=>qbe (B:=W.heap.size) hJ.2.2.1.size (d0:=29) (d1:=34) (d2:=36) (d3:=38) (d4:=43) (d5:=48) (d6:=50) (d7:=52) (d8:=55) (d9:=57) (Lx:=59) (LA:=63) (LB:=65) (LC:=67) (LD:=69) (LG:=74) (hJ.get (i:=50) (j:=4) hr (by kernel_rfl) rfl) (hJ.get (i:=50) (j:=9) hr (by kernel_rfl) rfl) (hJ.get (i:=50) (j:=11) hr (by kernel_rfl) rfl) (hJ.get (i:=50) (j:=13) hr (by kernel_rfl) rfl) (hJ.get (i:=50) (j:=18) hr (by kernel_rfl) rfl) (hJ.get (i:=50) (j:=23) hr (by kernel_rfl) rfl) (hJ.get (i:=50) (j:=25) hr (by kernel_rfl) rfl) (hJ.get (i:=50) (j:=27) hr (by kernel_rfl) rfl) (hJ.get (i:=50) (j:=30) hr (by kernel_rfl) rfl) (hJ.get (i:=50) (j:=32) hr (by kernel_rfl) rfl) (hJ.get (i:=50) (j:=34) hr (by kernel_rfl) rfl) (hJ.get (i:=50) (j:=38) hr (by kernel_rfl) rfl) (hJ.get (i:=50) (j:=40) hr (by kernel_rfl) rfl) (hJ.get (i:=50) (j:=42) hr (by kernel_rfl) rfl) (hJ.get (i:=50) (j:=44) hr (by kernel_rfl) rfl) (hJ.get (i:=50) (j:=49) hr (by kernel_rfl) rfl) ho (fun v w' hs hb=>by rw[hd];exact hJ.step (i:=50) rfl hL hs hb)
 |51,_=>exact gH (d:=0) (by kernel_rfl) fun o ho hd=>zyd (d:=75) (s:=.rs W.heap.size fJ) (hJ.get (i:=51) (j:=50) hr (by kernel_rfl) rfl) ho (fun v w' hs hb=>by rw[hd];exact hJ.step (i:=51) rfl hL hs hb)
 |n+52,h=>omega
end
theorem zrn{W:World}{tmps:Array Value}{V:Value}{g:Nat}{ops:Array Oper}{Q:Exit->Act->World->Prop}{k:Int}{tx:ByteArray}{lo hi:Int}{a1:Option Addr}{n1 c1:Nat}{a2:Option Addr}{n2 c2:Nat}(hops:qp=ops)(hsz:tmps.size=76)(h1:tmps.getD 1 undef=V)(h3:tmps.getD 3 undef=.pointer (some ⟨g,0,none⟩))
  (hV:(SP.k [bZ iQ,dH [97],dH [98],dH [99],dH [100],dH [101],dH [102]]).at W V) (hg:W.heap[g]?=some (.cells #[.int .i64 k,.string tx,.slice a1 n1 c1,.int .i64 lo,.int .i64 hi,.slice a2 n2 c2] 29 (0,0))) (hE:dX W (fun _=>True) ⟨k,tx,.slice a1 n1 c1,lo,hi,.slice a2 n2 c2⟩ (jh [bZ iT,rP [bZ tO,bZ iT]]))
  (hQ:∀ (tm:Array Value) (w:World) (v:Value) (ys:List RV),tm.getD 0 undef=v->oV w v ys fJ->(∃ g c,v=.slice (some ⟨g,0,none⟩) fJ.length c/\W.heap.size<=g)->Below W.heap.size W w->Q .normal ⟨tm,[]⟩ w):(Code.region 7 ops true).wp Tryz.prog Q ⟨tmps,[]⟩ W:=by
 subst hops;have hm:Tryz.prog.follows .mixedOrders=true:=by kernel_rfl
 have hg2:g<W.heap.size:=(zbD.1 hg).1;refine zo2 (JC W V g) hm ⟨hsz,rfl,⟨rfl,rfl,rfl,zbA _,fun k _=>rfl⟩,h1,h3,fun i s hs hl=>?_⟩ (fun L a w i hL hJ hr=>?_) (fun L a w hL hJ hr=>?_)
 ·exfalso;rw[Array.getD_eq_getD_getElem?,Array.getElem?_replicate]at hl;split at hl<;>simp at hl
 ·have hi:=(KL.1 hr).1;rw[zq1]at hi hL;exact qdo hV hg2 hg hE hL hJ hr hi
 ·have hl:=zun qbg hL hr 51 (by rw[zq1];omega);obtain⟨tm,df⟩:=a;obtain⟨j1,j2,j3,j4,j5,j6⟩:=hJ;simp only at j2;subst j2;obtain⟨ys,gn,cn,hv,hgn,hys⟩:=j6 51 (.rs W.heap.size fJ) rfl hl;exact hQ _ _ _ ys rfl hys ⟨gn,cn,hv,hgn⟩ j3
theorem zye{w:World}:Calls Tryz.prog 37 #[] w (fun e w'=>∃ v ys,e=.returned v/\oV w' v ys fJ/\(∃ g c,v=.slice (some ⟨g,0,none⟩) fJ.length c/\w.heap.size<=g)/\Below w.heap.size w w'):=by
 have hdig:bJ iQ:=by unfold bJ;decide
 have ed:(⟨#[100,105,103,105,116]⟩:ByteArray)=ak iQ:=by kernel_rfl
 have Cx:=hh9 (fun (W:World) (S:ByteArray) (x:List Int) (hS:S=ak x) (hx:bJ x)=>zt6 (w:=W) hS hx);have HED:=hh9 ed;have Um:=hh9 hdig;clear ed hdig;go_enter Tryz.func37,Tryz.ntmps37;go_wp2_with fail
 refine(Cx.out w _ _ HED.out Um.out).mono ?_;rintro e w1 ⟨k,tx,lo,hi,a1,n1,c1,a2,n2,c2,rfl,hE1,hb1⟩;have HB1:=hh9 hb1;have Az:=hh9 hE1;have hrow:=bq (base:=w.heap.size) (size:=6) (n:=1) hb1.size (zbO w1 (.cells #[.int .i64 k,.string tx,.slice a1 n1 c1,.int .i64 lo,.int .i64 hi,.slice a2 n2 c2] 29)) (by unfold maxLen;omega) rfl;have LH:=hh9 hrow;have ow:Hid (Below w1.heap.size w1 (w1.alloc (.cells #[.int .i64 k,.string tx,.slice a1 n1 c1,.int .i64 lo,.int .i64 hi,.slice a2 n2 c2] 29))):=(zbE _ _).alloc (zbA _) _;clear hb1 hE1 hrow;go_wp2_with fail
 go_loopw [1,2] (fun s v wr=>∃ (i:Nat) (sa:Option Addr) (sc:Nat),s=.slice sa (i+1) sc/\v=.int .i64 (97+i)/\i<=6/\Hid (wr.ownsRow w.heap.size 29 6 (.slice sa (i+1) sc) (i+1) ((lG ⟨k,tx,.slice a1 n1 c1,lo,hi,.slice a2 n2 c2⟩ i).flatMap XV.cells))/\Hid (Below w.heap.size w wr/\dX wr (fun _=>True) ⟨k,tx,.slice a1 n1 c1,lo,hi,.slice a2 n2 c2⟩ (bZ iQ))) (fun _ v _=>(103-intOf v).toNat)
 case atStart=>exact⟨0,_,_,rfl,rfl,by omega,LH,aJ HB1.out ow.out,Az.out.under ow.out⟩
 case round =>
  obtain⟨i,sa,sc,rfl,rfl,Zo,cO,pK⟩:=hrel;by_cases hlt:i<6
  ·have q1:decide ((97:Int)+(i:Int)<103)=true:=zbN (by omega);have kc:=fun (W:World)=>Uf W (97+(i:Int)) (by omega) (by omega)
   have hb3:Below wr.heap.size wr ((wr.alloc (.cells #[.int .u8 (97+(i:Int))] 5)).alloc (.cells #[.int .i64 5,.string (ak [97+(i:Int)]),.slice none 0 0,.int .i64 0,.int .i64 0,.slice none 0 0] 29)):=((zbE _ _).alloc (zbA _) _).alloc (by simp) _;have HB3:=hh9 hb3;have D9:=hh9 (show ((wr.alloc (.cells #[.int .u8 (97+(i:Int))] 5)).alloc (.cells #[.int .i64 5,.string (ak [97+(i:Int)]),.slice none 0 0,.int .i64 0,.int .i64 0,.slice none 0 0] 29)).ownsRow w.heap.size 29 6 (.slice sa (i+1) sc) (lG ⟨k,tx,.slice a1 n1 c1,lo,hi,.slice a2 n2 c2⟩ i).length ((lG ⟨k,tx,.slice a1 n1 c1,lo,hi,.slice a2 n2 c2⟩ i).flatMap XV.cells) by rw[O1];exact mI cO.out hb3);have hx:=zbO (wr.alloc (.cells #[.int .u8 (97+(i:Int))] 5)) (.cells #[.int .i64 5,.string (ak [97+(i:Int)]),.slice none 0 0,.int .i64 0,.int .i64 0,.slice none 0 0] 29);rw[World.size_alloc]at hx;have zx:=hh9 (OD (X:=FL (97+(i:Int))) hx);have hwr:=pK.out.1.size;have hs3:((wr.alloc (.cells #[.int .u8 (97+(i:Int))] 5)).alloc (.cells #[.int .i64 5,.string (ak [97+(i:Int)]),.slice none 0 0,.int .i64 0,.int .i64 0,.slice none 0 0] 29)).heap.size=wr.heap.size+2:=by simp
   have yY:Hid (∀ u∈[FL (97+(i:Int))].flatMap XV.cells,u.oneCell'=true):=fun u hu=>by
    simp[XV.cells,FL]at hu;rcases hu with rfl|rfl|rfl|rfl|rfl|rfl<;>rfl
   have jY:Hid ((lG ⟨k,tx,.slice a1 n1 c1,lo,hi,.slice a2 n2 c2⟩ i).length+[FL (97+(i:Int))].length<=100000000):=by unfold Hid;rw[O1];simp;omega
   have HS3:=hh9 hs3;have hw8:wrap64 (97+(i:Int))=97+i:=by unfold wrap64;omega
   have Im:IntKind.u8.wrap (97+(i:Int))=97+i:=by simp[IntKind.wrap,IntKind.signed,IntKind.bits];omega
   clear hb3 hx hs3;go_wp2_with (at_builtin;go_loud (refine KH rfl _ _ rfl w.heap.size _ _ (lG ⟨k,tx,.slice a1 n1 c1,lo,hi,.slice a2 n2 c2⟩ i) [FL (97+(i:Int))] rfl rfl D9.out zx.out (by simp) yY.out jY.out (by rw[HS3.out];omega) ?_);intro v4 w4 sS zM zC;have sU:=hh9 sS;have FN:Hid (World.grownBy _ w4 (Value.ownBlock (.slice sa (i+1) sc))):=zM;clear sS zM zC)
   have h4:w4.ownsRow w.heap.size 29 6 v4 (i+1+1) ((lG ⟨k,tx,.slice a1 n1 c1,lo,hi,.slice a2 n2 c2⟩ (i+1)).flatMap XV.cells):=by
    have h:=sU.out;rw[<- zy9,O1]at h;exact h
   obtain⟨a4,c4,rfl⟩:=qG h4;have Ca:=lD D9.out;refine⟨⟨i+1,a4,c4,rfl,by go_num,by omega,h4,((pK.out.1.trans (HB3.out.mono hwr)).grown FN.out (by rw[HS3.out];omega) (fun b e=>by have:=Ca b e;omega)),qex pK.out.2⟩,?_⟩;simp[intOf];omega
  ·obtain rfl:i=6:=by omega
   have q1:decide ((97:Int)+((6:Nat):Int)<103)=false:=by decide
   have HK:=hh9 (qbb (by omega) pK.out.2 cO.out);go_wp2_with fail
   have Hu:=hh9 (show (⟨#[119,115,112]⟩:ByteArray)=ak iT by kernel_rfl);have Fz:=hh9 (show (⟨#[99,114,108,102]⟩:ByteArray)=ak tO by kernel_rfl);have nW:Hid (bJ iT):=(show bJ iT by unfold bJ;decide)
   have HTC:Hid (bJ tO):=(show bJ tO by unfold bJ;decide)
   refine(Cx.out _ _ _ Hu.out nW.out).mono ?_;rintro e w5 ⟨k5,t5,l5,h5,a5,b5,c5,d5,e5,f5,rfl,vF,hb5⟩;have iR:=hh9 hb5;have O8:=hh9 vF;clear hb5 vF;go_wp2_with fail
   refine(Cx.out _ _ _ Fz.out HTC.out).mono ?_;rintro e w6 ⟨k6,t6,l6,h6,p1,p2,p3,p4,p5,p6,rfl,zN,hb6⟩;have sJ:=hh9 hb6;have Un:=hh9 zN;clear hb6 zN;go_wp2_with fail
   refine(Cx.out _ _ _ Hu.out nW.out).mono ?_;rintro e w7 ⟨k7,t7,l7,h7,r1,r2,r3,r4,r5,r6,rfl,LJ,IB⟩;have Ea:=hh9 IB;have HE7:=hh9 LJ;clear IB LJ;have HKA:=hh9 (Uk w7 ⟨k6,t6,.slice p1 p2 p3,l6,h6,.slice p4 p5 p6⟩ ⟨k7,t7,.slice r1 r2 r3,l7,h7,.slice r4 r5 r6⟩ ((Un.out).under Ea.out) HE7.out);have hkb:=(Uk (w7.alloc (.cells (xH ⟨k6,t6,.slice p1 p2 p3,l6,h6,.slice p4 p5 p6⟩ ⟨k7,t7,.slice r1 r2 r3,l7,h7,.slice r4 r5 r6⟩) 29)) ⟨k5,t5,.slice a5 b5 c5,l5,h5,.slice d5 e5 f5⟩ _ (((O8.out.under sJ.out).under Ea.out).under ((zbE _ _).alloc (zbA _) _)) (HKA.out.tree 2 0 0))
   rw[World.size_alloc]at hkb;simp only[xH]at hkb;have zO:=hh9 hkb;clear hkb;go_wp2_with fail
   have aV:=fun (W:World)=>hh9 (fG W)
   refine(zpz zO.out).mono ?_;rintro e w8 ⟨k8,t8,l8,h8,x1,x2,x3,x4,x5,x6,rfl,hE8,LK⟩;have Uo:=hh9 LK;have HE8:=hh9 hE8;clear LK hE8;go_wp2_with (refine bA rfl _ _ rfl w8.heap.size ⟨k8,t8,.slice x1 x2 x3,l8,h8,.slice x4 x5 x6⟩ rfl rfl (aV w8).out rfl rfl ?_)
   have hkeep:Below w8.heap.size w8 ((w8.alloc (.cells #[.int .i64 0,.string ⟨#[]⟩,.slice none 0 0,.int .i64 0,.int .i64 0,.slice none 0 0] 29)).setRow w8.heap.size (XV.arr ⟨k8,t8,.slice x1 x2 x3,l8,h8,.slice x4 x5 x6⟩)):=OZ (zbA _) ((zbE _ _).alloc (zbA _) _) _;have hbw:Below wr.heap.size wr w8:=aJ (aJ (aJ (aJ iR.out sJ.out) Ea.out) (((zbE w7.heap.size w7).alloc (zbA _) _).alloc (by simp) _)) Uo.out;have hV:(SP.k [bZ iQ,dH [97],dH [98],dH [99],dH [100],dH [101],dH [102]]).at ((w8.alloc (.cells #[.int .i64 0,.string ⟨#[]⟩,.slice none 0 0,.int .i64 0,.int .i64 0,.slice none 0 0] 29)).setRow w8.heap.size (XV.arr ⟨k8,t8,.slice x1 x2 x3,l8,h8,.slice x4 x5 x6⟩)) (.slice sa 7 sc):=⟨sa,sc,_,rfl,(HK.out.under hbw).under hkeep⟩
   have hg8:=wF (aV w8).out (XV.arr ⟨k8,t8,.slice x1 x2 x3,l8,h8,.slice x4 x5 x6⟩);have HQ:=hh9 (show Below w.heap.size w w8 from aJ pK.out.1 hbw);refine zrn (V:=.slice sa 7 sc) (g:=w8.heap.size) (by kernel_rfl) rfl rfl rfl hV hg8 (HE8.out.under hkeep) ?_;intro tm w9 v ys hv hr hnew hb
   have hnew2:∃ g c,v=.slice (some ⟨g,0,none⟩) fJ.length c/\w.heap.size<=g:=by
    obtain⟨gn,cn,e,hg⟩:=hnew;exact⟨gn,cn,e,zbH (zbH HQ.out.size hkeep.size) hg⟩
   have hres:(results Tryz.f37 tm).run Tryz.prog w9=.ok v w9:=by
    have hf:Tryz.f37.results=#[.tmp 0]:=by kernel_rfl
    subst hv;simp[results,hf]
   refine(by assumption:∀ (a:Act) (w:World),Code.wp Tryz.prog Code.ret _ a w->_) _ _ ?_;have hend:∃ v' ys,Ending.returned v=.returned v'/\oV w9 v' ys fJ/\(∃ g c,v'=.slice (some ⟨g,0,none⟩) fJ.length c/\w.heap.size<=g)/\Below w.heap.size w w9:=⟨v,ys,rfl,hr,hnew2,aJ HQ.out (aJ hkeep hb)⟩
   have h:=bodyPost_ret_by (P:=Tryz.prog) (fn:=Tryz.f37) (R:=fun e w'=>∃ v ys,e=.returned v/\oV w' v ys fJ/\(∃ g c,v=.slice (some ⟨g,0,none⟩) fJ.length c/\w.heap.size<=g)/\Below w.heap.size w w') (a:=⟨tm,[]⟩) hres rfl hend;exact wp_ret h
end Go.Proofs.YtahibnnhjahmnaaGreatDoor
