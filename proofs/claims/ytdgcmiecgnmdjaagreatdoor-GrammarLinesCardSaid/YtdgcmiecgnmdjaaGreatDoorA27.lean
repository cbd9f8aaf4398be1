/- Part 27 of what the laws of the grammar rest on. -/
import Derived.Test.YtdgcmiecgnmdjaaGreatDoorA26
set_option linter.all false
set_option maxRecDepth 100000
set_option maxHeartbeats 8000000
namespace Go.Proofs.YtdgcmiecgnmdjaaGreatDoor
open Go.RowKit
inductive SP
 | x (t:Tree)
 | k (l:List Tree)
 | r (g:GR)
 | rs (b:Nat) (l:List GR)
def SP.at:SP->World->Value->Prop
 | .x t,W,v=>∃ k tx lo hi a1 n1 c1 a2 n2 c2,v=.agg #[.int .i64 k,.string tx,.slice a1 n1 c1,.int .i64 lo,.int .i64 hi,.slice a2 n2 c2]/\ETP W (fun _=>True) ⟨k,tx,.slice a1 n1 c1,lo,hi,.slice a2 n2 c2⟩ t
 | .k l,W,v=>∃ a c vs,v=.slice a l.length c/\zg5 W v vs l
 | .r g,W,v=>∃ nm k tx lo hi a1 n1 c1 a2 n2 c2,v=.agg #[.string nm,.int .i64 k,.string tx,.slice a1 n1 c1,.int .i64 lo,.int .i64 hi,.slice a2 n2 c2]/\zkm W ⟨nm,⟨k,tx,.slice a1 n1 c1,lo,hi,.slice a2 n2 c2⟩⟩ g
 | .rs b l,W,v=>∃ ys g c,v=.slice (some ⟨g,0,none⟩) l.length c/\b<=g/\zd0 W v ys l
theorem SP.under {s:SP} {W W':World} {v:Value} (h:s.at W v) (hb:Below W.heap.size W W'):s.at W' v:=by
 cases s with
 | x t=>obtain ⟨_,_,_,_,_,_,_,_,_,_,e,h⟩:=h;exact ⟨_,_,_,_,_,_,_,_,_,_,e,h.under hb⟩
 | k l=>obtain ⟨_,_,_,e,h⟩:=h;exact ⟨_,_,_,e,h.under hb⟩
 | r g=>obtain ⟨_,_,_,_,_,_,_,_,_,_,_,e,h⟩:=h;exact ⟨_,_,_,_,_,_,_,_,_,_,_,e,h.under hb⟩
 | rs b l=>obtain ⟨ys,g,c,e,hl,h⟩:=h;exact ⟨ys,g,c,e,hl,h.below hb⟩
section
variable {o:Oper} {a:Act} {w:World} {K:Act → World → Prop} {Q:Exit → Act → World → Prop}
theorem znf {F:FuncId} {x:Operand} {u:Value} {T:Array TypeId} {R:Ending->World->Prop} {s:SP} (ho:o.op=.call { callee:=.value (.func F),args:=#[x],argTypes:=T }) (hx:a.eval x=u) (hc:Calls Tryz.prog F #[u] w R)
  (hF:∀ args w,(callFunc F args).run Tryz.prog w=.ok (.enter F args) w)
  (hR:∀ e w',R e w'->∃ v,e=.returned v/\s.at w' v/\Below w.heap.size w w') (hK:∀ v w',s.at w' v->Below w.heap.size w w'->K (a.put o.dst v) w'):o.wp Tryz.prog a w K Q:=by
 unfold Oper.wp
 have hf:a.eval (.func F)=.func (.func F) #[] #[]:=rfl
 generalize a.eval=ev at hx hf ⊢
 simp [execOp,ho,hx,hf,go_sem,hF,resolve,invoke]
 refine hc.mono (fun e w' hr=>?_)
 obtain ⟨v,rfl,hs,hb⟩:=hR e w' hr
 exact hK v w' hs hb
theorem zzp {F:FuncId} {x y:Operand} {u z:Value} {T:Array TypeId} {R:Ending->World->Prop} {s:SP} (ho:o.op=.call { callee:=.value (.func F),args:=#[x,y],argTypes:=T }) (hx:a.eval x=u) (hy:a.eval y=z) (hc:Calls Tryz.prog F #[u,z] w R)
  (hF:∀ args w,(callFunc F args).run Tryz.prog w=.ok (.enter F args) w)
  (hR:∀ e w',R e w'->∃ v,e=.returned v/\s.at w' v/\Below w.heap.size w w') (hK:∀ v w',s.at w' v->Below w.heap.size w w'->K (a.put o.dst v) w'):o.wp Tryz.prog a w K Q:=by
 unfold Oper.wp
 have hf:a.eval (.func F)=.func (.func F) #[] #[]:=rfl
 generalize a.eval=ev at hx hy hf ⊢
 simp [execOp,ho,hx,hy,hf,go_sem,hF,resolve,invoke]
 refine hc.mono (fun e w' hr=>?_)
 obtain ⟨v,rfl,hs,hb⟩:=hR e w' hr
 exact hK v w' hs hb
theorem zhk {t:Tree} {w:World} {e:Ending} {w':World} (h:zoy t w e w'):∃ v,e=.returned v/\(SP.x t).at w' v/\Below w.heap.size w w':=by
 obtain ⟨k,tx,lo,hi,a1,n1,c1,a2,n2,c2,rfl,h1,h2⟩:=h
 exact ⟨_,rfl,⟨k,tx,lo,hi,a1,n1,c1,a2,n2,c2,rfl,h1⟩,h2⟩
theorem zgx {n m:Int} {T:Array TypeId} (ho:o.op=.call { callee:=.value (.func 30),args:=#[.const (.int .i64 n),.const (.int .i64 m)],argTypes:=T }) (hK:∀ v w',(SP.x (spT n m)).at w' v->Below w.heap.size w w'->K (a.put o.dst v) w'):o.wp Tryz.prog a w K Q :=
 zzp ho rfl rfl zwo (enters_of Tryz.func30 (by kernel_rfl) rfl) (fun _ _ h=>zhk h) hK
theorem zm6 {n:Int} {T:Array TypeId} (ho:o.op=.call { callee:=.value (.func 31),args:=#[.const (.int .i64 n)],argTypes:=T }) (hK:∀ v w',(SP.x (nuT n)).at w' v->Below w.heap.size w w'->K (a.put o.dst v) w'):o.wp Tryz.prog a w K Q :=
 znf ho rfl zzn (enters_of Tryz.func31 (by kernel_rfl) rfl) (fun _ _ h=>zhk h) hK
theorem zs1 {S:ByteArray} {T:Array TypeId} (x:List Int) (hS:S=za3 x) (hx:zar x) (ho:o.op=.call { callee:=.value (.func 28),args:=#[.const (.string S)],argTypes:=T }) (hK:∀ v w',(SP.x (rfT x)).at w' v->Below w.heap.size w w'->K (a.put o.dst v) w'):o.wp Tryz.prog a w K Q :=
 znf ho rfl (zrz hS hx) (enters_of Tryz.func28 (by kernel_rfl) rfl) (fun _ _ h=>zhk h) hK
theorem zko {d:Tmp} {T:Array TypeId} {l:List Tree} (hd:(SP.k l).at w (a.tmps.getD d undef)) (ho:o.op=.call { callee:=.value (.func 29),args:=#[.tmp d],argTypes:=T }) (hK:∀ v w',(SP.x (alT l)).at w' v->Below w.heap.size w w'->K (a.put o.dst v) w'):o.wp Tryz.prog a w K Q:=by
 obtain ⟨sa,sc,vs,e,hk⟩:=hd
 rw [e] at hk
 exact znf ho (show a.eval (.tmp d)=.slice sa l.length sc from e) (zp0 hk) (enters_of Tryz.func29 (by kernel_rfl) rfl) (fun _ _ h=>zhk h) hK
theorem zm7 {W:World} {b:Nat} {cs:Array Value} {vs:List XV} {l:List Tree} (h:W.heap[b]?=some (.cells cs 27 (0,0))) (hc:cs.toList=vs.flatMap XV.cells) (hl:vs.length=l.length) (hn:l.length<=1000) (ht:∀ (i:Nat) (y:XV) (t:Tree),vs[i]?=some y->l[i]?=some t->ETP W (fun _=>True) y t):zg5 W (.slice (some ⟨b,0,none⟩) l.length l.length) vs l:=by
 refine ⟨.inr ⟨b,0,l.length,rfl,Nat.le_refl _,by unfold maxLen;omega,⟨_,_,by unfold KT;decide,h⟩,trivial,fun j u hj=>?_⟩,hl,ht⟩
 unfold World.cell?
 simp only [h,Nat.zero_add]
 rw [<- hc] at hj
 simpa using hj
def two5 (X Y:XV):Array Value:=#[.int .i64 X.kind,.string X.text,X.ns,.int .i64 X.lo,.int .i64 X.hi,X.ks,.int .i64 Y.kind,.string Y.text,Y.ns,.int .i64 Y.lo,.int .i64 Y.hi,Y.ks]
theorem zwq (X Y:XV):Instr.fill (fun i=>some (i*6,6)) ((Array.range (2*6)).map ((Value.agg #[.int .i64 0,.string ⟨#[]⟩,.slice none 0 0,.int .i64 0,.int .i64 0,.slice none 0 0]).cells[·%6]!)) [(0,X.val),(1,Y.val)]=some (two5 X Y):=by
 cases X
 cases Y
 kernel_rfl
theorem zng (w:World) (X Y:XV) {t u:Tree} (hX:ETP w (fun _=>True) X t) (hY:ETP w (fun _=>True) Y u):zg5 (w.alloc (.cells (two5 X Y) 27)) (.slice (some ⟨w.heap.size,0,none⟩) 2 2) [X,Y] [t,u]:=by
 have hb:Below w.heap.size w (w.alloc (.cells (two5 X Y) 27)):=(Below.refl _ _).alloc (Nat.le_refl _) _
 refine zm7 (heap_alloc_new w _) rfl rfl (by simp) (fun i y t hy ht=>?_)
 match i with
 | 0=>simp at hy ht;subst hy ht;exact hX.under hb
 | 1=>simp at hy ht;subst hy ht;exact hY.under hb
 | i+2=>simp at hy
theorem zwr (w:World) (X:XV) {t:Tree} (hX:ETP w (fun _=>True) X t):zg5 (w.alloc (.cells X.arr 27)) (.slice (some ⟨w.heap.size,0,none⟩) 1 1) [X] [t]:=by
 have hb:Below w.heap.size w (w.alloc (.cells X.arr 27)):=(Below.refl _ _).alloc (Nat.le_refl _) _
 refine zm7 (heap_alloc_new w _) rfl rfl (by simp) (fun i y t hy ht=>?_)
 match i with
 | 0=>simp at hy ht;subst hy ht;exact hX.under hb
 | i+1=>simp at hy
theorem zp1 {d1 d2:Tmp} {t u:Tree} (h1:(SP.x t).at w (a.tmps.getD d1 undef)) (h2:(SP.x u).at w (a.tmps.getD d2 undef)) (ho:o.op=.buildSlice 25 2 #[(0,.tmp d1),(1,.tmp d2)]) (hK:∀ v w',(SP.k [t,u]).at w' v->Below w.heap.size w w'->K (a.put o.dst v) w'):o.wp Tryz.prog a w K Q:=by
 obtain ⟨k1,x1,l1,g1,a1,n1,c1,b1,m1,e1,he1,hE1⟩:=h1
 obtain ⟨k2,x2,l2,g2,a2,n2,c2,b2,m2,e2,he2,hE2⟩:=h2
 obtain ⟨i0,hi0,hi1⟩:=Option.map_eq_some_iff.1 zyt
 obtain ⟨hz0,hz1,hz2⟩:i0.zero=some _/\i0.size=6/\i0.bytes=_:=by simpa using hi1
 refine wp_buildSlice 25 27 2 #[(0,.tmp d1),(1,.tmp d2)] ho (two5 _ _) i0 _ Tryz.underlying25 hi0 hz0 (by rw [hz1];decide) (by rw [hz1];decide) ?_ (hK _ _ ⟨_,_,_,rfl,zng w _ _ hE1 hE2⟩ ((Below.refl _ _).alloc (Nat.le_refl _) _))
 rw [hz1]
 simp only [List.map_toArray,List.map_cons,List.map_nil]
 rw [show a.eval (.tmp d1)=XV.val ⟨k1,x1,.slice a1 n1 c1,l1,g1,.slice b1 m1 e1⟩ from he1,show a.eval (.tmp d2)=XV.val ⟨k2,x2,.slice a2 n2 c2,l2,g2,.slice b2 m2 e2⟩ from he2]
 exact zwq _ _
theorem zws {d1:Tmp} {t:Tree} (h1:(SP.x t).at w (a.tmps.getD d1 undef)) (ho:o.op=.buildSlice 25 1 #[(0,.tmp d1)]) (hK:∀ v w',(SP.k [t]).at w' v->Below w.heap.size w w'->K (a.put o.dst v) w'):o.wp Tryz.prog a w K Q:=by
 obtain ⟨k1,x1,l1,g1,a1,n1,c1,b1,m1,e1,he1,hE1⟩:=h1
 obtain ⟨i0,hi0,hi1⟩:=Option.map_eq_some_iff.1 zyt
 obtain ⟨hz0,hz1,hz2⟩:i0.zero=some _/\i0.size=6/\i0.bytes=_:=by simpa using hi1
 refine wp_buildSlice 25 27 1 #[(0,.tmp d1)] ho (XV.arr _) i0 _ Tryz.underlying25 hi0 hz0 (by rw [hz1];decide) (by rw [hz1];decide) ?_ (hK _ _ ⟨_,_,_,rfl,zwr w _ hE1⟩ ((Below.refl _ _).alloc (Nat.le_refl _) _))
 rw [hz1]
 simp only [List.map_toArray,List.map_cons,List.map_nil]
 rw [show a.eval (.tmp d1)=XV.val ⟨k1,x1,.slice a1 n1 c1,l1,g1,.slice b1 m1 e1⟩ from he1]
 exact zrc _ rfl rfl
theorem zjd {ty:TypeId} {parts:Array (Nat × Operand)} {row:Array Value} {s:SP} (ho:o.op=.build ty parts) (hb:Tryz.prog.built ty (parts.map fun (i,x)=>(i,a.eval x)).toList=some row) (hs:s.at w (.agg row)) (hK:∀ v w',s.at w' v->Below w.heap.size w w'->K (a.put o.dst v) w'):o.wp Tryz.prog a w K Q:=by
 refine wp_build ty parts ho (by rw [hb];rfl) ?_
 rw [hb]
 exact hK _ _ hs (Below.refl _ _)
theorem zto (x:Option Addr) (n c:Nat):Tryz.prog.built 27 [(0,.int .i64 2),(5,.slice x n c)]=some #[.int .i64 2,.string ⟨#[]⟩,.slice none 0 0,.int .i64 0,.int .i64 0,.slice x n c]:=by kernel_rfl
theorem ztp (x:Option Addr) (n c:Nat):Tryz.prog.built 27 [(0,.int .i64 3),(4,.int .i64 (-1)),(5,.slice x n c)]=some #[.int .i64 3,.string ⟨#[]⟩,.slice none 0 0,.int .i64 0,.int .i64 (-1),.slice x n c]:=by kernel_rfl
theorem ztq (s:ByteArray):Tryz.prog.built 27 [(0,.int .i64 5),(1,.string s)]=some #[.int .i64 5,.string s,.slice none 0 0,.int .i64 0,.int .i64 0,.slice none 0 0]:=by kernel_rfl
theorem zqg (s:ByteArray) (k:Int) (tx:ByteArray) (lo hi:Int) (a1:Option Addr) (n1 c1:Nat) (a2:Option Addr) (n2 c2:Nat):Tryz.prog.built 29 [(0,.string s),(1,.agg #[.int .i64 k,.string tx,.slice a1 n1 c1,.int .i64 lo,.int .i64 hi,.slice a2 n2 c2])]=some #[.string s,.int .i64 k,.string tx,.slice a1 n1 c1,.int .i64 lo,.int .i64 hi,.slice a2 n2 c2]:=by kernel_rfl
theorem qd6 {d:Tmp} {l:List Tree} (hd:(SP.k l).at w (a.tmps.getD d undef)) (ho:o.op=.build 27 #[(0,.const (.int .i64 2)),(5,.tmp d)]) (hK:∀ v w',(SP.x (seT l)).at w' v->Below w.heap.size w w'->K (a.put o.dst v) w'):o.wp Tryz.prog a w K Q:=by
 obtain ⟨sa,sc,vs,e,hk⟩:=hd
 rw [e] at hk
 refine zjd (s:=.x (seT l)) ho ?_ ⟨_,_,_,_,_,_,_,_,_,_,rfl,hk.tree 2 0 0⟩ hK
 simp only [List.map_toArray,List.map_cons,List.map_nil]
 rw [show a.eval (.tmp d)=.slice sa l.length sc from e]
 exact zto _ _ _
theorem qd7 {d:Tmp} {l:List Tree} (hd:(SP.k l).at w (a.tmps.getD d undef)) (ho:o.op=.build 27 #[(0,.const (.int .i64 3)),(4,.const (.int .i64 (-1))),(5,.tmp d)]) (hK:∀ v w',(SP.x (.mk 3 [] [] 0 (-1) l)).at w' v->Below w.heap.size w w'->K (a.put o.dst v) w'):o.wp Tryz.prog a w K Q:=by
 obtain ⟨sa,sc,vs,e,hk⟩:=hd
 rw [e] at hk
 refine zjd (s:=.x (.mk 3 [] [] 0 (-1) l)) ho ?_ ⟨_,_,_,_,_,_,_,_,_,_,rfl,hk.tree 3 0 (-1)⟩ hK
 simp only [List.map_toArray,List.map_cons,List.map_nil]
 rw [show a.eval (.tmp d)=.slice sa l.length sc from e]
 exact ztp _ _ _
theorem qar {S:ByteArray} (x:List Int) (hS:S=za3 x) (hx:zar x) (ho:o.op=.build 27 #[(0,.const (.int .i64 5)),(1,.const (.string S))]) (hK:∀ v w',(SP.x (foT x)).at w' v->Below w.heap.size w w'->K (a.put o.dst v) w'):o.wp Tryz.prog a w K Q:=by
 refine zjd (s:=.x (foT x)) ho ?_ ⟨5,S,0,0,none,0,0,none,0,0,rfl,by rw [hS];exact zkn hx⟩ hK
 simp only [List.map_toArray,List.map_cons,List.map_nil]
 exact ztq _
theorem zd2 {d:Tmp} {S:ByteArray} {t:Tree} (x:List Int) (hd:(SP.x t).at w (a.tmps.getD d undef)) (hS:S=za3 x) (hx:zar x) (ho:o.op=.build 29 #[(0,.const (.string S)),(1,.tmp d)]) (hK:∀ v w',(SP.r ⟨x,t⟩).at w' v->Below w.heap.size w w'->K (a.put o.dst v) w'):o.wp Tryz.prog a w K Q:=by
 obtain ⟨k1,x1,l1,g1,a1,n1,c1,b1,m1,e1,he1,hE1⟩:=hd
 refine zjd (s:=.r ⟨x,t⟩) ho ?_ ⟨S,k1,x1,l1,g1,a1,n1,c1,b1,m1,e1,rfl,hS,hx,hE1⟩ hK
 simp only [List.map_toArray,List.map_cons,List.map_nil]
 rw [show a.eval (.tmp d)=.agg #[.int .i64 k1,.string x1,.slice a1 n1 c1,.int .i64 l1,.int .i64 g1,.slice b1 m1 e1] from he1]
 exact zqg _ _ _ _ _ _ _ _ _ _ _
theorem qby {d:Tmp} {s:SP} (hd:s.at w (a.tmps.getD d undef)) (ho:o.op=.move (.tmp d)) (hK:∀ v w',s.at w' v->Below w.heap.size w w'->K (a.put o.dst v) w'):o.wp Tryz.prog a w K Q:=by
 unfold Oper.wp execOp
 simp only [ho]
 exact hK _ _ hd (Below.refl _ _)
theorem zwt {d:Tmp} {s:SP} (hd:s.at w (a.tmps.getD d undef)) (ho:o.op=.assign (.tmp d)) (hK:∀ v w',s.at w' v->Below w.heap.size w w'->K (a.put o.dst v) w'):o.wp Tryz.prog a w K Q:=by
 unfold Oper.wp execOp
 simp only [ho]
 exact hK _ _ hd (Below.refl _ _)
theorem zzq {d:Tmp} {g:Nat} {k:Int} {tx:ByteArray} {lo hi:Int} {a1:Option Addr} {n1 c1:Nat} {a2:Option Addr} {n2 c2:Nat} {t:Tree} (hd:a.tmps.getD d undef=.pointer (some ⟨g,0,none⟩)) (hg:w.heap[g]?=some (.cells #[.int .i64 k,.string tx,.slice a1 n1 c1,.int .i64 lo,.int .i64 hi,.slice a2 n2 c2] 27 (0,0))) (hE:ETP w (fun _=>True) ⟨k,tx,.slice a1 n1 c1,lo,hi,.slice a2 n2 c2⟩ t) (ho:o.op=.load 27 (.tmp d)) (hK:∀ v w',(SP.x t).at w' v->Below w.heap.size w w'->K (a.put o.dst v) w'):o.wp Tryz.prog a w K Q :=
 wp_load_row 27 (.tmp d) ho g hd 27 _ (0,0) _ hg Tryz.underlying27 rfl zt0 (hK _ _ ⟨_,_,_,_,_,_,_,_,_,_,rfl,hE⟩ (Below.refl _ _))
def RE (W:World):List RV->List GR->Prop
 | [],[]=>True
 | y::ys,g::gs=>zkm W y g/\RE W ys gs
 | _,_=>False
theorem RE.len {W:World}:∀ {ys:List RV} {gs:List GR},RE W ys gs->ys.length=gs.length
 | [],[],_=>rfl
 | y::ys,g::gs,h=>by simp [RE.len h.2]
theorem RE.each {W:World}:∀ {ys:List RV} {gs:List GR},RE W ys gs->∀ (i:Nat) (y:RV) (r:GR),ys[i]?=some y->gs[i]?=some r->zkm W y r
 | [],[],_,i,y,r,hy,_=>by simp at hy
 | y::ys,g::gs,h,0,y',r,hy,hr=>by
  simp at hy hr
  subst hy hr
  exact h.1
 | y::ys,g::gs,h,i+1,y',r,hy,hr=>h.2.each i y' r (by simpa using hy) (by simpa using hr)
theorem RE.under {W W':World}:∀ {ys:List RV} {gs:List GR},RE W ys gs->Below W.heap.size W W'->RE W' ys gs
 | [],[],_,_=>trivial
 | y::ys,g::gs,h,hb=>⟨h.1.under hb,RE.under h.2 hb⟩
theorem qd8:(Tryz.prog.info? 29).map (fun i=>(i.zero,i.size))=some (some (.agg #[.string ⟨#[]⟩,.int .i64 0,.string ⟨#[]⟩,.slice none 0 0,.int .i64 0,.int .i64 0,.slice none 0 0]),7):=by kernel_rfl
theorem ztr (y0 y1 y2 y3 y4 y5 y6 y7 y8 y9 y10 y11 y12 y13 y14 y15:RV):Instr.fill (fun i=>some (i*7,7)) ((Array.range (16*7)).map ((Value.agg #[.string ⟨#[]⟩,.int .i64 0,.string ⟨#[]⟩,.slice none 0 0,.int .i64 0,.int .i64 0,.slice none 0 0]).cells[·%7]!)) [(0,y0.val),(1,y1.val),(2,y2.val),(3,y3.val),(4,y4.val),(5,y5.val),(6,y6.val),(7,y7.val),(8,y8.val),(9,y9.val),(10,y10.val),(11,y11.val),(12,y12.val),(13,y13.val),(14,y14.val),(15,y15.val)]=some ⟨[y0,y1,y2,y3,y4,y5,y6,y7,y8,y9,y10,y11,y12,y13,y14,y15].flatMap RV.cells⟩:=by
 kernel_rfl
theorem SP.rv {g:GR} {v:Value} (h:(SP.r g).at w v):∃ y:RV,v=y.val/\zkm w y g:=by
 obtain ⟨nm,k1,x1,l1,g1,a1,n1,c1,b1,m1,e1,he1,hE1⟩:=h
 exact ⟨⟨nm,⟨k1,x1,.slice a1 n1 c1,l1,g1,.slice b1 m1 e1⟩⟩,he1,hE1⟩
theorem zzr {B:Nat} (hB:B<=w.heap.size) {d0 d1 d2 d3 d4 d5 d6 d7 d8 d9 d10 d11 d12 d13 d14 d15:Tmp} {g0 g1 g2 g3 g4 g5 g6 g7 g8 g9 g10 g11 g12 g13 g14 g15:GR} (h0:(SP.r g0).at w (a.tmps.getD d0 undef)) (h1:(SP.r g1).at w (a.tmps.getD d1 undef)) (h2:(SP.r g2).at w (a.tmps.getD d2 undef)) (h3:(SP.r g3).at w (a.tmps.getD d3 undef)) (h4:(SP.r g4).at w (a.tmps.getD d4 undef)) (h5:(SP.r g5).at w (a.tmps.getD d5 undef)) (h6:(SP.r g6).at w (a.tmps.getD d6 undef)) (h7:(SP.r g7).at w (a.tmps.getD d7 undef)) (h8:(SP.r g8).at w (a.tmps.getD d8 undef)) (h9:(SP.r g9).at w (a.tmps.getD d9 undef)) (h10:(SP.r g10).at w (a.tmps.getD d10 undef)) (h11:(SP.r g11).at w (a.tmps.getD d11 undef)) (h12:(SP.r g12).at w (a.tmps.getD d12 undef)) (h13:(SP.r g13).at w (a.tmps.getD d13 undef)) (h14:(SP.r g14).at w (a.tmps.getD d14 undef)) (h15:(SP.r g15).at w (a.tmps.getD d15 undef)) (ho:o.op=.buildSlice 22 16 #[(0,.tmp d0),(1,.tmp d1),(2,.tmp d2),(3,.tmp d3),(4,.tmp d4),(5,.tmp d5),(6,.tmp d6),(7,.tmp d7),(8,.tmp d8),(9,.tmp d9),(10,.tmp d10),(11,.tmp d11),(12,.tmp d12),(13,.tmp d13),(14,.tmp d14),(15,.tmp d15)]) (hK:∀ v w',(SP.rs B [g0,g1,g2,g3,g4,g5,g6,g7,g8,g9,g10,g11,g12,g13,g14,g15]).at w' v->Below w.heap.size w w'->K (a.put o.dst v) w'):o.wp Tryz.prog a w K Q:=by
 obtain ⟨y0,e0,r0⟩:=SP.rv h0
 obtain ⟨y1,e1,r1⟩:=SP.rv h1
 obtain ⟨y2,e2,r2⟩:=SP.rv h2
 obtain ⟨y3,e3,r3⟩:=SP.rv h3
 obtain ⟨y4,e4,r4⟩:=SP.rv h4
 obtain ⟨y5,e5,r5⟩:=SP.rv h5
 obtain ⟨y6,e6,r6⟩:=SP.rv h6
 obtain ⟨y7,e7,r7⟩:=SP.rv h7
 obtain ⟨y8,e8,r8⟩:=SP.rv h8
 obtain ⟨y9,e9,r9⟩:=SP.rv h9
 obtain ⟨y10,e10,r10⟩:=SP.rv h10
 obtain ⟨y11,e11,r11⟩:=SP.rv h11
 obtain ⟨y12,e12,r12⟩:=SP.rv h12
 obtain ⟨y13,e13,r13⟩:=SP.rv h13
 obtain ⟨y14,e14,r14⟩:=SP.rv h14
 obtain ⟨y15,e15,r15⟩:=SP.rv h15
 obtain ⟨i0,hi0,hi1⟩:=Option.map_eq_some_iff.1 qd8
 obtain ⟨hz0,hz1⟩:i0.zero=some _/\i0.size=7:=by simpa using hi1
 have hb:Below w.heap.size w (w.alloc (.cells ⟨[y0,y1,y2,y3,y4,y5,y6,y7,y8,y9,y10,y11,y12,y13,y14,y15].flatMap RV.cells⟩ 29)):=(Below.refl _ _).alloc (Nat.le_refl _) _
 have hn:=heap_alloc_new w (.cells ⟨[y0,y1,y2,y3,y4,y5,y6,y7,y8,y9,y10,y11,y12,y13,y14,y15].flatMap RV.cells⟩ 29)
 have hre:RE w [y0,y1,y2,y3,y4,y5,y6,y7,y8,y9,y10,y11,y12,y13,y14,y15] [g0,g1,g2,g3,g4,g5,g6,g7,g8,g9,g10,g11,g12,g13,g14,g15]:=⟨r0,r1,r2,r3,r4,r5,r6,r7,r8,r9,r10,r11,r12,r13,r14,r15,trivial⟩
 refine wp_buildSlice 22 29 16 #[(0,.tmp d0),(1,.tmp d1),(2,.tmp d2),(3,.tmp d3),(4,.tmp d4),(5,.tmp d5),(6,.tmp d6),(7,.tmp d7),(8,.tmp d8),(9,.tmp d9),(10,.tmp d10),(11,.tmp d11),(12,.tmp d12),(13,.tmp d13),(14,.tmp d14),(15,.tmp d15)] ho _ i0 _ Tryz.underlying22 hi0 hz0 (by rw [hz1];decide) (by rw [hz1];decide) ?_ (hK _ _ ⟨[y0,y1,y2,y3,y4,y5,y6,y7,y8,y9,y10,y11,y12,y13,y14,y15],w.heap.size,16,rfl,hB,.inr ⟨w.heap.size,0,16,rfl,Nat.le_refl _,by unfold maxLen;omega,(Array.getElem?_eq_some_iff.1 hn).1,fun j u hj=>?_⟩,rfl,fun i y r hy hr=>(hre.under hb).each i y r hy hr⟩ hb)
 ·rw [hz1]
  simp only [List.map_toArray,List.map_cons,List.map_nil]
  rw [show a.eval (.tmp d0)=y0.val from e0,show a.eval (.tmp d1)=y1.val from e1,show a.eval (.tmp d2)=y2.val from e2,show a.eval (.tmp d3)=y3.val from e3,show a.eval (.tmp d4)=y4.val from e4,show a.eval (.tmp d5)=y5.val from e5,show a.eval (.tmp d6)=y6.val from e6,show a.eval (.tmp d7)=y7.val from e7,show a.eval (.tmp d8)=y8.val from e8,show a.eval (.tmp d9)=y9.val from e9,show a.eval (.tmp d10)=y10.val from e10,show a.eval (.tmp d11)=y11.val from e11,show a.eval (.tmp d12)=y12.val from e12,show a.eval (.tmp d13)=y13.val from e13,show a.eval (.tmp d14)=y14.val from e14,show a.eval (.tmp d15)=y15.val from e15]
  exact ztr y0 y1 y2 y3 y4 y5 y6 y7 y8 y9 y10 y11 y12 y13 y14 y15
 ·unfold World.cell?
  simp only [hn,Nat.zero_add]
  simpa using hj
end
noncomputable def zzs (n:Nat):Code->Array Oper
 | .region m ops _=>if m=n then ops else #[]
 | .seq a b=>if (zzs n a).size=0 then zzs n b else zzs n a
 | _=>#[]
noncomputable def opsC:Array Oper:=((Tryz.prog.funcs[10]?.bind (·.body)).map (zzs 7)).getD #[]
theorem zp2:opsC.size=52:=by kernel_rfl
theorem zts:(opsC.toList.zipIdx.all fun x=>x.1.after.all fun e=>decide (e.on<x.2))=true:=by kernel_rfl
theorem zzt (i:Nat) (o:Oper) (h:opsC[i]?=some o):∀ e∈o.after,e.on<i:=by
 have h1:=List.all_eq_true.1 zts (o,i) (by rw [List.mem_zipIdx_iff_getElem?];simpa using h)
 intro e he
 simpa using (Array.all_eq_true_iff_forall_mem.1 h1) e he
def dC (i:Nat):Nat:=if i=51 then 0 else i+25
def sC (B:Nat):List SP:=[
 .x (spT 65 90),
 .x (spT 97 122),
 .k [spT 65 90,spT 97 122],
 .x (alT [spT 65 90,spT 97 122]),
 .r ⟨znn,alT [spT 65 90,spT 97 122]⟩,
 .x (foT [48]),
 .x (foT [49]),
 .k [foT [48],foT [49]],
 .x (alT [foT [48],foT [49]]),
 .r ⟨nBit,alT [foT [48],foT [49]]⟩,
 .x (spT 1 127),
 .r ⟨qay,spT 1 127⟩,
 .x (nuT 13),
 .r ⟨nCr,nuT 13⟩,
 .x (rfT nCr),
 .x (rfT nLf),
 .k [rfT nCr,rfT nLf],
 .x (seT [rfT nCr,rfT nLf]),
 .r ⟨zgn,seT [rfT nCr,rfT nLf]⟩,
 .x (spT 0 31),
 .x (nuT 127),
 .k [spT 0 31,nuT 127],
 .x (alT [spT 0 31,nuT 127]),
 .r ⟨nCtl,alT [spT 0 31,nuT 127]⟩,
 .x (spT 48 57),
 .r ⟨zbb,spT 48 57⟩,
 .x (nuT 34),
 .r ⟨zpp,nuT 34⟩,
 .k [rfT zbb,foT [97],foT [98],foT [99],foT [100],foT [101],foT [102]],
 .x (alT [rfT zbb,foT [97],foT [98],foT [99],foT [100],foT [101],foT [102]]),
 .r ⟨zjh,alT [rfT zbb,foT [97],foT [98],foT [99],foT [100],foT [101],foT [102]]⟩,
 .x (nuT 9),
 .r ⟨zl3,nuT 9⟩,
 .x (nuT 10),
 .r ⟨nLf,nuT 10⟩,
 .x (alT [rfT nWsp,seT [rfT zgn,rfT nWsp]]),
 .k [alT [rfT nWsp,seT [rfT zgn,rfT nWsp]]],
 .x (.mk 3 [] [] 0 (-1) [alT [rfT nWsp,seT [rfT zgn,rfT nWsp]]]),
 .r ⟨zua,.mk 3 [] [] 0 (-1) [alT [rfT nWsp,seT [rfT zgn,rfT nWsp]]]⟩,
 .x (spT 0 255),
 .r ⟨zub,spT 0 255⟩,
 .x (nuT 32),
 .r ⟨nSp,nuT 32⟩,
 .x (spT 33 126),
 .r ⟨zuc,spT 33 126⟩,
 .x (rfT nSp),
 .x (rfT zl3),
 .k [rfT nSp,rfT zl3],
 .x (alT [rfT nSp,rfT zl3]),
 .r ⟨nWsp,alT [rfT nSp,rfT zl3]⟩,
 .rs B zbs,
 .rs B zbs]
def JC (W:World) (V:Value) (g:Nat) (L:Array Bool) (a:Act) (w:World):Prop :=
 a.tmps.size=76/\a.defers=[]/\Below W.heap.size W w/\a.tmps.getD 1 undef=V/\a.tmps.getD 3 undef=.pointer (some ⟨g,0,none⟩)/\∀ (i:Nat) (s:SP),(sC W.heap.size)[i]?=some s->L.getD i false=true->s.at w (a.tmps.getD (dC i) undef)
theorem qas {B i:Nat} {s:SP} (h:(sC B)[i]?=some s):i<52:=(List.getElem?_eq_some_iff.1 h).1
section
variable {W w w':World} {V v:Value} {g i j:Nat} {L:Array Bool} {a:Act} {s:SP} {K:Act → World → Prop} {Q:Exit → Act → World → Prop}
theorem JC.step (h:JC W V g L a w) (hi:(sC W.heap.size)[i]?=some s) (hL:L.size=52) (hs:s.at w' v) (hb:Below w.heap.size w w'):JC W V g (L.setIfInBounds i true) (a.put (some (dC i)) v) w':=by
 obtain ⟨h1,h2,h3,h4,h5,h6⟩:=h
 have hi':=qas hi
 have hd:dC i<76/\dC i≠1/\dC i≠3:=by unfold dC;split<;>omega
 refine ⟨by simpa [Act.put] using h1,h2,za0 h3 hb,?_,?_,fun k s' hk hl=>?_⟩
 ·simp only [Act.put]
  rw [Array.getD_eq_getD_getElem?,Array.getElem?_setIfInBounds_ne hd.2.1,<- Array.getD_eq_getD_getElem?]
  exact h4
 ·simp only [Act.put]
  rw [Array.getD_eq_getD_getElem?,Array.getElem?_setIfInBounds_ne hd.2.2,<- Array.getD_eq_getD_getElem?]
  exact h5
 ·have hk':=qas hk
  simp only [Act.put]
  by_cases e:k=i
  ·subst e
   rw [hi] at hk
   obtain rfl:=Option.some.inj hk
   rw [Array.getD_eq_getD_getElem?,Array.getElem?_setIfInBounds_self_of_lt (by omega)]
   exact hs
  ·have hne:dC i≠dC k:=by unfold dC;split<;>split<;>omega
   rw [Array.getD_eq_getD_getElem?,Array.getElem?_setIfInBounds_ne hne,<- Array.getD_eq_getD_getElem?]
   rw [Array.getD_eq_getD_getElem?,Array.getElem?_setIfInBounds_ne (Ne.symm e),<- Array.getD_eq_getD_getElem?] at hl
   exact SP.under (h6 k s' hk hl) hb
theorem JC.get (h:JC W V g L a w) (hr:i∈Region.ready .any opsC L) (hd:((opsC[i]?).map fun o=>o.after.any fun e=>decide (e.on=j)&&Region.binds .any e)=some true) (hj:(sC W.heap.size)[j]?=some s):s.at w (a.tmps.getD (dC j) undef):=by
 obtain ⟨_,_,o,ho,h3⟩:=zg4.1 hr
 rw [ho] at hd
 have hd':(o.after.any fun e=>decide (e.on=j)&&Region.binds .any e)=true:=Option.some.inj hd
 rw [<- Array.any_toList] at hd'
 obtain ⟨e,he,hc⟩:=List.any_eq_true.1 hd'
 have he:=Array.mem_toList_iff.1 he
 simp only [Bool.and_eq_true,decide_eq_true_eq] at hc
 have:=h3 e he hc.2
 rw [hc.1] at this
 exact h.2.2.2.2.2 j s hj this
theorem zbx {d:Nat} {X:Op} (hm:((opsC[i]?).map fun o=>(o.dst,o.op,o.guard))=some (some d,X,none)) (h:∀ o:Oper,o.op=X->o.dst=some d->o.wp Tryz.prog a w K Q):wpOp Tryz.prog opsC Q i K a w:=by
 obtain ⟨o,ho,he⟩:=Option.map_eq_some_iff.1 hm
 simp only [Prod.mk.injEq] at he
 unfold wpOp
 rw [ho]
 show if Region.wanted o _ then _ else _
 rw [if_pos (by unfold Region.wanted;rw [he.2.2])]
 exact .inl (h o he.2.1 he.1)
theorem qbz {k:Int} {tx:ByteArray} {lo hi:Int} {a1:Option Addr} {n1 c1:Nat} {a2:Option Addr} {n2 c2:Nat} (hV:(SP.k [rfT zbb,foT [97],foT [98],foT [99],foT [100],foT [101],foT [102]]).at W V) (hg2:g<W.heap.size) (hg:W.heap[g]?=some (.cells #[.int .i64 k,.string tx,.slice a1 n1 c1,.int .i64 lo,.int .i64 hi,.slice a2 n2 c2] 27 (0,0))) (hE:ETP W (fun _=>True) ⟨k,tx,.slice a1 n1 c1,lo,hi,.slice a2 n2 c2⟩ (alT [rfT nWsp,seT [rfT zgn,rfT nWsp]]))
  (hL:L.size=52) (hJ:JC W V g L a w) (hr:i∈Region.ready .any opsC L) (hi52:i<52):wpOp Tryz.prog opsC Q i (JC W V g (L.setIfInBounds i true)) a w:=by
 match i,hi52 with
 | 0,_=>exact zbx (d:=25) (by kernel_rfl) fun o ho hd=>zgx (n:=65) (m:=90) (T:=#[3,3]) ho (fun v w' hs hb=>by rw [hd];exact hJ.step (i:=0) rfl hL hs hb)
 | 1,_=>exact zbx (d:=26) (by kernel_rfl) fun o ho hd=>zgx (n:=97) (m:=122) (T:=#[3,3]) ho (fun v w' hs hb=>by rw [hd];exact hJ.step (i:=1) rfl hL hs hb)
 | 2,_=>exact zbx (d:=27) (by kernel_rfl) fun o ho hd=>zp1 (d1:=25) (d2:=26) (hJ.get (i:=2) (j:=0) hr (by kernel_rfl) rfl) (hJ.get (i:=2) (j:=1) hr (by kernel_rfl) rfl) ho (fun v w' hs hb=>by rw [hd];exact hJ.step (i:=2) rfl hL hs hb)
 | 3,_=>exact zbx (d:=28) (by kernel_rfl) fun o ho hd=>zko (d:=27) (T:=#[25]) (hJ.get (i:=3) (j:=2) hr (by kernel_rfl) rfl) ho (fun v w' hs hb=>by rw [hd];exact hJ.step (i:=3) rfl hL hs hb)
 | 4,_=>exact zbx (d:=29) (by kernel_rfl) fun o ho hd=>zd2 (d:=28) (S:=⟨#[97,108,112,104,97]⟩) znn (hJ.get (i:=4) (j:=3) hr (by kernel_rfl) rfl) (by kernel_rfl) (by unfold zar;decide) ho (fun v w' hs hb=>by rw [hd];exact hJ.step (i:=4) rfl hL hs hb)
 | 5,_=>exact zbx (d:=30) (by kernel_rfl) fun o ho hd=>qar (S:=⟨#[48]⟩) [48] (by kernel_rfl) (by unfold zar;decide) ho (fun v w' hs hb=>by rw [hd];exact hJ.step (i:=5) rfl hL hs hb)
 | 6,_=>exact zbx (d:=31) (by kernel_rfl) fun o ho hd=>qar (S:=⟨#[49]⟩) [49] (by kernel_rfl) (by unfold zar;decide) ho (fun v w' hs hb=>by rw [hd];exact hJ.step (i:=6) rfl hL hs hb)
 | 7,_=>exact zbx (d:=32) (by kernel_rfl) fun o ho hd=>zp1 (d1:=30) (d2:=31) (hJ.get (i:=7) (j:=5) hr (by kernel_rfl) rfl) (hJ.get (i:=7) (j:=6) hr (by kernel_rfl) rfl) ho (fun v w' hs hb=>by rw [hd];exact hJ.step (i:=7) rfl hL hs hb)
 | 8,_=>exact zbx (d:=33) (by kernel_rfl) fun o ho hd=>zko (d:=32) (T:=#[25]) (hJ.get (i:=8) (j:=7) hr (by kernel_rfl) rfl) ho (fun v w' hs hb=>by rw [hd];exact hJ.step (i:=8) rfl hL hs hb)
 | 9,_=>exact zbx (d:=34) (by kernel_rfl) fun o ho hd=>zd2 (d:=33) (S:=⟨#[98,105,116]⟩) nBit (hJ.get (i:=9) (j:=8) hr (by kernel_rfl) rfl) (by kernel_rfl) (by unfold zar;decide) ho (fun v w' hs hb=>by rw [hd];exact hJ.step (i:=9) rfl hL hs hb)
 | 10,_=>exact zbx (d:=35) (by kernel_rfl) fun o ho hd=>zgx (n:=1) (m:=127) (T:=#[3,3]) ho (fun v w' hs hb=>by rw [hd];exact hJ.step (i:=10) rfl hL hs hb)
 | 11,_=>exact zbx (d:=36) (by kernel_rfl) fun o ho hd=>zd2 (d:=35) (S:=⟨#[99,104,97,114]⟩) qay (hJ.get (i:=11) (j:=10) hr (by kernel_rfl) rfl) (by kernel_rfl) (by unfold zar;decide) ho (fun v w' hs hb=>by rw [hd];exact hJ.step (i:=11) rfl hL hs hb)
 | 12,_=>exact zbx (d:=37) (by kernel_rfl) fun o ho hd=>zm6 (n:=13) (T:=#[3]) ho (fun v w' hs hb=>by rw [hd];exact hJ.step (i:=12) rfl hL hs hb)
 | 13,_=>exact zbx (d:=38) (by kernel_rfl) fun o ho hd=>zd2 (d:=37) (S:=⟨#[99,114]⟩) nCr (hJ.get (i:=13) (j:=12) hr (by kernel_rfl) rfl) (by kernel_rfl) (by unfold zar;decide) ho (fun v w' hs hb=>by rw [hd];exact hJ.step (i:=13) rfl hL hs hb)
 | 14,_=>exact zbx (d:=39) (by kernel_rfl) fun o ho hd=>zs1 (S:=⟨#[99,114]⟩) (T:=#[9]) nCr (by kernel_rfl) (by unfold zar;decide) ho (fun v w' hs hb=>by rw [hd];exact hJ.step (i:=14) rfl hL hs hb)
 | 15,_=>exact zbx (d:=40) (by kernel_rfl) fun o ho hd=>zs1 (S:=⟨#[108,102]⟩) (T:=#[9]) nLf (by kernel_rfl) (by unfold zar;decide) ho (fun v w' hs hb=>by rw [hd];exact hJ.step (i:=15) rfl hL hs hb)
 | 16,_=>exact zbx (d:=41) (by kernel_rfl) fun o ho hd=>zp1 (d1:=39) (d2:=40) (hJ.get (i:=16) (j:=14) hr (by kernel_rfl) rfl) (hJ.get (i:=16) (j:=15) hr (by kernel_rfl) rfl) ho (fun v w' hs hb=>by rw [hd];exact hJ.step (i:=16) rfl hL hs hb)
 | 17,_=>exact zbx (d:=42) (by kernel_rfl) fun o ho hd=>qd6 (d:=41) (hJ.get (i:=17) (j:=16) hr (by kernel_rfl) rfl) ho (fun v w' hs hb=>by rw [hd];exact hJ.step (i:=17) rfl hL hs hb)
 | 18,_=>exact zbx (d:=43) (by kernel_rfl) fun o ho hd=>zd2 (d:=42) (S:=⟨#[99,114,108,102]⟩) zgn (hJ.get (i:=18) (j:=17) hr (by kernel_rfl) rfl) (by kernel_rfl) (by unfold zar;decide) ho (fun v w' hs hb=>by rw [hd];exact hJ.step (i:=18) rfl hL hs hb)
 | 19,_=>exact zbx (d:=44) (by kernel_rfl) fun o ho hd=>zgx (n:=0) (m:=31) (T:=#[3,3]) ho (fun v w' hs hb=>by rw [hd];exact hJ.step (i:=19) rfl hL hs hb)
 | 20,_=>exact zbx (d:=45) (by kernel_rfl) fun o ho hd=>zm6 (n:=127) (T:=#[3]) ho (fun v w' hs hb=>by rw [hd];exact hJ.step (i:=20) rfl hL hs hb)
 | 21,_=>exact zbx (d:=46) (by kernel_rfl) fun o ho hd=>zp1 (d1:=44) (d2:=45) (hJ.get (i:=21) (j:=19) hr (by kernel_rfl) rfl) (hJ.get (i:=21) (j:=20) hr (by kernel_rfl) rfl) ho (fun v w' hs hb=>by rw [hd];exact hJ.step (i:=21) rfl hL hs hb)
 | 22,_=>exact zbx (d:=47) (by kernel_rfl) fun o ho hd=>zko (d:=46) (T:=#[25]) (hJ.get (i:=22) (j:=21) hr (by kernel_rfl) rfl) ho (fun v w' hs hb=>by rw [hd];exact hJ.step (i:=22) rfl hL hs hb)
 | 23,_=>exact zbx (d:=48) (by kernel_rfl) fun o ho hd=>zd2 (d:=47) (S:=⟨#[99,116,108]⟩) nCtl (hJ.get (i:=23) (j:=22) hr (by kernel_rfl) rfl) (by kernel_rfl) (by unfold zar;decide) ho (fun v w' hs hb=>by rw [hd];exact hJ.step (i:=23) rfl hL hs hb)
 | 24,_=>exact zbx (d:=49) (by kernel_rfl) fun o ho hd=>zgx (n:=48) (m:=57) (T:=#[3,3]) ho (fun v w' hs hb=>by rw [hd];exact hJ.step (i:=24) rfl hL hs hb)
 | 25,_=>exact zbx (d:=50) (by kernel_rfl) fun o ho hd=>zd2 (d:=49) (S:=⟨#[100,105,103,105,116]⟩) zbb (hJ.get (i:=25) (j:=24) hr (by kernel_rfl) rfl) (by kernel_rfl) (by unfold zar;decide) ho (fun v w' hs hb=>by rw [hd];exact hJ.step (i:=25) rfl hL hs hb)
 | 26,_=>exact zbx (d:=51) (by kernel_rfl) fun o ho hd=>zm6 (n:=34) (T:=#[3]) ho (fun v w' hs hb=>by rw [hd];exact hJ.step (i:=26) rfl hL hs hb)
 | 27,_=>exact zbx (d:=52) (by kernel_rfl) fun o ho hd=>zd2 (d:=51) (S:=⟨#[100,113,117,111,116,101]⟩) zpp (hJ.get (i:=27) (j:=26) hr (by kernel_rfl) rfl) (by kernel_rfl) (by unfold zar;decide) ho (fun v w' hs hb=>by rw [hd];exact hJ.step (i:=27) rfl hL hs hb)
 | 28,_=>exact zbx (d:=53) (by kernel_rfl) fun o ho hd=>qby (d:=1) (s:=.k [rfT zbb,foT [97],foT [98],foT [99],foT [100],foT [101],foT [102]]) (by rw [hJ.2.2.2.1];exact SP.under hV hJ.2.2.1) ho (fun v w' hs hb=>by rw [hd];exact hJ.step (i:=28) rfl hL hs hb)
 | 29,_=>exact zbx (d:=54) (by kernel_rfl) fun o ho hd=>zko (d:=53) (T:=#[25]) (hJ.get (i:=29) (j:=28) hr (by kernel_rfl) rfl) ho (fun v w' hs hb=>by rw [hd];exact hJ.step (i:=29) rfl hL hs hb)
 | 30,_=>exact zbx (d:=55) (by kernel_rfl) fun o ho hd=>zd2 (d:=54) (S:=⟨#[104,101,120,100,105,103]⟩) zjh (hJ.get (i:=30) (j:=29) hr (by kernel_rfl) rfl) (by kernel_rfl) (by unfold zar;decide) ho (fun v w' hs hb=>by rw [hd];exact hJ.step (i:=30) rfl hL hs hb)
 | 31,_=>exact zbx (d:=56) (by kernel_rfl) fun o ho hd=>zm6 (n:=9) (T:=#[3]) ho (fun v w' hs hb=>by rw [hd];exact hJ.step (i:=31) rfl hL hs hb)
 | 32,_=>exact zbx (d:=57) (by kernel_rfl) fun o ho hd=>zd2 (d:=56) (S:=⟨#[104,116,97,98]⟩) zl3 (hJ.get (i:=32) (j:=31) hr (by kernel_rfl) rfl) (by kernel_rfl) (by unfold zar;decide) ho (fun v w' hs hb=>by rw [hd];exact hJ.step (i:=32) rfl hL hs hb)
 | 33,_=>exact zbx (d:=58) (by kernel_rfl) fun o ho hd=>zm6 (n:=10) (T:=#[3]) ho (fun v w' hs hb=>by rw [hd];exact hJ.step (i:=33) rfl hL hs hb)
 | 34,_=>exact zbx (d:=59) (by kernel_rfl) fun o ho hd=>zd2 (d:=58) (S:=⟨#[108,102]⟩) nLf (hJ.get (i:=34) (j:=33) hr (by kernel_rfl) rfl) (by kernel_rfl) (by unfold zar;decide) ho (fun v w' hs hb=>by rw [hd];exact hJ.step (i:=34) rfl hL hs hb)
 | 35,_=>exact zbx (d:=60) (by kernel_rfl) fun o ho hd=>zzq (d:=3) hJ.2.2.2.2.1 ((hJ.2.2.1.block g hg2).trans hg) (hE.under hJ.2.2.1) ho (fun v w' hs hb=>by rw [hd];exact hJ.step (i:=35) rfl hL hs hb)
 | 36,_=>exact zbx (d:=61) (by kernel_rfl) fun o ho hd=>zws (d1:=60) (hJ.get (i:=36) (j:=35) hr (by kernel_rfl) rfl) ho (fun v w' hs hb=>by rw [hd];exact hJ.step (i:=36) rfl hL hs hb)
 | 37,_=>exact zbx (d:=62) (by kernel_rfl) fun o ho hd=>qd7 (d:=61) (hJ.get (i:=37) (j:=36) hr (by kernel_rfl) rfl) ho (fun v w' hs hb=>by rw [hd];exact hJ.step (i:=37) rfl hL hs hb)
 | 38,_=>exact zbx (d:=63) (by kernel_rfl) fun o ho hd=>zd2 (d:=62) (S:=⟨#[108,119,115,112]⟩) zua (hJ.get (i:=38) (j:=37) hr (by kernel_rfl) rfl) (by kernel_rfl) (by unfold zar;decide) ho (fun v w' hs hb=>by rw [hd];exact hJ.step (i:=38) rfl hL hs hb)
 | 39,_=>exact zbx (d:=64) (by kernel_rfl) fun o ho hd=>zgx (n:=0) (m:=255) (T:=#[3,3]) ho (fun v w' hs hb=>by rw [hd];exact hJ.step (i:=39) rfl hL hs hb)
 | 40,_=>exact zbx (d:=65) (by kernel_rfl) fun o ho hd=>zd2 (d:=64) (S:=⟨#[111,99,116,101,116]⟩) zub (hJ.get (i:=40) (j:=39) hr (by kernel_rfl) rfl) (by kernel_rfl) (by unfold zar;decide) ho (fun v w' hs hb=>by rw [hd];exact hJ.step (i:=40) rfl hL hs hb)
 | 41,_=>exact zbx (d:=66) (by kernel_rfl) fun o ho hd=>zm6 (n:=32) (T:=#[3]) ho (fun v w' hs hb=>by rw [hd];exact hJ.step (i:=41) rfl hL hs hb)
 | 42,_=>exact zbx (d:=67) (by kernel_rfl) fun o ho hd=>zd2 (d:=66) (S:=⟨#[115,112]⟩) nSp (hJ.get (i:=42) (j:=41) hr (by kernel_rfl) rfl) (by kernel_rfl) (by unfold zar;decide) ho (fun v w' hs hb=>by rw [hd];exact hJ.step (i:=42) rfl hL hs hb)
 | 43,_=>exact zbx (d:=68) (by kernel_rfl) fun o ho hd=>zgx (n:=33) (m:=126) (T:=#[3,3]) ho (fun v w' hs hb=>by rw [hd];exact hJ.step (i:=43) rfl hL hs hb)
 | 44,_=>exact zbx (d:=69) (by kernel_rfl) fun o ho hd=>zd2 (d:=68) (S:=⟨#[118,99,104,97,114]⟩) zuc (hJ.get (i:=44) (j:=43) hr (by kernel_rfl) rfl) (by kernel_rfl) (by unfold zar;decide) ho (fun v w' hs hb=>by rw [hd];exact hJ.step (i:=44) rfl hL hs hb)
 | 45,_=>exact zbx (d:=70) (by kernel_rfl) fun o ho hd=>zs1 (S:=⟨#[115,112]⟩) (T:=#[9]) nSp (by kernel_rfl) (by unfold zar;decide) ho (fun v w' hs hb=>by rw [hd];exact hJ.step (i:=45) rfl hL hs hb)
 | 46,_=>exact zbx (d:=71) (by kernel_rfl) fun o ho hd=>zs1 (S:=⟨#[104,116,97,98]⟩) (T:=#[9]) zl3 (by kernel_rfl) (by unfold zar;decide) ho (fun v w' hs hb=>by rw [hd];exact hJ.step (i:=46) rfl hL hs hb)
 | 47,_=>exact zbx (d:=72) (by kernel_rfl) fun o ho hd=>zp1 (d1:=70) (d2:=71) (hJ.get (i:=47) (j:=45) hr (by kernel_rfl) rfl) (hJ.get (i:=47) (j:=46) hr (by kernel_rfl) rfl) ho (fun v w' hs hb=>by rw [hd];exact hJ.step (i:=47) rfl hL hs hb)
 | 48,_=>exact zbx (d:=73) (by kernel_rfl) fun o ho hd=>zko (d:=72) (T:=#[25]) (hJ.get (i:=48) (j:=47) hr (by kernel_rfl) rfl) ho (fun v w' hs hb=>by rw [hd];exact hJ.step (i:=48) rfl hL hs hb)
 | 49,_=>exact zbx (d:=74) (by kernel_rfl) fun o ho hd=>zd2 (d:=73) (S:=⟨#[119,115,112]⟩) nWsp (hJ.get (i:=49) (j:=48) hr (by kernel_rfl) rfl) (by kernel_rfl) (by unfold zar;decide) ho (fun v w' hs hb=>by rw [hd];exact hJ.step (i:=49) rfl hL hs hb)
 | 50,_=>exact zbx (d:=75) (by kernel_rfl) fun o ho hd=>zzr (B:=W.heap.size) hJ.2.2.1.size (d0:=29) (d1:=34) (d2:=36) (d3:=38) (d4:=43) (d5:=48) (d6:=50) (d7:=52) (d8:=55) (d9:=57) (d10:=59) (d11:=63) (d12:=65) (d13:=67) (d14:=69) (d15:=74) (hJ.get (i:=50) (j:=4) hr (by kernel_rfl) rfl) (hJ.get (i:=50) (j:=9) hr (by kernel_rfl) rfl) (hJ.get (i:=50) (j:=11) hr (by kernel_rfl) rfl) (hJ.get (i:=50) (j:=13) hr (by kernel_rfl) rfl) (hJ.get (i:=50) (j:=18) hr (by kernel_rfl) rfl) (hJ.get (i:=50) (j:=23) hr (by kernel_rfl) rfl) (hJ.get (i:=50) (j:=25) hr (by kernel_rfl) rfl) (hJ.get (i:=50) (j:=27) hr (by kernel_rfl) rfl) (hJ.get (i:=50) (j:=30) hr (by kernel_rfl) rfl) (hJ.get (i:=50) (j:=32) hr (by kernel_rfl) rfl) (hJ.get (i:=50) (j:=34) hr (by kernel_rfl) rfl) (hJ.get (i:=50) (j:=38) hr (by kernel_rfl) rfl) (hJ.get (i:=50) (j:=40) hr (by kernel_rfl) rfl) (hJ.get (i:=50) (j:=42) hr (by kernel_rfl) rfl) (hJ.get (i:=50) (j:=44) hr (by kernel_rfl) rfl) (hJ.get (i:=50) (j:=49) hr (by kernel_rfl) rfl) ho (fun v w' hs hb=>by rw [hd];exact hJ.step (i:=50) rfl hL hs hb)
 | 51,_=>exact zbx (d:=0) (by kernel_rfl) fun o ho hd=>zwt (d:=75) (s:=.rs W.heap.size zbs) (hJ.get (i:=51) (j:=50) hr (by kernel_rfl) rfl) ho (fun v w' hs hb=>by rw [hd];exact hJ.step (i:=51) rfl hL hs hb)
 | n+52,h=>omega
end
theorem zqh {W:World} {tmps:Array Value} {V:Value} {g:Nat} {ops:Array Oper} {Q:Exit->Act->World->Prop} {k:Int} {tx:ByteArray} {lo hi:Int} {a1:Option Addr} {n1 c1:Nat} {a2:Option Addr} {n2 c2:Nat} (hops:opsC=ops) (hsz:tmps.size=76) (h1:tmps.getD 1 undef=V) (h3:tmps.getD 3 undef=.pointer (some ⟨g,0,none⟩))
  (hV:(SP.k [rfT zbb,foT [97],foT [98],foT [99],foT [100],foT [101],foT [102]]).at W V) (hg:W.heap[g]?=some (.cells #[.int .i64 k,.string tx,.slice a1 n1 c1,.int .i64 lo,.int .i64 hi,.slice a2 n2 c2] 27 (0,0))) (hE:ETP W (fun _=>True) ⟨k,tx,.slice a1 n1 c1,lo,hi,.slice a2 n2 c2⟩ (alT [rfT nWsp,seT [rfT zgn,rfT nWsp]]))
  (hQ:∀ (tm:Array Value) (w:World) (v:Value) (ys:List RV),tm.getD 0 undef=v->zd0 w v ys zbs->(∃ g c,v=.slice (some ⟨g,0,none⟩) zbs.length c/\W.heap.size<=g)->Below W.heap.size W w->Q .normal ⟨tm,[]⟩ w):(Code.region 7 ops true).wp Tryz.prog Q ⟨tmps,[]⟩ W:=by
 subst hops
 have hm:Tryz.prog.follows .mixedOrders=true:=by kernel_rfl
 have hg2:g<W.heap.size:=(Array.getElem?_eq_some_iff.1 hg).1
 refine zn8 (JC W V g) hm ⟨hsz,rfl,⟨rfl,rfl,rfl,Nat.le_refl _,fun k _=>rfl⟩,h1,h3,fun i s hs hl=>?_⟩ (fun L a w i hL hJ hr=>?_) (fun L a w hL hJ hr=>?_)
 ·exfalso
  rw [Array.getD_eq_getD_getElem?,Array.getElem?_replicate] at hl
  split at hl<;>simp at hl
 ·have hi:=(zg4.1 hr).1
  rw [zp2] at hi hL
  exact qbz hV hg2 hg hE hL hJ hr hi
 ·have hl:=ztd zzt hL hr 51 (by rw [zp2];omega)
  obtain ⟨tm,df⟩:=a
  obtain ⟨j1,j2,j3,j4,j5,j6⟩:=hJ
  simp only at j2
  subst j2
  obtain ⟨ys,gn,cn,hv,hgn,hys⟩:=j6 51 (.rs W.heap.size zbs) rfl hl
  exact hQ _ _ _ ys rfl hys ⟨gn,cn,hv,hgn⟩ j3
end Go.Proofs.YtdgcmiecgnmdjaaGreatDoor
