/- Part 23 of what the laws of the grammar rest on. -/
import Derived.Test.YtahibnnhjahmnaaGreatDoorA22
import Derived.Orders
import Derived.RangeFuncRecord
set_option linter.all false
set_option maxRecDepth 100000
set_option maxHeartbeats 8000000
namespace Go.Proofs.YtahibnnhjahmnaaGreatDoor
open Go.RowKit
def zxu(X:XV)(w:World)(e:Ending)(w':World):Prop :=
 ∃ v,e=.returned v/\Below w.heap.size w w'/\((X.kind=1/\v=X.ks)\/(X.kind≠1/\∃ g,v=.slice (some ⟨g,0,none⟩) 1 1/\w.heap.size<=g/\gK w' g X))
theorem OC{w:World}{k lo hi:Int}{tx:ByteArray}{a1 a2:Option Addr}{n1 n2 c1 c2:Nat} :
  Calls Tryz.prog 50 #[.agg #[.int .i64 k,.string tx,.slice a1 n1 c1,.int .i64 lo,.int .i64 hi,.slice a2 n2 c2]] w (zxu ⟨k,tx,.slice a1 n1 c1,lo,hi,.slice a2 n2 c2⟩ w):=by
 by_cases hk:k=1
 ·subst hk;go_enter Tryz.func50,Tryz.ntmps50;go_wp2_with fail
  go_ret;exact⟨_,rfl,by go_grown,.inl ⟨rfl,rfl⟩⟩
 ·have hk5:(k==1)=false:=by simpa using hk
  go_enter Tryz.func50,Tryz.ntmps50;go_wp2_with fail
  go_ret;refine⟨_,rfl,by go_grown,.inr ⟨hk,w.heap.size+1,rfl,by omega,?_⟩⟩;have h:=zbO (w.alloc (aB k lo hi tx (.slice a1 n1 c1) (.slice a2 n2 c2))) (aB k lo hi tx (.slice a1 n1 c1) (.slice a2 n2 c2));rw[World.size_alloc]at h;exact h
theorem KH{w:World}{ops:Array Oper}{rest:List Oper}{o:Oper}{a:Act}{Q:Exit->Act->World->Prop}(hgd:o.guard=none)(sx xx:Operand)
  (ho:o.op=.call { callee:=.builtin .append,args:=#[sx,xx],argTypes:=#[27,27] }) (base:Nat) (v x:Value) (vs vs2:List XV) (hs:a.eval sx=v) (hx:a.eval xx=x)
  (h:w.ownsRow base 29 6 v vs.length (vs.flatMap XV.cells)) (h2:au w x vs2.length (vs2.flatMap XV.cells)) (h0:0<vs2.length) (h1:∀ u∈vs2.flatMap XV.cells,u.oneCell'=true) (hle:vs.length+vs2.length<=100000000) (hbase:base<=w.heap.size)
  (K:∀ v' w',w'.ownsRow base 29 6 v' (vs++vs2).length ((vs++vs2).flatMap XV.cells)->w.grownBy w' v.ownBlock->(v'.ownBlock=v.ownBlock\/v'.ownBlock=some w.heap.size)->wpList Tryz.prog ops Q rest (a.put o.dst v') w'):wpList Tryz.prog ops Q (o::rest) a w:=by
 obtain⟨i0,hi0,hz0,hz1,hz2⟩:=info_parts RQ;rcases h2 with ⟨h3,_⟩|⟨g,off,cap,rfl,g1,g2,g3,g4⟩
 ·omega
 ·refine wpList_append_own_at _ hgd sx xx 27 ho base 29 i0 _ 6 88 Tryz.underlying27 hi0 hz0 hz1 hz2 rfl (by decide) v vs.length (vs.flatMap XV.cells) hs h ⟨g,off,none⟩ vs2.length cap (vs2.flatMap XV.cells) hx (Qe vs2) (fun j u hj=>?_) h1 (by unfold maxLen;omega) (by omega) hbase ?_
  ·have e:(⟨g,off,none⟩:Addr).add j=⟨g,off+j,none⟩:=by cases j<;>simp[Addr.add]
   rw[e];exact g4 j u hj
  ·intro v' w' hown hgrow _ hat;exact K v' w' (by rw[zbG,List.flatMap_append];exact hown) hgrow hat
theorem aM.alts{W:World}{X:XV}{t:Tree}(h:aM W X t)(h2:X.kind=1->∃ k x ns lo hi kids,t=Tree.mk k x ns lo hi kids/\0<kids.length) :
  ∃ vs:List XV,vs.length=(fO t).length/\0<vs.length/\(∀ (i:Nat) (y:XV) (u:Tree),vs[i]?=some y->(fO t)[i]?=some u->aM W y u)/\((X.kind=1/\au W X.ks vs.length (vs.flatMap XV.cells))\/(X.kind≠1/\vs=[X])):=by
 obtain⟨x,ns,kids,vs,rfl,htx,hto,h3,h4,h5,h6⟩:=h.forms;by_cases hk:X.kind=1
 ·have e:fO (.mk X.kind x ns X.lo X.hi kids)=kids:=by show (if X.kind=1 then _ else _)=_;rw[if_pos hk]
  obtain⟨_,_,_,_,_,qE,e',hpos⟩:=h2 hk;injection e' with _ _ _ _ _ e'
  subst e';exact⟨vs,by rw[e];exact h5,by omega,fun i y u hy hu=>h6 i y u hy (by rwa[e]at hu),.inl ⟨hk,by rw[h5];exact h4⟩⟩
 ·have e:fO (.mk X.kind x ns X.lo X.hi kids)=[.mk X.kind x ns X.lo X.hi kids]:=by show (if X.kind=1 then _ else _)=_;rw[if_neg hk]
  refine⟨[X],by rw[e];rfl,by simp,fun i y u hy hu=>?_,.inr ⟨hk,rfl⟩⟩;rw[e]at hu
  cases i with
  |zero =>
   simp at hy hu;subst hy hu;exact h
  |succ i=>simp at hy
theorem Y8{w:World}{a:Option Addr}{n c:Nat}:Calls Tryz.prog 55 #[.slice a n c] w (fun e w'=>e=.returned (.agg #[.int .i64 1,.string ⟨#[]⟩,.slice none 0 0,.int .i64 0,.int .i64 0,.slice a n c])/\Below w.heap.size w w'):=by
 have aV:=hh9 (fG w)
 have hb:Below w.heap.size w ((w.alloc (.cells #[.int .i64 0,.string ⟨#[]⟩,.slice none 0 0,.int .i64 0,.int .i64 0,.slice none 0 0] 29)).setRow w.heap.size (XV.arr ⟨1,⟨#[]⟩,.slice none 0 0,0,0,.slice a n c⟩)):=by
  have h:=(zbE w.heap.size w).alloc (zbA _) (.cells #[.int .i64 0,.string ⟨#[]⟩,.slice none 0 0,.int .i64 0,.int .i64 0,.slice none 0 0] 29);exact⟨h.os,h.tape,h.output,by simp[World.setRow],fun k hk=>(setRow_other _ _ _ _ (by omega)).trans (h.block k hk)⟩
 have HB:=hh9 hb;clear hb;go_enter Tryz.func55,Tryz.ntmps55;go_wp2_with (refine bA rfl _ _ rfl w.heap.size ⟨1,⟨#[]⟩,.slice none 0 0,0,0,.slice a n c⟩ rfl rfl aV.out rfl rfl ?_)
 exact bodyPost_ret_by (zag rfl _ _ w.heap.size ⟨1,⟨#[]⟩,.slice none 0 0,0,0,.slice a n c⟩ rfl aV.out) rfl ⟨rfl,HB.out⟩
theorem OD{W:World}{g:Nat}{X:XV}(h:gK W g X):au W (.slice (some ⟨g,0,none⟩) 1 1) 1 ([X].flatMap XV.cells):=by
 refine .inr ⟨g,0,1,rfl,zbA _,by unfold maxLen;omega,(zbD.1 h).1,fun j u hj=>?_⟩;have e:([X].flatMap XV.cells)=X.arr.toList:=by simp[XV.cells,XV.arr]
 rw[e]at hj;unfold gK at h;unfold World.cell?;simp only[h,Nat.zero_add];simpa using hj
theorem zxv{w:World}{k1 l1 h1 k2 l2 h2:Int}{t1 t2:ByteArray}{a1 a2 b1 b2:Option Addr}{m1 m2 d1 d2 n1 n2 e1 e2:Nat}{vs1 vs2:List XV}
  (hl1:0<vs1.length) (hl2:0<vs2.length) (hs1:(k1=1/\au w (.slice b1 n1 e1) vs1.length (vs1.flatMap XV.cells))\/(k1≠1/\vs1=[⟨k1,t1,.slice a1 m1 d1,l1,h1,.slice b1 n1 e1⟩])) (hs2:(k2=1/\au w (.slice b2 n2 e2) vs2.length (vs2.flatMap XV.cells))\/(k2≠1/\vs2=[⟨k2,t2,.slice a2 m2 d2,l2,h2,.slice b2 n2 e2⟩]))
  (ho1:∀ u∈vs1.flatMap XV.cells,u.oneCell'=true) (ho2:∀ u∈vs2.flatMap XV.cells,u.oneCell'=true) (hle:vs1.length+vs2.length<=100000000) :
  Calls Tryz.prog 36 #[.agg #[.int .i64 k1,.string t1,.slice a1 m1 d1,.int .i64 l1,.int .i64 h1,.slice b1 n1 e1],.agg #[.int .i64 k2,.string t2,.slice a2 m2 d2,.int .i64 l2,.int .i64 h2,.slice b2 n2 e2]] w (fun e w'=>∃ a n c,e=.returned (.agg #[.int .i64 1,.string ⟨#[]⟩,.slice none 0 0,.int .i64 0,.int .i64 0,.slice a n c])/\w'.ownsRow w.heap.size 29 6 (.slice a n c) (vs1++vs2).length ((vs1++vs2).flatMap XV.cells)/\Below w.heap.size w w'):=by
 have Tg:=hh9 hs1;have HS2:=hh9 hs2;have jv:=hh9 ho1;have Aj:=hh9 ho2;have HW:=hh9 (fun (W:World) (a:Option Addr) (n c:Nat)=>Y8 (w:=W) (a:=a) (n:=n) (c:=c));have hb0:Below w.heap.size w ((((w.alloc (.cells #[.int .i64 k1,.string t1,.slice a1 m1 d1,.int .i64 l1,.int .i64 h1,.slice b1 n1 e1] 29)).alloc (.cells #[.int .i64 k2,.string t2,.slice a2 m2 d2,.int .i64 l2,.int .i64 h2,.slice b2 n2 e2] 29)).alloc (.cells #[.int .i64 0,.string ⟨#[]⟩,.slice none 0 0,.int .i64 0,.int .i64 0,.slice none 0 0] 29)).alloc (.cells #[.int .i64 k1,.string t1,.slice a1 m1 d1,.int .i64 l1,.int .i64 h1,.slice b1 n1 e1,.int .i64 k2,.string t2,.slice a2 m2 d2,.int .i64 l2,.int .i64 h2,.slice b2 n2 e2] 29)):=by go_grown
 have je:((((w.alloc (.cells #[.int .i64 k1,.string t1,.slice a1 m1 d1,.int .i64 l1,.int .i64 h1,.slice b1 n1 e1] 29)).alloc (.cells #[.int .i64 k2,.string t2,.slice a2 m2 d2,.int .i64 l2,.int .i64 h2,.slice b2 n2 e2] 29)).alloc (.cells #[.int .i64 0,.string ⟨#[]⟩,.slice none 0 0,.int .i64 0,.int .i64 0,.slice none 0 0] 29)).alloc (.cells #[.int .i64 k1,.string t1,.slice a1 m1 d1,.int .i64 l1,.int .i64 h1,.slice b1 n1 e1,.int .i64 k2,.string t2,.slice a2 m2 d2,.int .i64 l2,.int .i64 h2,.slice b2 n2 e2] 29)).heap[w.heap.size+3]?=some (.cells #[.int .i64 k1,.string t1,.slice a1 m1 d1,.int .i64 l1,.int .i64 h1,.slice b1 n1 e1,.int .i64 k2,.string t2,.slice a2 m2 d2,.int .i64 l2,.int .i64 h2,.slice b2 n2 e2] 29 (0,0)):=by
  have h:=zbO (((w.alloc (.cells #[.int .i64 k1,.string t1,.slice a1 m1 d1,.int .i64 l1,.int .i64 h1,.slice b1 n1 e1] 29)).alloc (.cells #[.int .i64 k2,.string t2,.slice a2 m2 d2,.int .i64 l2,.int .i64 h2,.slice b2 n2 e2] 29)).alloc (.cells #[.int .i64 0,.string ⟨#[]⟩,.slice none 0 0,.int .i64 0,.int .i64 0,.slice none 0 0] 29)) (.cells #[.int .i64 k1,.string t1,.slice a1 m1 d1,.int .i64 l1,.int .i64 h1,.slice b1 n1 e1,.int .i64 k2,.string t2,.slice a2 m2 d2,.int .i64 l2,.int .i64 h2,.slice b2 n2 e2] 29);rw[World.size_alloc,World.size_alloc,World.size_alloc]at h;exact h
 have DW:bg ((((w.alloc (.cells #[.int .i64 k1,.string t1,.slice a1 m1 d1,.int .i64 l1,.int .i64 h1,.slice b1 n1 e1] 29)).alloc (.cells #[.int .i64 k2,.string t2,.slice a2 m2 d2,.int .i64 l2,.int .i64 h2,.slice b2 n2 e2] 29)).alloc (.cells #[.int .i64 0,.string ⟨#[]⟩,.slice none 0 0,.int .i64 0,.int .i64 0,.slice none 0 0] 29)).alloc (.cells #[.int .i64 k1,.string t1,.slice a1 m1 d1,.int .i64 l1,.int .i64 h1,.slice b1 n1 e1,.int .i64 k2,.string t2,.slice a2 m2 d2,.int .i64 l2,.int .i64 h2,.slice b2 n2 e2] 29)) (w.heap.size+2):=by
  have h:=fG ((w.alloc (.cells #[.int .i64 k1,.string t1,.slice a1 m1 d1,.int .i64 l1,.int .i64 h1,.slice b1 n1 e1] 29)).alloc (.cells #[.int .i64 k2,.string t2,.slice a2 m2 d2,.int .i64 l2,.int .i64 h2,.slice b2 n2 e2] 29));rw[World.size_alloc,World.size_alloc]at h;exact h.kept (zbP _ _ _ (by simp))
 have HB0:=hh9 hb0;have Cu:=hh9 je;have Ti:=hh9 DW;clear hs1 hs2 ho1 ho2 hb0 je DW;go_enter Tryz.func36,Tryz.ntmps36;go_wp2_with fail
 go_loopw [5,12] (fun s v wr=>∃ (q:Nat) (Io:List XV) (sa:Option Addr) (sn sc:Nat),s=.slice sa sn sc/\v=.int .i64 q/\q<=2/\Hid ((q=0->Io=[])/\(q=1->Io=vs1)/\(q=2->Io=vs1++vs2))/\Hid (wr.ownsRow (w.heap.size+4) 29 6 (.slice sa sn sc) Io.length (Io.flatMap XV.cells))/\Hid (Below w.heap.size w wr)/\Hid (wr.heap[w.heap.size+3]?=some (.cells #[.int .i64 k1,.string t1,.slice a1 m1 d1,.int .i64 l1,.int .i64 h1,.slice b1 n1 e1,.int .i64 k2,.string t2,.slice a2 m2 d2,.int .i64 l2,.int .i64 h2,.slice b2 n2 e2] 29 (0,0)))/\Hid (bg wr (w.heap.size+2))) (fun _ v _=>2-(intOf v).toNat)
 case atStart=>exact⟨0,[],none,0,0,rfl,rfl,by omega,⟨fun _=>rfl,fun h=>by omega,fun h=>by omega⟩,World.ownsRow_nil _ _ _ _,HB0,Cu,Ti⟩
 case round =>
  obtain⟨q,Io,sa,sn,sc,rfl,rfl,hq,HV,HOWN,aA,cO,aV⟩:=hrel;have hblk:=cO.out;have hl3:=(zbD.1 hblk).1;have c0:wr.cell? ⟨w.heap.size+3,0,none⟩=some (.int .i64 k1):=by unfold World.cell?;simp only[hblk];rfl
  have c1:wr.cell? ⟨w.heap.size+3,1,none⟩=some (.string t1):=by unfold World.cell?;simp only[hblk];rfl
  have c2:wr.cell? ⟨w.heap.size+3,2,none⟩=some (.slice a1 m1 d1):=by unfold World.cell?;simp only[hblk];rfl
  have c3:wr.cell? ⟨w.heap.size+3,3,none⟩=some (.int .i64 l1):=by unfold World.cell?;simp only[hblk];rfl
  have c4:wr.cell? ⟨w.heap.size+3,4,none⟩=some (.int .i64 h1):=by unfold World.cell?;simp only[hblk];rfl
  have c5:wr.cell? ⟨w.heap.size+3,5,none⟩=some (.slice b1 n1 e1):=by unfold World.cell?;simp only[hblk];rfl
  have c6:wr.cell? ⟨w.heap.size+3,6,none⟩=some (.int .i64 k2):=by unfold World.cell?;simp only[hblk];rfl
  have c7:wr.cell? ⟨w.heap.size+3,7,none⟩=some (.string t2):=by unfold World.cell?;simp only[hblk];rfl
  have c8:wr.cell? ⟨w.heap.size+3,8,none⟩=some (.slice a2 m2 d2):=by unfold World.cell?;simp only[hblk];rfl
  have c9:wr.cell? ⟨w.heap.size+3,9,none⟩=some (.int .i64 l2):=by unfold World.cell?;simp only[hblk];rfl
  have c10:wr.cell? ⟨w.heap.size+3,10,none⟩=some (.int .i64 h2):=by unfold World.cell?;simp only[hblk];rfl
  have c11:wr.cell? ⟨w.heap.size+3,11,none⟩=some (.slice b2 n2 e2):=by unfold World.cell?;simp only[hblk];rfl
  clear hblk;by_cases hq0:q=0
  ·subst hq0;have hv:=HV.out.1 rfl;rw[hv]at HOWN;clear hv HV;rcases Tg.out with ⟨hk,hra⟩|⟨hk,hvs⟩
   ·subst hk;have gL:Hid (Below wr.heap.size wr (wr.alloc (.cells #[.int .i64 1,.string t1,.slice a1 m1 d1,.int .i64 l1,.int .i64 h1,.slice b1 n1 e1] 29))):=(zbE _ _).alloc (zbA _) _;have zx:=hh9 ((hra.below aA.out).below gL.out);clear hra;go_wp2_with (at_builtin;go_loud (refine KH rfl _ _ rfl (w.heap.size+4) _ _ [] vs1 rfl rfl (mI HOWN.out gL.out) zx.out hl1 jv.out (by first|omega|(simp<;>omega)) (by first|omega|(simp<;>omega)) ?_);intro v3 w3 hown hgrow hat;have kg:=hh9 hown;have bF:Hid (World.grownBy _ w3 (Value.ownBlock (.slice sa sn sc))):=hgrow;clear hown hgrow)
    have hown3:=lD HOWN.out;have vw:w.heap.size+3<(wr.alloc (.cells #[.int .i64 1,.string t1,.slice a1 m1 d1,.int .i64 l1,.int .i64 h1,.slice b1 n1 e1] 29)).heap.size:=by simp;omega
    have hr2:(wr.alloc (.cells #[.int .i64 1,.string t1,.slice a1 m1 d1,.int .i64 l1,.int .i64 h1,.slice b1 n1 e1] 29)).heap[w.heap.size+3]?=some (.cells #[.int .i64 1,.string t1,.slice a1 m1 d1,.int .i64 l1,.int .i64 h1,.slice b1 n1 e1,.int .i64 k2,.string t2,.slice a2 m2 d2,.int .i64 l2,.int .i64 h2,.slice b2 n2 e2] 29 (0,0)):=gL.out.block _ hl3 |>.trans cO.out
    have wR:∀ b,b<=w.heap.size+3->b<(wr.alloc (.cells #[.int .i64 1,.string t1,.slice a1 m1 d1,.int .i64 l1,.int .i64 h1,.slice b1 n1 e1] 29)).heap.size->w3.heap[b]?=(wr.alloc (.cells #[.int .i64 1,.string t1,.slice a1 m1 d1,.int .i64 l1,.int .i64 h1,.slice b1 n1 e1] 29)).heap[b]?:=fun b hb hl=>bF.out.block b hl (fun e=>by have:=hown3 b e.symm;omega)
    obtain⟨a3,c3,rfl⟩:=qG kg.out;go_wp2_with fail
    go_roundw
    case rel=>exact⟨1,[]++vs1,a3,_,c3,rfl,by go_num,by omega,⟨fun h=>by omega,fun h=>by first|rfl|omega,fun h=>by first|rfl|omega⟩,kg,((aA.out.trans (gL.out.mono aA.out.size))).grown bF.out (by have:=aA.out.size;have:=gL.out.size;omega) (fun b e=>by have:=hown3 b e;omega),(wR _ (zbA _) vw).trans hr2,((aV.out.kept (gL.out.block _ (by omega))).kept (wR _ (by omega) (by simp;omega)))⟩
    case measure=>simp[intOf]
   ·have hk5:(k1==1)=false:=by simpa using hk
    have gL:Hid (Below wr.heap.size wr ((wr.alloc (.cells #[.int .i64 k1,.string t1,.slice a1 m1 d1,.int .i64 l1,.int .i64 h1,.slice b1 n1 e1] 29)).alloc (.cells #[.int .i64 k1,.string t1,.slice a1 m1 d1,.int .i64 l1,.int .i64 h1,.slice b1 n1 e1] 29))):=((zbE _ _).alloc (zbA _) _).alloc (by simp) _
    have zx:Hid (au ((wr.alloc (.cells #[.int .i64 k1,.string t1,.slice a1 m1 d1,.int .i64 l1,.int .i64 h1,.slice b1 n1 e1] 29)).alloc (.cells #[.int .i64 k1,.string t1,.slice a1 m1 d1,.int .i64 l1,.int .i64 h1,.slice b1 n1 e1] 29)) (.slice (some ⟨wr.heap.size+1,0,none⟩) 1 1) vs1.length (vs1.flatMap XV.cells)):=by
     rw[hvs];have h:=zbO (wr.alloc (.cells #[.int .i64 k1,.string t1,.slice a1 m1 d1,.int .i64 l1,.int .i64 h1,.slice b1 n1 e1] 29)) (.cells #[.int .i64 k1,.string t1,.slice a1 m1 d1,.int .i64 l1,.int .i64 h1,.slice b1 n1 e1] 29);rw[World.size_alloc]at h;exact OD (X:=⟨k1,t1,.slice a1 m1 d1,l1,h1,.slice b1 n1 e1⟩) h
    clear hvs;go_wp2_with (at_builtin;go_loud (refine KH rfl _ _ rfl (w.heap.size+4) _ _ [] vs1 rfl rfl (mI HOWN.out gL.out) zx.out hl1 jv.out (by first|omega|(simp<;>omega)) (by first|omega|(simp<;>omega)) ?_);intro v3 w3 hown hgrow hat;have kg:=hh9 hown;have bF:Hid (World.grownBy _ w3 (Value.ownBlock (.slice sa sn sc))):=hgrow;clear hown hgrow)
    have hown3:=lD HOWN.out;have vw:w.heap.size+3<((wr.alloc (.cells #[.int .i64 k1,.string t1,.slice a1 m1 d1,.int .i64 l1,.int .i64 h1,.slice b1 n1 e1] 29)).alloc (.cells #[.int .i64 k1,.string t1,.slice a1 m1 d1,.int .i64 l1,.int .i64 h1,.slice b1 n1 e1] 29)).heap.size:=by simp;omega
    have hr2:((wr.alloc (.cells #[.int .i64 k1,.string t1,.slice a1 m1 d1,.int .i64 l1,.int .i64 h1,.slice b1 n1 e1] 29)).alloc (.cells #[.int .i64 k1,.string t1,.slice a1 m1 d1,.int .i64 l1,.int .i64 h1,.slice b1 n1 e1] 29)).heap[w.heap.size+3]?=some (.cells #[.int .i64 k1,.string t1,.slice a1 m1 d1,.int .i64 l1,.int .i64 h1,.slice b1 n1 e1,.int .i64 k2,.string t2,.slice a2 m2 d2,.int .i64 l2,.int .i64 h2,.slice b2 n2 e2] 29 (0,0)):=gL.out.block _ hl3 |>.trans cO.out
    have wR:∀ b,b<=w.heap.size+3->b<((wr.alloc (.cells #[.int .i64 k1,.string t1,.slice a1 m1 d1,.int .i64 l1,.int .i64 h1,.slice b1 n1 e1] 29)).alloc (.cells #[.int .i64 k1,.string t1,.slice a1 m1 d1,.int .i64 l1,.int .i64 h1,.slice b1 n1 e1] 29)).heap.size->w3.heap[b]?=((wr.alloc (.cells #[.int .i64 k1,.string t1,.slice a1 m1 d1,.int .i64 l1,.int .i64 h1,.slice b1 n1 e1] 29)).alloc (.cells #[.int .i64 k1,.string t1,.slice a1 m1 d1,.int .i64 l1,.int .i64 h1,.slice b1 n1 e1] 29)).heap[b]?:=fun b hb hl=>bF.out.block b hl (fun e=>by have:=hown3 b e.symm;omega)
    obtain⟨a3,c3,rfl⟩:=qG kg.out;go_wp2_with fail
    go_roundw
    case rel=>exact⟨1,[]++vs1,a3,_,c3,rfl,by go_num,by omega,⟨fun h=>by omega,fun h=>by first|rfl|omega,fun h=>by first|rfl|omega⟩,kg,((aA.out.trans (gL.out.mono aA.out.size))).grown bF.out (by have:=aA.out.size;have:=gL.out.size;omega) (fun b e=>by have:=hown3 b e;omega),(wR _ (zbA _) vw).trans hr2,((aV.out.kept (gL.out.block _ (by omega))).kept (wR _ (by omega) (by simp;omega)))⟩
    case measure=>simp[intOf]
  ·by_cases hq1:q=1
   ·subst hq1;have hv:=HV.out.2.1 rfl;rw[hv]at HOWN;clear hv HV;rcases HS2.out with ⟨hk,hra⟩|⟨hk,hvs⟩
    ·subst hk;have gL:Hid (Below wr.heap.size wr (wr.alloc (.cells #[.int .i64 1,.string t2,.slice a2 m2 d2,.int .i64 l2,.int .i64 h2,.slice b2 n2 e2] 29))):=(zbE _ _).alloc (zbA _) _;have zx:=hh9 ((hra.below aA.out).below gL.out);clear hra;go_wp2_with (at_builtin;go_loud (refine KH rfl _ _ rfl (w.heap.size+4) _ _ vs1 vs2 rfl rfl (mI HOWN.out gL.out) zx.out hl2 Aj.out (by first|omega|(simp<;>omega)) (by first|omega|(simp<;>omega)) ?_);intro v3 w3 hown hgrow hat;have kg:=hh9 hown;have bF:Hid (World.grownBy _ w3 (Value.ownBlock (.slice sa sn sc))):=hgrow;clear hown hgrow)
     have hown3:=lD HOWN.out;have vw:w.heap.size+3<(wr.alloc (.cells #[.int .i64 1,.string t2,.slice a2 m2 d2,.int .i64 l2,.int .i64 h2,.slice b2 n2 e2] 29)).heap.size:=by simp;omega
     have hr2:(wr.alloc (.cells #[.int .i64 1,.string t2,.slice a2 m2 d2,.int .i64 l2,.int .i64 h2,.slice b2 n2 e2] 29)).heap[w.heap.size+3]?=some (.cells #[.int .i64 k1,.string t1,.slice a1 m1 d1,.int .i64 l1,.int .i64 h1,.slice b1 n1 e1,.int .i64 1,.string t2,.slice a2 m2 d2,.int .i64 l2,.int .i64 h2,.slice b2 n2 e2] 29 (0,0)):=gL.out.block _ hl3 |>.trans cO.out
     have wR:∀ b,b<=w.heap.size+3->b<(wr.alloc (.cells #[.int .i64 1,.string t2,.slice a2 m2 d2,.int .i64 l2,.int .i64 h2,.slice b2 n2 e2] 29)).heap.size->w3.heap[b]?=(wr.alloc (.cells #[.int .i64 1,.string t2,.slice a2 m2 d2,.int .i64 l2,.int .i64 h2,.slice b2 n2 e2] 29)).heap[b]?:=fun b hb hl=>bF.out.block b hl (fun e=>by have:=hown3 b e.symm;omega)
     obtain⟨a3,c3,rfl⟩:=qG kg.out;go_wp2_with fail
     go_roundw
     case rel=>exact⟨2,vs1++vs2,a3,_,c3,rfl,by go_num,by omega,⟨fun h=>by omega,fun h=>by first|rfl|omega,fun h=>by first|rfl|omega⟩,kg,((aA.out.trans (gL.out.mono aA.out.size))).grown bF.out (by have:=aA.out.size;have:=gL.out.size;omega) (fun b e=>by have:=hown3 b e;omega),(wR _ (zbA _) vw).trans hr2,((aV.out.kept (gL.out.block _ (by omega))).kept (wR _ (by omega) (by simp;omega)))⟩
     case measure=>simp[intOf]
    ·have hk5:(k2==1)=false:=by simpa using hk
     have gL:Hid (Below wr.heap.size wr ((wr.alloc (.cells #[.int .i64 k2,.string t2,.slice a2 m2 d2,.int .i64 l2,.int .i64 h2,.slice b2 n2 e2] 29)).alloc (.cells #[.int .i64 k2,.string t2,.slice a2 m2 d2,.int .i64 l2,.int .i64 h2,.slice b2 n2 e2] 29))):=((zbE _ _).alloc (zbA _) _).alloc (by simp) _
     have zx:Hid (au ((wr.alloc (.cells #[.int .i64 k2,.string t2,.slice a2 m2 d2,.int .i64 l2,.int .i64 h2,.slice b2 n2 e2] 29)).alloc (.cells #[.int .i64 k2,.string t2,.slice a2 m2 d2,.int .i64 l2,.int .i64 h2,.slice b2 n2 e2] 29)) (.slice (some ⟨wr.heap.size+1,0,none⟩) 1 1) vs2.length (vs2.flatMap XV.cells)):=by
      rw[hvs];have h:=zbO (wr.alloc (.cells #[.int .i64 k2,.string t2,.slice a2 m2 d2,.int .i64 l2,.int .i64 h2,.slice b2 n2 e2] 29)) (.cells #[.int .i64 k2,.string t2,.slice a2 m2 d2,.int .i64 l2,.int .i64 h2,.slice b2 n2 e2] 29);rw[World.size_alloc]at h;exact OD (X:=⟨k2,t2,.slice a2 m2 d2,l2,h2,.slice b2 n2 e2⟩) h
     clear hvs;go_wp2_with (at_builtin;go_loud (refine KH rfl _ _ rfl (w.heap.size+4) _ _ vs1 vs2 rfl rfl (mI HOWN.out gL.out) zx.out hl2 Aj.out (by first|omega|(simp<;>omega)) (by first|omega|(simp<;>omega)) ?_);intro v3 w3 hown hgrow hat;have kg:=hh9 hown;have bF:Hid (World.grownBy _ w3 (Value.ownBlock (.slice sa sn sc))):=hgrow;clear hown hgrow)
     have hown3:=lD HOWN.out;have vw:w.heap.size+3<((wr.alloc (.cells #[.int .i64 k2,.string t2,.slice a2 m2 d2,.int .i64 l2,.int .i64 h2,.slice b2 n2 e2] 29)).alloc (.cells #[.int .i64 k2,.string t2,.slice a2 m2 d2,.int .i64 l2,.int .i64 h2,.slice b2 n2 e2] 29)).heap.size:=by simp;omega
     have hr2:((wr.alloc (.cells #[.int .i64 k2,.string t2,.slice a2 m2 d2,.int .i64 l2,.int .i64 h2,.slice b2 n2 e2] 29)).alloc (.cells #[.int .i64 k2,.string t2,.slice a2 m2 d2,.int .i64 l2,.int .i64 h2,.slice b2 n2 e2] 29)).heap[w.heap.size+3]?=some (.cells #[.int .i64 k1,.string t1,.slice a1 m1 d1,.int .i64 l1,.int .i64 h1,.slice b1 n1 e1,.int .i64 k2,.string t2,.slice a2 m2 d2,.int .i64 l2,.int .i64 h2,.slice b2 n2 e2] 29 (0,0)):=gL.out.block _ hl3 |>.trans cO.out
     have wR:∀ b,b<=w.heap.size+3->b<((wr.alloc (.cells #[.int .i64 k2,.string t2,.slice a2 m2 d2,.int .i64 l2,.int .i64 h2,.slice b2 n2 e2] 29)).alloc (.cells #[.int .i64 k2,.string t2,.slice a2 m2 d2,.int .i64 l2,.int .i64 h2,.slice b2 n2 e2] 29)).heap.size->w3.heap[b]?=((wr.alloc (.cells #[.int .i64 k2,.string t2,.slice a2 m2 d2,.int .i64 l2,.int .i64 h2,.slice b2 n2 e2] 29)).alloc (.cells #[.int .i64 k2,.string t2,.slice a2 m2 d2,.int .i64 l2,.int .i64 h2,.slice b2 n2 e2] 29)).heap[b]?:=fun b hb hl=>bF.out.block b hl (fun e=>by have:=hown3 b e.symm;omega)
     obtain⟨a3,c3,rfl⟩:=qG kg.out;go_wp2_with fail
     go_roundw
     case rel=>exact⟨2,vs1++vs2,a3,_,c3,rfl,by go_num,by omega,⟨fun h=>by omega,fun h=>by first|rfl|omega,fun h=>by first|rfl|omega⟩,kg,((aA.out.trans (gL.out.mono aA.out.size))).grown bF.out (by have:=aA.out.size;have:=gL.out.size;omega) (fun b e=>by have:=hown3 b e;omega),(wR _ (zbA _) vw).trans hr2,((aV.out.kept (gL.out.block _ (by omega))).kept (wR _ (by omega) (by simp;omega)))⟩
     case measure=>simp[intOf]
   ·obtain rfl:q=2:=by omega
    have hv:=HV.out.2.2 rfl;rw[hv]at HOWN;clear hv HV;obtain⟨gE,OE⟩:=aV.out;have KI:=hh9 (fun (W':World) (hb:Below wr.heap.size wr W')=>aV.out.kept (hb.block _ (by omega)));have KJ:=hh9 (fun (W':World) (hb:Below wr.heap.size wr W')=>mI HOWN.out hb);clear OE c0 c1 c2 c3 c4 c5 c6 c7 c8 c9 c10 c11
    go_wp2_with (first
     |(go_at_call 55;refine(HW.out _ _ _ _).mono ?_;rintro e w2 ⟨rfl,hb2⟩;have HB2:=hh9 hb2;have HR2:=hh9 (KI.out _ hb2);clear hb2)
     |(refine bA rfl _ _ rfl (w.heap.size+2) ⟨1,⟨#[]⟩,.slice none 0 0,0,0,.slice sa sn sc⟩ rfl rfl HR2.out rfl rfl ?_))
    have hg2:w2.grownBy (w2.setRow (w.heap.size+2) (XV.arr ⟨1,⟨#[]⟩,.slice none 0 0,0,0,.slice sa sn sc⟩)) (some (w.heap.size+2)):=⟨rfl,rfl,rfl,by simp[World.setRow],fun k hk hne=>setRow_other _ _ _ _ (fun e=>hne (by rw[e]))⟩
    have hown2:=KJ.out _ HB2.out;refine bodyPost_ret_by (zag rfl _ _ (w.heap.size+2) ⟨1,⟨#[]⟩,.slice none 0 0,0,0,.slice sa sn sc⟩ rfl HR2.out) rfl ⟨sa,sn,sc,rfl,?_,?_⟩
    ·exact wQ (DK hown2 hg2 (fun e=>by have:=lD hown2 _ e;omega)) (by omega)
    ·exact(aA.out.trans (HB2.out.mono aA.out.size)).grown hg2 (by have:=aA.out.size;have:=HB2.out.size;omega) (fun b e=>by have:=zbB e;omega)
section
variable {P:Program} {ops:Array Oper} {Q:Exit → Act → World → Prop} {md:Region.Mode}
theorem KL{listed:Array Bool}{i:Nat}:i∈Region.ready md ops listed ↔ i<ops.size/\listed.getD i true=false/\∃ o,ops[i]?=some o/\∀ e∈o.after,Region.binds md e=true->listed.getD e.on false=true:=by
 unfold Region.ready;rw[List.mem_filter,List.mem_range];refine and_congr_right fun hi=>?_
 rw[Array.getElem?_eq_getElem hi];simp only[Option.map_some,Option.getD_some,zbJ,Bool.not_eq_true',Array.all_eq_true_iff_forall_mem,Bool.or_eq_true];refine and_congr_right fun _=>⟨fun h=>⟨_,rfl,fun e he hb=>(h e he).resolve_left (by simp[hb])⟩,fun ⟨o,ho,h⟩ e he=>?_⟩
 have e1:=zbB ho;subst e1
 cases hb:Region.binds md e with
 |false=>exact .inl rfl
 |true=>exact .inr (h e he hb)
theorem Y9:∀ (l:List Bool) (i:Nat),l[i]?=some false->(l.set i true).count false+1=l.count false
 |[],i,h=>by simp at h
 |b::l,0,h=>by
  simp at h;subst h;simp
 |b::l,i+1,h=>by
  simp at h;have:=Y9 l i h;simp only[List.set_cons_succ,List.count_cons];omega
theorem Za{J:Array Bool->Act->World->Prop}(hstep:∀ (listed:Array Bool) (a:Act) (w:World) (i:Nat),listed.size=ops.size->J listed a w->i∈Region.ready md ops listed->wpOp P ops Q i (J (listed.setIfInBounds i true)) a w)
  (hdone:∀ (listed:Array Bool) (a:Act) (w:World),listed.size=ops.size->J listed a w->Region.ready md ops listed=[]->Q .normal a w) :
  ∀ (fuel:Nat) (listed:Array Bool) (a:Act) (w:World),listed.size=ops.size->listed.toList.count false<=fuel->J listed a w->wpAny P md ops Q fuel listed a w
 |0,listed,a,w,hs,hc,hJ=>by
  have hr:Region.ready md ops listed=[]:=by
   rw[List.eq_nil_iff_forall_not_mem];intro i hi;obtain⟨h1,h2,_⟩:=KL.1 hi;have hl:i<listed.size:=by omega
   rw[Array.getD_eq_getD_getElem?,Array.getElem?_eq_getElem hl]at h2
   have hm:false∈listed.toList:=by
    rw[<- show listed[i]=false from h2];exact Array.getElem_mem_toList hl
   have:=List.count_pos_iff.2 hm;omega
  exact⟨hr,hdone _ _ _ hs hJ hr⟩
 |fuel+1,listed,a,w,hs,hc,hJ=>by
  refine⟨hdone _ _ _ hs hJ,fun i hi=>wpOp_mono (fun a' w' h=>Za hstep hdone fuel _ a' w' (by simpa using hs) ?_ h) (hstep _ _ _ i hs hJ hi)⟩;obtain⟨h1,h2,_⟩:=KL.1 hi;have hl:i<listed.size:=by omega
  rw[Array.getD_eq_getD_getElem?,Array.getElem?_eq_getElem hl]at h2;have h3:=Y9 listed.toList i (by rw[Array.getElem?_toList,Array.getElem?_eq_getElem hl];exact congrArg some h2);rw[Array.toList_setIfInBounds];omega
theorem zun{listed:Array Bool}(KM:∀ (i:Nat) (o:Oper),ops[i]?=some o->∀ e∈o.after,e.on<i)(hs:listed.size=ops.size)(hr:Region.ready md ops listed=[]):∀ i,i<ops.size->listed.getD i false=true:=by
 intro i
 induction i using Nat.strongRecOn with
 |_ i ih =>
 intro hi
 cases hl:listed.getD i false with
 |true=>rfl
 |false =>
  have hm:i∈Region.ready md ops listed:=KL.2 ⟨hi,by rw[Array.getD_eq_getD_getElem?,Array.getElem?_eq_getElem (by omega)]at hl ⊢;exact hl,ops[i],Array.getElem?_eq_getElem hi,fun e he _=>ih e.on (KM i _ (Array.getElem?_eq_getElem hi) e he) (by have:=KM i _ (Array.getElem?_eq_getElem hi) e he;omega)⟩;rw[hr]at hm
  cases hm
theorem zo2{id:Nat}{a:Act}{w:World}(J:Array Bool->Act->World->Prop)(hm:P.follows .mixedOrders=true)
  (h0:J (Array.replicate ops.size false) a { w with drawn:=w.drawn+1 })
  (hstep:∀ (listed:Array Bool) (a:Act) (w:World) (i:Nat),listed.size=ops.size->J listed a w->i∈Region.ready .any ops listed->wpOp P ops Q i (J (listed.setIfInBounds i true)) a w)
  (hdone:∀ (listed:Array Bool) (a:Act) (w:World),listed.size=ops.size->J listed a w->Region.ready .any ops listed=[]->Q .normal a w):(Code.region id ops true).wp P Q a w :=
 wp_region_any hm (Za hstep hdone ops.size _ a _ (by simp) (by simp) h0)
end
theorem zuo{w:World}{v:Value}{ys:List RV}{g:List GR}{x:List Int}{c:Nat}(h:qF w v ys g)(hx:bJ x)(hc:w.cell? ⟨c,0,none⟩=some (.string (ak x)))(hcl:c<w.heap.size) :
  Calls Tryz.prog 33 #[v,.func (.func 34) #[] #[.pointer (some ⟨c,0,none⟩)]] w (JX (uz g x) w):=by
 obtain⟨h1,h2,h3⟩:=h;have H2:=hh9 h2;have H3:=hh9 h3;have HX:=hh9 hx;have HT:=hh9 (fun (W:World) (hb:Below w.heap.size w W) (Y:RV)=>zwv (Y:=Y) ((hb.cell (p:=⟨c,0,none⟩) hcl).trans hc) (Nat.lt_of_lt_of_le hcl hb.size));obtain⟨n,hnn⟩:∃ n,n=g.length:=⟨_,rfl⟩
 obtain⟨N,hN⟩:∃ N,N=uz g x:=⟨_,rfl⟩
 obtain⟨s,hs⟩:∃ s,s=ak x:=⟨_,rfl⟩
 rw[<- hnn]at h1;rw[<- hs]at HT;rw[<- hN];have bH:=hh9 hnn;have HN:=hh9 hN;have HS:=hh9 hs;clear h2 h3 hnn hN hs hx hc hcl;rcases h1 with ⟨h0,a,cap,rfl⟩|⟨b,off,cap,rfl,g1,g2,g3,g4⟩
 ·obtain rfl:g=[]:=List.length_eq_zero_iff.1 (by rw[<- bH.out];exact h0);subst h0;obtain rfl:N=-1:=by rw[HN.out];rfl
  go_enter Tryz.func33,Tryz.ntmps33;go_wp2_with fail
  go_loop [8] (fun v=>v=.int .i64 0) (fun _=>0)
  case atStart=>rfl
  case round =>
   subst hrel;go_wp2_with fail
   go_ret;exact⟨rfl,zbE _ _⟩
 ·have G4:=hh9 g4;unfold maxLen at g2;clear g4;have HB0:=hh9 (zbE w.heap.size w);go_enter Tryz.func33,Tryz.ntmps33;go_wp2_with fail
  go_loopw [8] (fun v wr=>∃ i:Nat,v=.int .i64 i/\i<=n/\Hid (∀ (j:Nat) (u:GR),j<i->g[j]?=some u->u.name≠x)/\Hid (Below w.heap.size w wr)) (fun v _=>n-(intOf v).toNat)
  case atStart=>exact⟨0,rfl,by omega,fun j u hj=>by omega,HB0⟩
  case round =>
   obtain⟨i,rfl,hi,lq,aA⟩:=hrel;by_cases hlt:i<n
   ·obtain⟨Y,hY⟩:∃ y,ys[i]?=some y:=⟨_,zbC (by rw[H2.out,<- bH.out];exact hlt)⟩
    obtain⟨t,ht⟩:∃ y,g[i]?=some y:=⟨_,zbC (by rw[<- bH.out];exact hlt)⟩
    have CX:∀ (j:Nat) (u:Value),j<7->Y.cells[j]?=some u->wr.cell? ⟨b,off+(i*7+j),none⟩=some u:=fun j u hj hu =>
     (aA.out.cell (p:=⟨b,off+(i*7+j),none⟩) g3).trans (G4.out _ u ((uI ys i j Y hY hj).trans hu))
    obtain⟨en,hto,_⟩:=H3.out i Y t hY ht;have nW:=hh9 (HT.out wr aA.out Y);have hq:=Rh hto HX.out;rw[<- HS.out,<- en]at hq;rw[hq]at nW;obtain⟨nm,⟨k,tx,nv,lo,hi',kv⟩⟩:=Y;have e0:=CX 0 _ (by omega) rfl;have e1:=CX 1 _ (by omega) rfl;have e2:=CX 2 _ (by omega) rfl;have e3:=CX 3 _ (by omega) rfl;have e4:=CX 4 _ (by omega) rfl;have e5:=CX 5 _ (by omega) rfl;have e6:=CX 6 _ (by omega) rfl;rw[<- Nat.add_assoc]at e0 e1 e2 e3 e4 e5 e6;rw[Nat.add_zero]at e0;simp only[]at e0 e1 e2 e3 e4 e5 e6;unfold RV.val RV.arr at nW;simp only[]at nW;by_cases hc:t.name=x
    ·rw[zbN hc]at nW;have HV:=hh9 (show N=i by rw[HN.out];exact XB ht hc lq.out);clear CX hq hY ht hto en hc;go_wp2_with (go_at_call 34;refine nW.out.mono ?_;rintro e w1 ⟨rfl,hb⟩;have HB1:=hh9 (aJ aA.out hb);clear hb)
     go_ret;exact⟨by rw[HV.out];rfl,HB1.out⟩
    ·rw[zbM hc]at nW
     have EO:Hid (∀ (j:Nat) (u:GR),j<i+1->g[j]?=some u->u.name≠x):=fun j u hj hu=>by
      by_cases hji:j<i
      ·exact lq.out j u hji hu
      ·obtain rfl:j=i:=by omega
       rw[ht]at hu;rw[<- zbB hu];exact hc
     clear CX hq hY ht hto en hc;go_wp2_with (go_at_call 34;refine nW.out.mono ?_;rintro e w1 ⟨rfl,hb⟩;have HB1:=hh9 (aJ aA.out hb);clear hb)
     go_roundw
     case rel=>exact⟨i+1,by go_num,by omega,EO,HB1⟩
     case measure=>simp[intOf];omega
   ·obtain rfl:i=n:=by omega
    obtain rfl:N=-1:=by rw[HN.out];exact XC (fun j u hj=>lq.out j u (by rw[bH.out];exact hj))
    go_wp2_with fail
    go_ret;exact⟨rfl,aA.out⟩
theorem Zb{w:World}{v:Value}{ys:List RV}{g:List GR}{x:List Int}(h:qF w v ys g)(hx:bJ x):Calls Tryz.prog 17 #[v,.string (ak x)] w (JX (uz g x) w):=by
 have hb0:Below w.heap.size w (w.alloc (.cells #[.string (ak x)] 9)):=(zbE _ _).alloc (zbA _) _;have HI:=hh9 (zuo (c:=w.heap.size) (h.below hb0) hx (by have hh:=zbO w (Obj.cells #[.string (ak x)] 9);simp only[World.cell?,hh];rfl) (by simp));have HB0:=hh9 hb0;have hone:v.oneCell'=true:=h.1.one;obtain⟨s,hs⟩:∃ s,s=ak x:=⟨_,rfl⟩
 rw[<- hs]at HI HB0 ⊢;obtain⟨N,hN⟩:∃ N,N=uz g x:=⟨_,rfl⟩
 rw[<- hN]at HI ⊢;clear hb0 h hs hN hx;go_enter Tryz.func17,Tryz.ntmps17;go_wp2_with (go_at_call 33;refine HI.out.mono ?_;rintro e w1 ⟨rfl,hb⟩;have HB1:=hh9 (aJ HB0.out hb);clear hb)
 go_ret;exact⟨rfl,HB1.out⟩
end Go.Proofs.YtahibnnhjahmnaaGreatDoor
namespace Go.Proofs.YtahibnnhjahmnaaGreatDoor
open Go.RowKit Go.Shelf
attribute [local go_sem] Oper.semAt_some
def xu(W:World)(ys:List RV)(g:List GR):Prop:=∀ (i:Nat) (y:RV) (r:GR),ys[i]?=some y->g[i]?=some r->dX W (fun _=>True) y.expr r.expr/\dep r.expr<=9000/\(bn r.expr).length<=1000000
theorem xu.kept{W W':World}{ys:List RV}{g:List GR}(h:xu W ys g)(hk:zap (fun _=>False) W W'):xu W' ys g:=fun i y r hy hr=>⟨(h i y r hy hr).1.kept hk (fun b _ _=>⟨id,trivial⟩),(h i y r hy hr).2⟩
theorem xu.push{W:World}{ys:List RV}{g:List GR}(h:xu W ys g)(hl:ys.length=g.length){Y:RV}{r:GR}(hn:dX W (fun _=>True) Y.expr r.expr/\dep r.expr<=9000/\(bn r.expr).length<=1000000):xu W (ys++[Y]) (g++[r]):=by
 intro i y r' hy hr';by_cases hi:i<ys.length
 ·rw[zbK hi]at hy;rw[zbK (by omega)]at hr';exact h i y r' hy hr'
 ·have e:i=ys.length:=by
   have:=(zbF.1 hy).1;simp at this;omega
  subst e;rw[zbL (zbA _)]at hy;rw[zbL (by omega),hl]at hr';simp at hy hr';subst hy hr';exact hn
structure CS (w W:World) (base R m b3 bc:Nat) (vc:Value) (oO:List RV) (v:Value) (ys:List RV) (g:List GR):Prop where
 box:Go.Boxed W w.heap.size 97 (.pointer (some ⟨R,0,none⟩))
 res:Go.Boxed W (w.heap.size+1) 49 (.int .i64 0)
 core:Go.Boxed W b3 25 vc
 cr:zm W bc vc oO fJ
 gB:pJ W base R m v ys g
 ex:xu W ys g
 sep:∀ b,v.ownBlock=some b->vc.ownBlock≠some b
 old:∀ b,v.ownBlock=some b->b≠w.heap.size/\b≠w.heap.size+1/\b≠b3
 dP:∀ n0,n0<=R->n0<=m->n0<=base->n0<=w.heap.size->Below n0 w W
theorem zup{W W':World}(hs:W.heap.size<=W'.heap.size)(h:∀ (b:Nat) (c:Array Value) (t:TypeId) (z:Nat × Nat),W.heap[b]?=some (.cells c t z)->W'.heap[b]?=some (.cells c t z)):zap (fun _=>False) W W':=⟨hs,fun b c t z _ _ hb=>h b c t z hb⟩
theorem AY{W W':World}{base size n:Nat}{e:TypeId}{v:Value}{xs:List Value}(h:W.ownsRow base e size v n xs)(hk:∀ b,v.ownBlock=some b->W'.heap[b]?=W.heap[b]?):W'.ownsRow base e size v n xs:=by
 refine⟨h.1,?_⟩;rcases h.2 with hn|⟨g,cap,cur,hv,hb,hg',rest⟩
 ·exact .inl hn
 ·exact .inr ⟨g,cap,cur,hv,hb,(hk g (by rw[hv];rfl)).trans hg',rest⟩
theorem ou{W:World}{base size n b:Nat}{e:TypeId}{v:Value}{xs:List Value}(h:W.ownsRow base e size v n xs)(hb:v.ownBlock=some b):∃ cur,W.heap[b]?=some (.cells cur e (0,0)):=by
 rcases h.2 with ⟨rfl,_⟩|⟨g,cap,cur,rfl,_,hg,_⟩
 ·simp[Value.ownBlock]at hb
 ·simp[Value.ownBlock]at hb;subst hb;exact⟨_,hg⟩
theorem CS.moved{w W W':World}{base R m b3 bc:Nat}{vc:Value}{oO:List RV}{v:Value}{ys:List RV}{g:List GR}(h:CS w W base R m b3 bc vc oO v ys g)(hs:W.heap.size<=W'.heap.size)
  (hc:∀ (b:Nat) (c:Array Value) (t:TypeId) (z:Nat × Nat),W.heap[b]?=some (.cells c t z)->W'.heap[b]?=some (.cells c t z)) (hm:W'.heap[m]?=W.heap[m]?) (hb:∀ n0,n0<=R->n0<=m->n0<=base->n0<=w.heap.size->Below n0 W W'):CS w W' base R m b3 bc vc oO v ys g:=by
 have hkc:=zup hs hc
 have hrow:∀ {base size n:Nat} {e:TypeId} {v:Value} {xs:List Value},W.ownsRow base e size v n xs->W'.ownsRow base e size v n xs:=fun hr=>AY hr (fun b hb=>by
  obtain⟨cur,hcur⟩:=ou hr hb;exact(hc b _ _ _ hcur).trans hcur.symm)
 refine⟨hc _ _ _ _ h.box,hc _ _ _ _ h.res,hc _ _ _ _ h.core,⟨hrow h.cr.1,h.cr.2.1,fun i y r hy hr=>⟨(h.cr.2.2 i y r hy hr).1,(h.cr.2.2 i y r hy hr).2.1,(h.cr.2.2 i y r hy hr).2.2.kept hkc (fun b hb _=>⟨id,hb⟩)⟩⟩,?_,h.ex.kept hkc,h.sep,h.old,fun n0 h1 h2 h3 h4=>(h.dP n0 h1 h2 h3 h4).trans (hb n0 h1 h2 h3 h4)⟩;obtain⟨D,hD,kU⟩:=h.gB.map;exact⟨hc _ _ _ _ h.gB.blk,hrow h.gB.row,h.gB.len,⟨D,tQ hD hm,kU⟩,h.gB.name⟩
theorem CS.below{w W W':World}{base R m b3 bc:Nat}{vc:Value}{oO:List RV}{v:Value}{ys:List RV}{g:List GR}(h:CS w W base R m b3 bc vc oO v ys g)(hb:Below W.heap.size W W'):CS w W' base R m b3 bc vc oO v ys g:=by
 obtain⟨D,hD,_⟩:=h.gB.map;refine h.moved hb.size (fun b c t z hc=>(hb.block b (zbD.1 hc).1).trans hc) (hb.block m hD.lt) (fun n0 h1 h2 h3 h4=>hb.mono ?_);have:=(h.dP n0 h1 h2 h3 h4).size;omega
theorem CS.added{w W W':World}{base R m b3 bc:Nat}{vc:Value}{oO:List RV}{v v':Value}{ys:List RV}{g:List GR}{Y:RV}{r:GR}(h:CS w W base R m b3 bc vc oO v ys g)(hR:R<w.heap.size)(hm:m<w.heap.size)(hbc:w.heap.size<=bc)(hb3:w.heap.size<=b3)
  (hex:dX W (fun _=>True) Y.expr r.expr/\dep r.expr<=9000/\(bn r.expr).length<=1000000)
  (hg:pJ W' base R m v' (ys++[Y]) (g++[r])) (hk:zap (fun _=>False) W W') (ho:∀ b,b<W.heap.size->b≠R->b≠m->v.ownBlock≠some b->W'.heap[b]?=W.heap[b]?) (hat:v'.ownBlock=v.ownBlock\/∃ k,v'.ownBlock=some k/\W.heap.size<=k)
  (hb:∀ n0,n0<=R->n0<=m->n0<=base->Below n0 W W'):CS w W' base R m b3 bc vc oO v' (ys++[Y]) (g++[r]):=by
 have l1:=h.box.lt;have l2:=h.res.lt;have l3:=h.core.lt;have keep:∀ b,b<W.heap.size->w.heap.size<=b->v.ownBlock≠some b->W'.heap[b]?=W.heap[b]?:=fun b hl hw hv=>ho b hl (by omega) (by omega) hv
 have hrc:∀ b,vc.ownBlock=some b->w.heap.size<=b/\b<W.heap.size:=fun b hb=>by
  have h1:=lD h.cr.1 b hb;obtain⟨cur,hcur⟩:=ou h.cr.1 hb;have:=(zbD.1 hcur).1;omega
 refine⟨(keep _ l1 (zbA _) (fun e=>(h.old _ e).1 rfl)).trans h.box,(keep _ l2 (by omega) (fun e=>(h.old _ e).2.1 rfl)).trans h.res,(keep _ l3 hb3 (fun e=>(h.old _ e).2.2 rfl)).trans h.core,
  ⟨AY h.cr.1 (fun b hb=>keep b (hrc b hb).2 (hrc b hb).1 (fun e=>h.sep b e hb)),h.cr.2.1,fun i y r hy hr=>⟨(h.cr.2.2 i y r hy hr).1,(h.cr.2.2 i y r hy hr).2.1,(h.cr.2.2 i y r hy hr).2.2.kept hk (fun b hb _=>⟨id,hb⟩)⟩⟩,
  hg,(h.ex.push h.gB.len hex).kept hk,fun b hb hb'=>?_,fun b hb=>?_,fun n0 h1 h2 h3 h4=>(h.dP n0 h1 h2 h3 h4).trans (hb n0 h1 h2 h3)⟩
 ·rcases hat with e|⟨k,e,hk⟩
  ·exact h.sep b (by rw[<- e];exact hb) hb'
  ·rw[e]at hb;have:=zbB hb;have:=hrc b hb';omega
 ·rcases hat with e|⟨k,e,hk⟩
  ·exact h.old b (by rw[<- e];exact hb)
  ·rw[e]at hb;have:=zbB hb;omega
def KN(w:World)(base R m b3 bc:Nat)(vc:Value)(oO:List RV)(g0:List GR)(pre:List NX)(W:World):Prop:=∃ (v:Value) (ys:List RV) (g:List GR),jw g0 (NX.vals pre)=some g/\CS w W base R m b3 bc vc oO v ys g
def KO(w:World)(R m base:Nat)(g0:List GR)(c:Code)(pre:List NX)(W:World):Prop :=
 c=.ret/\jw g0 (NX.vals pre)=none/\Go.Boxed W (w.heap.size+1) 49 (.int .i64 40)/\∀ n0,n0<=R->n0<=m->n0<=base->n0<=w.heap.size->Below n0 w W
theorem qet{w:World}{base R m b3 bc B:Nat}{vc:Value}{oO:List RV}{g0:List GR}(hmB:m<B)(hB:w.heap.size<=B):OwnFrom B (KN w base R m b3 bc vc oO g0):=by
 intro pre W W' row ⟨v,ys,g,h1,h2⟩ hg hr;refine⟨v,ys,g,h1,h2.moved hg.size (fun b c t z hc=>(hg.block b (zbD.1 hc).1 (fun e=>?_)).trans hc) ?_ (fun n0 a1 a2 a3 a4=>?_)⟩
 ·obtain⟨_,o,ho,hoc⟩:=hr b e.symm;rw[hc]at ho;have:=zbB ho;subst this
  cases hoc
 ·obtain⟨D,hD,_⟩:=h2.gB.map;exact hg.block m hD.lt (fun e=>by have:=(hr m e.symm).1;omega)
 ·refine⟨hg.os,hg.tape,hg.output,hg.size,fun k hk=>hg.block k ?_ (fun e=>by have:=(hr k e.symm).1;omega)⟩;have:=(h2.dP n0 a1 a2 a3 a4).size;omega
theorem qeu{w:World}{base R m B:Nat}{g0:List GR}(hB:w.heap.size<=B)(c:Code):OwnFrom B (KO w R m base g0 c):=by
 intro pre W W' row ⟨h1,h2,h3,h4⟩ hg hr;refine⟨h1,h2,(hg.block _ h3.lt (fun e=>?_)).trans h3,fun n0 a1 a2 a3 a4=>(h4 n0 a1 a2 a3 a4).trans ⟨hg.os,hg.tape,hg.output,hg.size,fun k hk=>hg.block k ?_ (fun e=>by have:=(hr k e.symm).1;omega)⟩⟩
 ·obtain⟨_,o,ho,hoc⟩:=hr _ e.symm;rw[show W.heap[w.heap.size+1]?=_ from h3]at ho;have:=zbB ho;subst this
  cases hoc
 ·have:=(h4 n0 a1 a2 a3 a4).size;omega
theorem zrh{W:World}{base:Nat}{v:Value}{ys:List RV}(h:zm W base v ys fJ):∃ g cap,v=.slice (some ⟨g,0,none⟩) 16 cap:=by
 have hl:fJ.length=16:=by decide +kernel
 have hr:=h.1;rw[hl]at hr;rcases fB hr with ⟨_,h0⟩|⟨g,cap,rfl⟩
 ·omega
 ·exact⟨g,cap,rfl⟩
def Zd(base R m:Nat)(Rr:Option (List GR))(w:World)(e:Ending)(w':World):Prop :=
 (Rr=none->e=.returned (.int .i64 40))/\(∀ g',Rr=some g'->e=.returned (.int .i64 0)/\∃ v' ys',pJ w' base R m v' ys' g'/\xu w' ys' g')/\∀ n0,n0<=R->n0<=m->n0<=base->n0<=w.heap.size->Below n0 w w'
def OG(Ds:List Nat):List Deferred:=Ds.map fun D=>{ target:=.collected D,args:=#[] }
theorem Ze{F:Fence}{n:Nat}{P:Program}{fn:Func}{tmps:Array Value}{R:Ending->World->Prop}:∀ (Ds:List Nat) (W:World),Ds.Nodup->(∀ D∈Ds,W.heap[D]?=some (.deferred (some []))) ->
  (∀ W':World,W'.os=W.os->W'.tape=W.tape->W'.output=W.output->W'.heap.size=W.heap.size->(∀ b,b ∉ Ds->W'.heap[b]?=W.heap[b]?)->∃ v,(results fn tmps).run P W'=.ok v W'/\R (.returned v) W') ->
  LeavesInM F n P fn tmps R (OG Ds) .returning W:=by
 intro Ds
 induction Ds with
 |nil =>
  intro W _ _ h;obtain⟨v,h1,h2⟩:=h W rfl rfl rfl rfl (fun _ _=>rfl);exact⟨v,h1,h2⟩
 |cons D Ds ih =>
  intro W hn hd h;have hD:=hd D (by simp);rw[List.nodup_cons]at hn;refine⟨by simp,.inl ⟨D,W.putObj D (.deferred none),rfl,run_takeDeferred hD,?_⟩⟩;refine ih _ hn.2 (fun E hE=>?_) (fun W' h1 h2 h3 h4 h5=>?_)
  ·rw[World.putObj_heap_other (by rintro rfl;exact hn.1 hE)];exact hd E (by simp[hE])
  ·refine h W' h1 h2 h3 (h4.trans (by simp[World.putObj])) (fun b hb=>?_);simp only[List.mem_cons,not_or]at hb;rw[h5 b hb.2,World.putObj_heap_other (fun e=>hb.1 e)]
end Go.Proofs.YtahibnnhjahmnaaGreatDoor
